/- Part 14 of the texts. -/
import Derived.Test.YtdhmglmccafbnaaGreatDoorPartw13
namespace Go.Proofs.YtdhmglmccafbnaaGreatDoor
open Go.RowKit
theorem jE(r:Nat):rv r=0↔r=0:=by
 constructor
 ·intro h
  rcases Nat.eq_zero_or_pos r with e|e
  ·exact e
  ·have:=sm e;rw[dH]at this;omega
 ·intro h;rw[h,dH]
theorem aR(b:Nat):fK b=0↔fR b=0:=by
 have h:=kf b
 have hF:fF b=fR b%4503599627370496:=by unfold fF fR;omega
 have d:fP b=fR b/4503599627370496:=rfl
 unfold fK
 rw[hF,d]
 generalize fR b=r at*
 split
 ·split<;>constructor<;>intro _<;>omega
 ·split
  ·split<;>constructor<;>intro _<;>omega
  ·constructor<;>intro _<;>omega
def mV(a b:Nat):Nat:=
 if fK a=4∨fK b=4 then 9221120237041090560
 else if fK a=3∨fK b=3 then(if fK a=0∨fK b=0 then 9221120237041090560 else bY (fS a^^fS b) 9218868437227405312)
 else bY (fS a^^fS b) (bf (rv (fR a)*rv (fR b)) (-2148))
def mF(a b:Nat):Int:=
 if fK a=4∨fK b=4 then 0
 else if fK a=3∨fK b=3 then(if fK a=0∨fK b=0 then 16 else 0)
 else if fK a=0∨fK b=0 then 0
 else bj (oM (fZ a*fZ b)).natAbs (oE (fZ a*fZ b) (-2148))
def mN(a b:Nat):Bool:=decide ((fK a=4∨fK b=4)∨((fK a=3∨fK b=3)∧(fK a=0∨fK b=0)))
theorem bM(a b:Nat):mV a b<18446744073709551616:=by
 have h:=cH (rv (fR a)*rv (fR b)) (-2148)
 unfold mV
 split
 ·omega
 ·split
  ·split
   ·omega
   ·exact ee _ _ (by omega)
  ·exact ee _ _ (by omega)
theorem xr(a b:Nat):mV a b=mV b a∧mF a b=mF b a:=by
 have d:(fK a=4∨fK b=4)↔(fK b=4∨fK a=4):=Or.comm
 have f:(fK a=3∨fK b=3)↔(fK b=3∨fK a=3):=Or.comm
 have h:(fK a=0∨fK b=0)↔(fK b=0∨fK a=0):=Or.comm
 unfold mV mF
 rw[Bool.xor_comm (fS b) (fS a),Nat.mul_comm (rv (fR b)),Int.mul_comm (fZ b)]
 simp only[d,f,h,and_self]
theorem cn{m k r:Nat}(h:m*2^k=rv r):m=0↔r=0:=by
 have d:0<2^k:=Nat.two_pow_pos _
 rw[←jE r,←h]
 constructor
 ·intro e;rw[e,Nat.zero_mul]
 ·intro e;rcases Nat.mul_eq_zero.1 e with e|e<;>omega
theorem pE(a b:Nat)(l:a<18446744073709551616)(u:b<18446744073709551616)(h:mN a b=true):Ieee.double.mul a b=none∧mV a b=9221120237041090560:=by
 unfold Ieee.Format.mul
 rcases of_decide_eq_true h with(h|h)|⟨d,G⟩
 ·obtain⟨s,f,e⟩:=dD a l h
  refine⟨by rw[e];rfl,?_⟩
  unfold mV;rw[if_pos (Or.inl h)]
 ·obtain⟨s,f,e⟩:=dD b u h
  refine⟨?_,?_⟩
  ·rw[e];cases Ieee.double.read a<;>rfl
  ·unfold mV;rw[if_pos (Or.inr h)]
 ·refine⟨?_,?_⟩
  ·rcases d with d|d
   ·have z:fK b=0:=by rcases G with h|h<;>omega
    obtain⟨m,k,e,F⟩:=bV b u (aY b (by omega) (by omega))
    have:m=0:=(cn F).2 ((aR b).1 z)
    rw[bP a l d,e,this];rfl
   ·have D:fK a=0:=by rcases G with h|h<;>omega
    obtain⟨m,k,e,F⟩:=bV a l (aY a (by omega) (by omega))
    have:m=0:=(cn F).2 ((aR a).1 D)
    rw[bP b u d,e,this];rfl
  ·unfold mV
   by_cases H:fK a=4∨fK b=4
   ·rw[if_pos H]
   ·rw[if_neg H,if_pos d,if_pos G]
theorem kZ(a b:Nat)(L:a<18446744073709551616)(l:b<18446744073709551616)(h:mN a b=false):Ieee.double.mul a b=some (mV a b):=by
 have M:=of_decide_eq_false h
 have N:¬(fK a=4∨fK b=4):=fun e=>M (Or.inl e)
 have u:(fK a=3∨fK b=3)→¬(fK a=0∨fK b=0):=fun e D=>M (Or.inr ⟨e,D⟩)
 unfold Ieee.Format.mul mV
 rw[if_neg N]
 by_cases f:fK a=3
 ·rw[if_pos (Or.inl f),if_neg (u (Or.inl f)),bP a L f]
  by_cases d:fK b=3
  ·rw[bP b l d]
   show some (Ieee.double.write (.infinity (fS a^^fS b)))=_
   rw[dp]
  ·obtain⟨m,k,e,z⟩:=bV b l (aY b d (by omega))
   have G:m≠0:=fun F=>u (Or.inl f) (Or.inr ((aR b).2 ((cn z).1 F)))
   rw[e]
   show Option.map Ieee.double.write (if m=0 then none else some (.infinity (fS a^^fS b)))=_
   rw[if_neg G,Option.map_some,dp]
 ·obtain⟨m,k,e,z⟩:=bV a L (aY a f (by omega))
  rw[e]
  by_cases d:fK b=3
  ·have G:m≠0:=fun F=>u (Or.inr d) (Or.inl ((aR a).2 ((cn z).1 F)))
   rw[if_pos (Or.inr d),if_neg (u (Or.inr d)),bP b l d]
   show Option.map Ieee.double.write (if m=0 then none else some (.infinity (fS b^^fS a)))=_
   rw[if_neg G,Option.map_some,dp,Bool.xor_comm]
  ·obtain⟨H,J,D,K⟩:=bV b l (aY b d (by omega))
   rw[if_neg (by omega),D]
   show some (Ieee.double.nearest (fS a^^fS b) (m*H) (-1074+(k:Int)+(-1074+(J:Int))))=_
   rw[dg]
   congr 2
   rw[←z,←K,show m*2^k*(H*2^J)=m*H*2^(k+J) by rw[Nat.pow_add];ac_rfl,dk]
   congr 1
   omega
theorem ij(b:Nat)(l:b<18446744073709551616)(u:aA b=true)(z:fK b≠0):
  ∃β:Nat,fX b= -1074+(β:Int)∧rv (fR b)=(fD b).natAbs*2^β∧(fD b).natAbs%2=1∧(fD b).natAbs<9007199254740992:=by
 obtain⟨f,G⟩:=dC b l u
 have D:fR b≠0:=fun e=>z ((aR b).2 e)
 have d:fZ b≠0:=fun e=>D ((jE _).1 (by rw[←fY,e];rfl))
 have h:=zA (fZ b) d
 have F:=dz (fZ b) (-1074) d
 refine⟨tz (fZ b).natAbs,by rw[←G,F],by rw[←fY,h,f];congr 2;rw[←f,←h],?_,?_⟩
 ·have:=(gj (fZ b) d).2
  rw[f]at this
  omega
 ·have:(oM (fM b)).natAbs≤(fM b).natAbs:=vB _
  have H:=rX b
  show(oM (fM b)).natAbs<_
  omega
def qS(a b:Nat):Nat:=cq ((fD a).natAbs*2^180) (fD b).natAbs
def qV(a b:Nat):Nat:=bf (qS a b) (fX a-fX b-181)
def qF(a b:Nat):Int:=bj (oM (qS a b:Nat)).natAbs (oE (qS a b:Nat) (fX a-fX b-181))
def dV(a b:Nat):Nat:=
 if fK a=4∨fK b=4 then 9221120237041090560
 else if fK a=fK b∧(fK a=3∨fK a=0)then 9221120237041090560
 else if fK a=3 then bY (fS a^^fS b) 9218868437227405312
 else if fK b=3∨fK a=0 then bY (fS a^^fS b) 0
 else if fK b=0 then bY (fS a^^fS b) 9218868437227405312
 else bY (fS a^^fS b) (qV a b)
def dF(a b:Nat):Int:=
 if fK a=4∨fK b=4 then 0
 else if fK a=fK b∧(fK a=3∨fK a=0)then 16
 else if fK a=3 then 0
 else if fK b=3∨fK a=0 then 0
 else if fK b=0 then 8
 else qF a b
def dN(a b:Nat):Bool:=decide ((fK a=4∨fK b=4)∨(fK a=fK b∧(fK a=3∨fK a=0)))
theorem su(a b:Nat):dV a b<18446744073709551616:=by
 have h:qV a b≤9218868437227405312:=cH _ _
 have d:=ee (fS a^^fS b) 9218868437227405312 (by decide)
 have f:=ee (fS a^^fS b) 0 (by decide)
 have l:=ee (fS a^^fS b) (qV a b) (by omega)
 unfold dV
 repeat' split
 all_goals omega
theorem vI(o d:Nat)(h:1≤o)(D:d<9007199254740992)(f:0<d):9007199254740992≤o*2^180/d:=by
 rw[Nat.le_div_iff_mul_le f]
 have l:9007199254740992*d≤9007199254740992*9007199254740992:=Nat.mul_le_mul_left _ (by omega)
 have u:9007199254740992*9007199254740992≤1*2^180:=by decide+kernel
 have z:1*2^180≤o*2^180:=Nat.mul_le_mul_right _ h
 exact Nat.le_trans l (Nat.le_trans u z)
theorem DA(a b:Nat)(J:a<18446744073709551616)(K:b<18446744073709551616)(L:aA a=true)(M:aA b=true)(N:fK a≠0)(O:fK b≠0)
  (m k n j p:Nat) (Q:m*2^k=rv (fR a)) (U:n*2^j=rv (fR b)) (l:0<n) (D:9007199254740992≤m*2^p/n):
  bf (cq (m*2^p) n) ((k:Int)-j-p-1)=qV a b:=by
 obtain⟨α,Y,Z,x3,x4⟩:=ij a J L N
 obtain⟨β,y1,y2,y3,y4⟩:=ij b K M O
 unfold qV qS
 rw[Y,y1,show-1074+(α:Int)-(-1074+(β:Int))-181=((α:Int)-β-1)-(180:Nat) by omega]
 have f:=vI (fD a).natAbs (fD b).natAbs (by omega) y4 (by omega)
 generalize (fD a).natAbs=h at*
 generalize (fD b).natAbs=d at*
 have u:∀i:Nat,0<2^i:=fun i=>Nat.two_pow_pos i
 --more digits,then both sides times a power
 obtain⟨H,_,_,_⟩:=kh (m*2^p) n (k+β) ((k:Int)-j-p-1) l D
 have F:m*2^p*2^(k+β)*2^j=h*2^(α+p+j)*2^β:=by
  rw[Nat.pow_add,show m*2^p*(2^k*2^β)*2^j=(m*2^k)*(2^p*2^β*2^j) by ac_rfl,Q,Z,Nat.pow_add,Nat.pow_add]
  ac_rfl
 have G:n*2^j=d*2^β:=by rw[U,y2]
 have V:cq (m*2^p*2^(k+β)) n=cq (h*2^(α+p+j)) d:=by
  rw[←nC _ n j,F,G,nC]
 rw[V]at H
 rw[←H]
 have z:9007199254740992≤h*2^(α+p+j)/d:=by
  have X:h*2^(α+p+j)/d=m*2^p*2^(k+β)/n:=by
   rw[←Nat.mul_div_mul_right _ d (u β),←F,←G,Nat.mul_div_mul_right _ n (u j)]
  rw[X]
  refine Nat.le_trans D (Nat.div_le_div_right ?_)
  exact Nat.le_mul_of_pos_right _ (u _)
 have:=vH h d (α+p+j) 180 ((α:Int)-β-1) (by omega) z f
 rw[←this]
 congr 1
 omega
theorem pF(a b:Nat)(l:a<18446744073709551616)(u:b<18446744073709551616)(h:dN a b=true):Ieee.double.div a b=none∧dV a b=9221120237041090560:=by
 unfold Ieee.Format.div
 rcases of_decide_eq_true h with(h|h)|⟨K,d⟩
 ·obtain⟨s,f,e⟩:=dD a l h
  refine⟨by rw[e];rfl,?_⟩
  unfold dV;rw[if_pos (Or.inl h)]
 ·obtain⟨s,f,e⟩:=dD b u h
  refine⟨?_,?_⟩
  ·rw[e];cases Ieee.double.read a<;>rfl
  ·unfold dV;rw[if_pos (Or.inr h)]
 ·refine⟨?_,?_⟩
  ·rcases d with d|d
   ·rw[bP a l d,bP b u (by omega)];rfl
   ·obtain⟨m,k,e,G⟩:=bV a l (aY a (by omega) (by omega))
    obtain⟨n,j,H,J⟩:=bV b u (aY b (by omega) (by omega))
    have D:m=0:=(cn G).2 ((aR a).1 d)
    have F:n=0:=(cn J).2 ((aR b).1 (by omega))
    rw[e,H,D,F];rfl
  ·unfold dV
   by_cases z:fK a=4∨fK b=4
   ·rw[if_pos z]
   ·rw[if_neg z,if_pos ⟨K,d⟩]
theorem pG(a b:Nat)(J:a<18446744073709551616)(G:b<18446744073709551616)(h:dN a b=false):Ieee.double.div a b=some (dV a b):=by
 have U:=of_decide_eq_false h
 have X:¬(fK a=4∨fK b=4):=fun e=>U (Or.inl e)
 have K:¬(fK a=fK b∧(fK a=3∨fK a=0)):=fun e=>U (Or.inr e)
 unfold Ieee.Format.div dV
 rw[if_neg X,if_neg K]
 by_cases f:fK a=3
 ·obtain⟨n,j,N,F⟩:=bV b G (aY b (fun e=>K ⟨by omega,Or.inl f⟩) (by omega))
  rw[if_pos f,bP a J f,N]
  show some (Ieee.double.write (.infinity (fS a^^fS b)))=_
  rw[dp]
 ·obtain⟨m,k,e,O⟩:=bV a J (aY a f (by omega))
  rw[if_neg f,e]
  by_cases H:fK b=3
  ·rw[if_pos (Or.inl H),bP b G H]
   show some (Ieee.double.nearest (fS a^^fS b) 0 0)=_
   rw[dg,kg]
  ·obtain⟨n,j,N,F⟩:=bV b G (aY b H (by omega))
   rw[N]
   show Option.map Ieee.double.write (if n=0 then if m=0 then none else some (.infinity (fS a^^fS b))else some (.number (fS a^^fS b) (2*(m <<< (54+n.log2-m.log2)/n)+(m <<< (54+n.log2-m.log2)%n != 0).toNat) (-1074+(k:Int)-(-1074+(j:Int))-((54+n.log2-m.log2:Nat):Int)-1)))=_
   by_cases l:fK a=0
   ·have z:m=0:=(cn O).2 ((aR a).1 l)
    have d:n≠0:=fun u=>K ⟨by rw[l,(aR b).2 ((cn F).1 u)],Or.inr l⟩
    rw[if_pos (Or.inr l),if_neg d,z,Nat.zero_shiftLeft,Nat.zero_div,Nat.zero_mod]
    show some (Ieee.double.nearest (fS a^^fS b) 0 _)=_
    rw[dg,kg]
   ·have z:m≠0:=fun u=>l ((aR a).2 ((cn O).1 u))
    have L:¬(fK b=3∨fK a=0):=by omega
    rw[if_neg L]
    by_cases D:fK b=0
    ·have d:n=0:=(cn F).2 ((aR b).1 D)
     rw[if_pos D,if_pos d,if_neg z,Option.map_some,dp]
    ·have d:n≠0:=fun u=>D ((aR b).2 ((cn F).1 u))
     rw[if_neg D,if_neg d]
     have M:2*(m <<< (54+n.log2-m.log2)/n)+(m <<< (54+n.log2-m.log2)%n != 0).toNat=cq (m*2^(54+n.log2-m.log2)) n:=by
      rw[Nat.shiftLeft_eq]
      unfold cq
      congr 1
      split
      ·rename_i Q;rw[Q];rfl
      ·rename_i Q;simp[Q]
     rw[M]
     show some (Ieee.double.nearest (fS a^^fS b) (cq (m*2^(54+n.log2-m.log2)) n) _)=_
     rw[dg]
     have V:=aU m z
     have Y:=aU n d
     have Z:bl m=m.log2+1:=by unfold bl;rw[if_neg z]
     have l2:bl n=n.log2+1:=by unfold bl;rw[if_neg d]
     rw[Z,show m.log2+1-1=m.log2 by omega]at V
     rw[l2]at Y
     have hq:9007199254740992≤m*2^(54+n.log2-m.log2)/n:=by
      rw[Nat.le_div_iff_mul_le (by omega)]
      have h1:9007199254740992*n≤2^53*2^(n.log2+1):=by rw[yB];exact Nat.mul_le_mul_left _ (by omega)
      have h2:(2:Nat)^53*2^(n.log2+1)≤2^m.log2*2^(54+n.log2-m.log2):=by
       rw[←Nat.pow_add,←Nat.pow_add];exact dG (by omega)
      have h3:2^m.log2*2^(54+n.log2-m.log2)≤m*2^(54+n.log2-m.log2):=Nat.mul_le_mul_right _ V.2.1
      omega
     have:=DA a b J G (aY a f (by omega)) (aY b H (by omega)) l D m k n j (54+n.log2-m.log2) O F (by omega) hq
     rw[←this]
     congr 3
     omega
theorem Hp(b:Nat)(f:aA b=true):bf (fD b).natAbs (fX b)=fR b:=by
 have h:=zw b f
 have d:=jg (fM b) (fE b)
 rw[FL]at d
 exact d.1.trans h.1
theorem FY(b:Nat)(f:b<18446744073709551616)(d:aA b=true):bf (rv (fR b)) (-1074)=fR b:=by
 obtain⟨l,u⟩:=dC b f d
 have h:=(jg (fZ b) (-1074)).1
 rw[l,u,fY,Hp b d]at h
 exact h.symm
theorem ki(a:Nat)(d:aA a=true)(f:fK a≠0):fK a≠3∧fK a≠4∧fK a≠0:=⟨(bD d).1,(bD d).2,f⟩
theorem zH(a b:Nat)(f:aA a=true)(h:aA b=true)(l:fK a≠0)(d:fK b≠0):dV a b=bY (fS a^^fS b) (qV a b)∧dF a b=qF a b:=by
 obtain⟨F,G,_⟩:=ki a f l
 obtain⟨H,J,_⟩:=ki b h d
 have u:¬(fK a=4∨fK b=4):=by omega
 have z:¬(fK a=fK b∧(fK a=3∨fK a=0)):=by omega
 have D:¬(fK b=3∨fK a=0):=by omega
 unfold dV dF
 simp only[if_neg u,if_neg z,if_neg F,if_neg D,if_neg d,and_self]
theorem k5(a b:Nat)(d:aA a=true)(f:aA b=true)(h:fK a≠0)(l:fK b≠0):mV a b=bY (fS a^^fS b) (bf (rv (fR a)*rv (fR b)) (-2148))∧mF a b=bj (oM (fZ a*fZ b)).natAbs (oE (fZ a*fZ b) (-2148)):=by
 obtain⟨F,G,_⟩:=ki a d h
 obtain⟨H,J,_⟩:=ki b f l
 have u:¬(fK a=4∨fK b=4):=by omega
 have z:¬(fK a=3∨fK b=3):=by omega
 have D:¬(fK a=0∨fK b=0):=by omega
 unfold mV mF
 simp only[if_neg u,if_neg z,if_neg D,and_self]
theorem kj{v:Nat}{E:Int}(d:v≠0)(h:1024<(bl v:Int)+E):bf v E=9218868437227405312∧bj v E=5:=by
 unfold bj bf
 rw[if_neg d,if_pos h,if_neg d,if_pos h]
 exact⟨rfl,rfl⟩
theorem uq{v k:Nat}(h:2*v<2^k):cF v k=0:=by
 unfold cF
 have d:v/2^k=0:=Nat.div_eq_of_lt (by omega)
 have f:v%2^k=v:=Nat.mod_eq_of_lt (by omega)
 rw[d,f,if_neg (by omega)]
theorem qA{v:Nat}{E:Int}(d:v≠0)(h:(bl v:Int)+E< -1074):bf v E=0∧bj v E=3:=by
 obtain⟨F,G,H⟩:=aU v d
 have f:ar v E= -1074:=by unfold ar;omega
 obtain⟨j,D⟩:∃j:Nat,E- -1074= -((j:Nat):Int):=⟨(-1074-E).toNat,by omega⟩
 have u:cQ v E=0:=by
  unfold cQ
  rw[f,D,cW _ _ (by omega)]
  refine uq ?_
  have z:2^(bl v+1)≤2^j:=Nat.pow_le_pow_right (by decide) (by omega)
  rw[Nat.pow_succ]at z
  omega
 have l:bf v E=0:=by
  rw[cj v E d (by omega),u,f]
  rfl
 refine⟨l,?_⟩
 unfold bj
 rw[if_neg d,if_neg (by omega),if_neg (by rw[f];omega),l,if_neg (by decide),if_pos (by decide)]
def gM(r:Nat):Nat:=4503599627370496+r%4503599627370496
theorem zI(r:Nat):bl (gM r)=53:=by
 refine jV (by decide) ?_ ?_
 ·rw[show(2:Nat)^(53-1)=4503599627370496 by decide]
  unfold gM;omega
 ·rw[show(2:Nat)^53=9007199254740992 by decide]
  unfold gM;omega
theorem zJ(r:Nat):gM r≠0:=by unfold gM;omega
theorem sv(r:Nat)(h:4503599627370496≤r):rv r=gM r*2^(r/4503599627370496-1):=by
 have e:r=gM r+(r/4503599627370496-1)*4503599627370496:=by unfold gM;omega
 have:=jp (gM r) (r/4503599627370496-1) (by unfold gM;omega) (fun _=>by unfold gM;omega)
 rwa[←e]at this
theorem qB(r:Nat)(n e:Int)(h:4503599627370496≤r)(d:e=n+(r/4503599627370496:Nat)-1023):
  bf (rv r) (n-1074)=bf (gM r) (e-52):=by
 rw[sv r h,dk]
 congr 1
 omega
theorem xt(r:Nat)(e:Int)(l:-1022≤e)(u:e≤1023):bf (gM r) (e-52)=r%4503599627370496+(e+1023).toNat*4503599627370496:=by
 have d:=zI r
 have f:ar (gM r) (e-52)=e-52:=by unfold ar;rw[d];omega
 rw[cj _ _ (zJ r) (by rw[d];omega),f]
 have h:cQ (gM r) (e-52)=gM r:=by
  unfold cQ
  rw[f,show e-52-(e-52)=((0:Nat):Int) by omega,iF,Nat.pow_zero,Nat.mul_one]
 rw[h,show(e-52+1074).toNat=(e+1023).toNat-1 by omega]
 have:1≤(e+1023).toNat:=by omega
 unfold gM
 omega
theorem ur(r:Nat)(e:Int)(h:1023<e):bf (gM r) (e-52)=9218868437227405312:=(kj (zJ r) (by rw[zI];omega)).1
theorem xu(r:Nat)(e:Int)(h:e< -1075):bf (gM r) (e-52)=0:=(qA (zJ r) (by rw[zI];omega)).1
theorem nD(i j k:Nat)(h:i+j=k):(2:Nat)^i*2^j=2^k:=by rw[←Nat.pow_add,h]
theorem nE(v x y:Nat)(E F:Int)(h:E+x+y=F):bf (v*2^x*2^y) E=bf v F:=by
 rw[Nat.mul_assoc,←Nat.pow_add,dk]
 congr 1
 omega
theorem nF(v x:Nat)(E F:Int)(h:E+x=F):bf (v*2^x) E=bf v F:=by rw[dk,h]
theorem xy(s:Bool)(r:Nat)(e:Int)(O:-1075≤e)(Q:e< -1022):
  mV (bY s (r%4503599627370496+(e+53+1023).toNat*4503599627370496)) 4368491638549381120=bY s (bf (gM r) (e-52)):=by
 obtain⟨q,N⟩:∃q,q=r%4503599627370496+(e+53+1023).toNat*4503599627370496:=⟨_,rfl⟩
 rw[←N]
 have f:4503599627370496≤q:=by omega
 have l:q<9218868437227405312:=by omega
 have z:gM q=gM r:=by unfold gM;omega
 have D:q/4503599627370496-1=(e+1075).toNat:=by omega
 have d:=ef s q (by omega)
 have F:aA (bY s q)=true:=(aP _).2.2.2 (by rw[d];exact l)
 have G:fK (bY s q)≠0:=fun h=>by
  have:=(aR _).1 h
  rw[d]at this
  omega
 have u:fR 4368491638549381120=4368491638549381120:=by decide
 have H:aA 4368491638549381120=true:=by decide
 have J:fK 4368491638549381120≠0:=by decide
 have L:fS 4368491638549381120=false:=by decide
 obtain⟨K,U⟩:∃K:Nat,K=1021:=⟨_,rfl⟩
 have M:rv 4368491638549381120=2^K:=by
  have:=sv 4368491638549381120 (by decide)
  rw[this,show gM 4368491638549381120=2^52 by decide,show 4368491638549381120/4503599627370496-1=969 by decide]
  exact nD 52 969 K (by omega)
 rw[(k5 _ _ F H G J).1,d,u,M,sv q f,z,D,ii s q (by omega),L,Bool.xor_false,nE _ _ _ _ (e-52) (by omega)]
theorem us(s:Bool)(r:Nat)(u:r≠0)(h:r<4503599627370496):
  ∃q,mV (bY s r) 4841369599423283200=bY s q∧4503599627370496≤q∧q<9218868437227405312∧∀n:Int,bf (rv r) (n-1074)=bf (rv q) (n-52-1074):=by
 obtain⟨b1,H,Q⟩:=aU r u
 have f:bl r≤52:=by
  have z:(2:Nat)^52=4503599627370496:=by decide
  have:=cf (Nat.lt_of_le_of_lt H (by rw[z];exact h))
  omega
 have l:rv r=r:=by
  have:=jp r 0 (by omega) (fun h=>absurd rfl h)
  simpa using this
 obtain⟨b,J⟩:∃b,bl r=b+1:=⟨bl r-1,by omega⟩
 rw[J]at H Q f
 have U:(2:Nat)^(b+1-1)*2^(52-b)=4503599627370496:=by rw[←Nat.pow_add,show b+1-1+(52-b)=52 by omega]
 have V:(2:Nat)^(b+1)*2^(52-b)=9007199254740992:=by rw[←Nat.pow_add,show b+1+(52-b)=53 by omega]
 have X:=Nat.two_pow_pos (52-b)
 have D:=Nat.mul_le_mul_right (2^(52-b)) H
 have N:=(Nat.mul_lt_mul_right X).2 Q
 rw[U]at D
 rw[V]at N
 obtain⟨M,L⟩:∃M,M=r*2^(52-b):=⟨_,rfl⟩
 rw[←L]at D N
 have O:ar r (-1022)=(b:Int)-1074:=by unfold ar;rw[J];omega
 have Y:bf r (-1022)=M+b*4503599627370496:=by
  rw[cj r _ u (by rw[J];omega),O]
  unfold cQ
  rw[O,show(-1022:Int)-((b:Int)-1074)=((52-b:Nat):Int) by omega,iF,←L,show((b:Int)-1074+1074).toNat=b by omega]
 have d:=ef s r (by omega)
 have Z:aA (bY s r)=true:=(aP _).2.2.2 (by rw[d];omega)
 have k1:fK (bY s r)≠0:=fun h=>u (by have:=(aR _).1 h;rwa[d]at this)
 have F:fR 4841369599423283200=4841369599423283200:=by decide
 have f2:aA 4841369599423283200=true:=by decide
 have k2:fK 4841369599423283200≠0:=by decide
 have s2:fS 4841369599423283200=false:=by decide
 obtain⟨K,hK⟩:∃K:Nat,K=1126:=⟨_,rfl⟩
 have r2:rv 4841369599423283200=2^K:=by
  have:=sv 4841369599423283200 (by decide)
  rw[this,show gM 4841369599423283200=2^52 by decide,show 4841369599423283200/4503599627370496-1=1074 by decide]
  exact nD 52 1074 K (by omega)
 refine⟨M+b*4503599627370496,?_,by omega,by omega,fun n=>?_⟩
 ·rw[(k5 _ _ Z f2 k1 k2).1,d,F,r2,l,ii s r (by omega),s2,Bool.xor_false,nF _ _ _ (-1022) (by omega),Y]
 ·have G:rv (M+b*4503599627370496)=M*2^b:=jp M b (by omega) (fun _=>D)
  rw[G,l,L]
  exact(nE r (52-b) b _ _ (by omega)).symm
def p2(e:Int):Rat:=(2:Rat)^e
theorem FZ:(2:Rat)≠0:=by decide
theorem dh(e:Int):0<p2 e:=Rat.zpow_pos (by decide)
theorem cV(a b:Int):p2 (a+b)=p2 a*p2 b:=Rat.zpow_add FZ a b
theorem Hq:p2 0=1:=Rat.zpow_zero 2
theorem eg(k:Nat):p2 (k:Int)=((2^k:Nat):Rat):=by
 unfold p2
 rw[Rat.zpow_natCast,Rat.natCast_pow]
 rfl
theorem IH:p2 1=2:=Rat.zpow_one 2
theorem zK(a:Int):p2 (-a)*p2 a=1:=by rw[←cV,show-a+a=0 by omega,Hq]
theorem vJ(e:Int):p2 (e+1)=2*p2 e:=by rw[cV,IH,Rat.mul_comm]
theorem Hr(e:Int):p2 (e+52)=4503599627370496*p2 e:=by
 rw[cV,show(52:Int)=((52:Nat):Int) by rfl,eg,Rat.mul_comm]
 rfl
theorem mE{a b:Int}(h:a≤b):p2 a≤p2 b:=by
 obtain⟨k,u⟩:∃k:Nat,b=a+(k:Int):=⟨(b-a).toNat,by omega⟩
 rw[u,cV,eg]
 have f:((1:Nat):Rat)≤((2^k:Nat):Rat):=Rat.natCast_le_natCast.2 Nat.one_le_two_pow
 have d:=Rat.mul_le_mul_of_nonneg_left f (Rat.le_of_lt (dh a))
 have l:((1:Nat):Rat)=1:=rfl
 rw[l,Rat.mul_one]at d
 exact d
def xE(v:Nat)(E:Int):Rat:=(v:Rat)*p2 E
def yE(v:Nat)(E:Int):Rat:=(rv (bf v E):Rat)*p2 (-1074)
theorem F0(v:Nat)(E:Int)(h:v≠0)(d:(bl v:Int)+E≤1024):rv (bf v E)=cQ v E*2^(ar v E+1074).toNat:=by
 obtain⟨f,l,z⟩:=ch v E h
 obtain⟨D,F,G⟩:=bU v E
 rw[cj v E h d]
 exact jp _ _ f (fun u=>l (by omega))
theorem vK(v:Nat)(E:Int)(h:v≠0)(d:(bl v:Int)+E≤1024):yE v E=(cQ v E:Rat)*p2 (ar v E):=by
 obtain⟨f,l,u⟩:=bU v E
 unfold yE
 rw[F0 v E h d,Rat.natCast_mul,←eg,Rat.mul_assoc,←cV]
 congr 2
 omega
theorem vL(v:Nat)(E:Int)(h:v≠0)(d:bf v E<9218868437227405312):(bl v:Int)+E≤1024:=by
 rcases Int.lt_or_le 1024 ((bl v:Int)+E)with g|g
 ·have:=(kj h g).1
  omega
 ·exact g
theorem sw(v:Nat)(E:Int)(h:v≠0)(u:(bl v:Int)+E≤1024):
  (ar v E≤E→yE v E=xE v E)∧2*yE v E≤2*xE v E+p2 (ar v E)∧2*xE v E≤2*yE v E+p2 (ar v E):=by
 have N:=dh (ar v E)
 by_cases G:ar v E≤E
 ·have e:yE v E=xE v E:=by
   obtain⟨k,f⟩:∃k:Nat,E-ar v E=(k:Int):=⟨(E-ar v E).toNat,by omega⟩
   rw[vK v E h u]
   unfold cQ xE
   rw[f,iF,Rat.natCast_mul,←eg,Rat.mul_assoc,←cV,show((k:Nat):Int)+ar v E=E by omega]
  refine⟨fun _=>e,?_,?_⟩<;>rw[e]<;>grind
 ·obtain⟨k,f,l⟩:∃k:Nat,E-ar v E= -(k:Int)∧1≤k:=⟨(ar v E-E).toNat,by omega,by omega⟩
  obtain⟨L,M⟩:=wG v k
  have z:ar v E=(k:Int)+E:=by omega
  have H:yE v E=((cF v k*2^k:Nat):Rat)*p2 E:=by
   rw[vK v E h u]
   unfold cQ
   rw[f,cW _ _ l,z,cV,eg,Rat.natCast_mul,Rat.mul_assoc]
  have d:=dh E
  have J:p2 (ar v E)=((2^k:Nat):Rat)*p2 E:=by rw[z,cV,eg]
  have D:=Rat.mul_le_mul_of_nonneg_left (Rat.natCast_le_natCast.2 L) (Rat.le_of_lt d)
  have F:=Rat.mul_le_mul_of_nonneg_left (Rat.natCast_le_natCast.2 M) (Rat.le_of_lt d)
  rw[Rat.natCast_add,Rat.natCast_mul 2,Rat.natCast_mul 2]at D F
  have K:((2:Nat):Rat)=2:=rfl
  rw[K]at D F
  refine⟨fun g=>absurd g G,?_,?_⟩<;>rw[H,J]<;>unfold xE<;>grind
theorem mG(v:Nat)(E:Int)(F:bf v E<9218868437227405312):
  (9007199254740992*yE v E≤9007199254740992*xE v E+xE v E∧9007199254740992*xE v E≤9007199254740992*yE v E+xE v E)∨
  (bf v E≤4503599627370496∧E< -1074∧2*yE v E≤2*xE v E+p2 (-1074)∧2*xE v E≤2*yE v E+p2 (-1074)):=by
 by_cases h:v=0
 ·subst h
  refine .inl ?_
  have e:yE 0 E=0:=by unfold yE;rw[kg,dH];exact Rat.zero_mul _
  have G:xE 0 E=0:=Rat.zero_mul _
  rw[e,G]
  constructor<;>grind
 have f:=vL v E h F
 obtain⟨X,Y,u⟩:=bU v E
 obtain⟨M,z,D⟩:=sw v E h f
 obtain⟨Z,N,O⟩:=aU v h
 have H:0≤xE v E:=Rat.mul_nonneg (Rat.natCast_nonneg) (Rat.le_of_lt (dh E))
 by_cases J:ar v E≤E
 ·refine .inl ?_
  rw[M J]
  constructor<;>grind
 ·rcases(show(ar v E= -1074∧(bl v:Int)+E< -1021)∨ar v E=(bl v:Int)+E-53 by omega)with⟨U,l5⟩|u
  ·refine .inr ⟨?_,by omega,?_⟩
   ·obtain⟨k,Q,d⟩:∃k:Nat,E-ar v E= -(k:Int)∧1≤k:=⟨(ar v E-E).toNat,by omega,by omega⟩
    have K:cQ v E≤4503599627370496:=by
     unfold cQ
     rw[Q,cW _ _ d]
     refine kP ?_
     have l:v<2^(52+k):=Nat.lt_of_lt_of_le O (dG (by omega))
     rw[Nat.pow_add,Fb]at l
     exact Nat.le_of_lt l
    have L:(ar v E+1074).toNat=0:=by omega
    rw[cj v E h f,L,Nat.zero_mul,Nat.add_zero]
    exact K
   ·rw[U]at z D
    exact⟨z,D⟩
  ·refine .inl ?_
   have V:4503599627370496*p2 (ar v E)≤xE v E:=by
    rw[←Hr,u,show(bl v:Int)+E-53+52=((bl v-1:Nat):Int)+E by omega,cV,eg]
    unfold xE
    have:=Rat.mul_le_mul_of_nonneg_left (Rat.natCast_le_natCast.2 N) (Rat.le_of_lt (dh E))
    grind
   constructor<;>grind
end Go.Proofs.YtdhmglmccafbnaaGreatDoor
namespace Go.Proofs.YtdhmglmccafbnaaGreatDoor
def aT:Nat→Nat
 |0=>0
 |n+1=>if(aT n+1)*(aT n+1)≤n+1 then aT n+1 else aT n
theorem cY(m:Nat):(m+1)*(m+1)=m*m+2*m+1:=by rw[Nat.add_mul,Nat.mul_add];omega
theorem vM{a b:Nat}(h:a≤b):a*a≤b*b:=Nat.mul_le_mul h h
theorem zL{a b:Nat}(h:a<b):a*a<b*b:=Nat.mul_lt_mul_of_lt_of_le h (Nat.le_of_lt h) (by omega)
theorem cg{a b:Nat}:a*a<b*b↔a<b:=by
 constructor
 ·intro h
  rcases Nat.lt_or_ge a b with d|d
  ·exact d
  ·have:=vM d;omega
 ·exact zL
theorem bQ(n:Nat):aT n*aT n≤n∧n<(aT n+1)*(aT n+1):=by
 induction n with
 |zero=>exact⟨Nat.le_refl _,by decide⟩
 |succ n ih=>
  unfold aT
  obtain⟨l,u⟩:=ih
  have d:=cY (aT n)
  have f:=cY (aT n+1)
  split
  ·rename_i h
   exact⟨h,by omega⟩
  ·rename_i h
   exact⟨by omega,by omega⟩
theorem eE{n m:Nat}(d:m*m≤n)(f:n<(m+1)*(m+1)):aT n=m:=by
 obtain⟨u,z⟩:=bQ n
 have h:aT n<m+1:=cg.1 (by omega)
 have l:m<aT n+1:=cg.1 (by omega)
 omega
theorem zM{n m:Nat}(h:n≤m):aT n≤aT m:=by
 obtain⟨d,f⟩:=bQ n
 obtain⟨l,u⟩:=bQ m
 have:aT n<aT m+1:=cg.1 (by omega)
 omega
theorem iO(a p:Nat):a*p*(a*p)=a*a*(p*p):=by ac_rfl
theorem k6(N p:Nat)(d:0<p):aT (N*(p*p))/p=aT N:=by
 obtain⟨l,u⟩:=bQ N
 obtain⟨G,H⟩:=bQ (N*(p*p))
 have f:0<p*p:=Nat.mul_pos d d
 have z:aT N*p<aT (N*(p*p))+1:=by
  apply cg.1
  rw[iO]
  have:aT N*aT N*(p*p)≤N*(p*p):=Nat.mul_le_mul_right _ l
  omega
 have h:aT (N*(p*p))<(aT N+1)*p:=by
  apply cg.1
  rw[iO]
  have:N*(p*p)<(aT N+1)*(aT N+1)*(p*p):=(Nat.mul_lt_mul_right f).2 u
  omega
 have D:aT N≤aT (N*(p*p))/p:=(Nat.le_div_iff_mul_le d).2 (by omega)
 have F:aT (N*(p*p))/p<aT N+1:=(Nat.div_lt_iff_lt_mul d).2 h
 omega
def rS(N:Nat):Nat:=2*aT N+(if aT N*aT N=N then 0 else 1)
def zN(N k:Nat):Nat:=aT N/2^k+(if(2*(aT N/2^k)+1)*2^k*((2*(aT N/2^k)+1)*2^k)<4*N∨((2*(aT N/2^k)+1)*2^k*((2*(aT N/2^k)+1)*2^k)=4*N∧aT N/2^k%2=1)then 1 else 0)
theorem ut(N k i:Nat):zN (N*(2^i*2^i)) (k+i)=zN N k:=by
 have f:0<2^i:=Nat.two_pow_pos _
 have d:0<2^i*2^i:=Nat.mul_pos f f
 have e:aT (N*(2^i*2^i))/2^(k+i)=aT N/2^k:=by
  rw[Nat.add_comm k i,Nat.pow_add,←Nat.div_div_eq_div_mul,k6 N _ f]
 unfold zN
 rw[e]
 generalize aT N/2^k=m
 have l:(2*m+1)*2^(k+i)*((2*m+1)*2^(k+i))=(2*m+1)*2^k*((2*m+1)*2^k)*(2^i*2^i):=by
  rw[Nat.pow_add];ac_rfl
 have u:4*(N*(2^i*2^i))=4*N*(2^i*2^i):=by ac_rfl
 rw[l,u]
 have z:((2*m+1)*2^k*((2*m+1)*2^k)*(2^i*2^i)<4*N*(2^i*2^i))↔(2*m+1)*2^k*((2*m+1)*2^k)<4*N:=Nat.mul_lt_mul_right d
 have D:((2*m+1)*2^k*((2*m+1)*2^k)*(2^i*2^i)=4*N*(2^i*2^i))↔(2*m+1)*2^k*((2*m+1)*2^k)=4*N:=
  ⟨fun h=>Nat.eq_of_mul_eq_mul_right d h,fun h=>by rw[h]⟩
 simp only[z,D]
theorem zO(N k:Nat)(O:1≤k):cF (rS N) (k+1)=zN N k:=by
 obtain⟨j,rfl⟩:∃j,k=j+1:=⟨k-1,by omega⟩
 obtain⟨X,Y⟩:=bQ N
 have Q:0<2^j:=Nat.two_pow_pos _
 have l:(2:Nat)^(j+1)=2*2^j:=by rw[Nat.pow_succ,Nat.mul_comm]
 have J:(2:Nat)^(j+1+1)=2*(2*2^j):=by rw[Nat.pow_succ,l,Nat.mul_comm]
 have U:(if aT N*aT N=N then 0 else 1)≤1:=by split<;>omega
 have d:(if aT N*aT N=N then 0 else 1)=0↔aT N*aT N=N:=by split<;>simp_all
 unfold cF zN rS
 rw[J,l]
 generalize (2:Nat)^j=g at*
 generalize (if aT N*aT N=N then 0 else 1)=t at*
 generalize aT N=q at*
 have u:=Nat.div_add_mod q (2*g)
 have V:=Nat.mod_lt q (show 0<2*g by omega)
 generalize L:q%(2*g)=a at*
 generalize M:q/(2*g)=b at*
 have z:(2*q+t)/(2*(2*g))=b:=by
  rw[←u,Nat.mul_add,←Nat.mul_assoc 2 (2*g) b,Nat.add_assoc]
  rw[Nat.mul_add_div (by omega),Nat.div_eq_of_lt (by omega),Nat.add_zero]
 have D:(2*q+t)%(2*(2*g))=2*a+t:=by
  rw[←u,Nat.mul_add,←Nat.mul_assoc 2 (2*g) b,Nat.add_assoc,Nat.mul_add_mod,Nat.mod_eq_of_lt (by omega)]
 rw[z,D]
 congr 1
 --half between two,as a square
 obtain⟨c,K⟩:∃c,c=2*g*b+g:=⟨_,rfl⟩
 have F:(2*b+1)*(2*g)*((2*b+1)*(2*g))=4*(c*c):=by
  have:(2*b+1)*(2*g)=2*c:=by rw[K,Nat.add_mul,Nat.one_mul,Nat.mul_add];ac_rfl
  rw[this,show(4:Nat)=2*2 by decide]
  ac_rfl
 rw[F]
 clear F M L z D
 rcases Nat.lt_trichotomy a g with h|h|h
 ·have f:(q+1)*(q+1)≤c*c:=vM (by omega)
  rw[if_neg (by omega),if_neg (by omega)]
 ·have f:c=q:=by omega
  subst f
  by_cases G:c*c=N
  ·have:=d.2 G
   by_cases H:b%2=1
   ·rw[if_pos (Or.inr ⟨by omega,H⟩),if_pos (Or.inr ⟨by omega,H⟩)]
   ·rw[if_neg (by omega),if_neg (by omega)]
  ·have:t≠0:=fun e=>G (d.1 e)
   rw[if_pos (Or.inl (by omega)),if_pos (Or.inl (by omega))]
 ·have f:c*c<q*q:=zL (by omega)
  rw[if_pos (Or.inl (by omega)),if_pos (Or.inl (by omega))]
theorem Hs(N i:Nat)(K:0<aT N):bl (rS (N*(2^i*2^i)))=bl (rS N)+i:=by
 have f:0<2^i:=Nat.two_pow_pos _
 have z:rS N≠0:=by unfold rS;omega
 obtain⟨Q,l,d⟩:=aU (rS N) z
 have L:2≤rS N:=by unfold rS;omega
 have D:2≤bl (rS N):=by
  rcases Nat.lt_or_ge (bl (rS N)) 2 with h|h
  ·have:bl (rS N)=1:=by omega
   rw[this]at d;omega
  ·exact h
 obtain⟨c,J⟩:∃c,bl (rS N)=c+2:=⟨bl (rS N)-2,by omega⟩
 rw[J]at l d⊢
 have F:(if aT N*aT N=N then 0 else 1)≤1:=by split<;>omega
 have G:2^c≤aT N:=by
  rw[show c+2-1=c+1 by omega,Nat.pow_succ]at l
  unfold rS at l
  omega
 have H:aT N<2^(c+1):=by
  rw[Nat.pow_succ]at d
  unfold rS at d
  omega
 have u:=k6 N (2^i) f
 have M:2^(c+i)≤aT (N*(2^i*2^i)):=by
  rw[Nat.pow_add,←Nat.le_div_iff_mul_le f,u];exact G
 have O:aT (N*(2^i*2^i))<2^(c+1+i):=by
  rw[Nat.pow_add,←Nat.div_lt_iff_lt_mul f,u];exact H
 refine jV (by omega) ?_ ?_
 ·rw[show c+2+i-1=c+i+1 by omega,Nat.pow_succ]
  unfold rS
  omega
 ·rw[show c+2+i=c+1+i+1 by omega,Nat.pow_succ]
  unfold rS
  have F:(if aT (N*(2^i*2^i))*aT (N*(2^i*2^i))=N*(2^i*2^i)then 0 else 1)≤1:=by split<;>omega
  omega
theorem F3{N:Nat}(l:9007199254740992≤aT N):55≤bl (rS N):=by
 have d:rS N≠0:=by unfold rS;omega
 obtain⟨u,z,f⟩:=aU (rS N) d
 have h:2^54≤rS N:=by
  have:(2:Nat)^54=2*9007199254740992:=by decide
  rw[this];unfold rS;omega
 have:=cf (Nat.lt_of_le_of_lt h f)
 omega
theorem qC(N i:Nat)(E:Int)(z:9007199254740992≤aT N):
  bf (rS (N*(2^i*2^i))) (E-i)=bf (rS N) E∧ar (rS (N*(2^i*2^i))) (E-i)=ar (rS N) E∧(bl (rS (N*(2^i*2^i))):Int)+(E-i)=(bl (rS N):Int)+E∧E+2≤ar (rS N) E:=by
 have f:=Hs N i (by omega)
 have D:=F3 z
 have F:rS N≠0:=by unfold rS;omega
 have l:rS (N*(2^i*2^i))≠0:=fun h=>by
  rw[h]at f
  have:bl 0=0:=rfl
  omega
 have u:ar (rS (N*(2^i*2^i))) (E-i)=ar (rS N) E:=by unfold ar;rw[f];omega
 have d:(bl (rS (N*(2^i*2^i))):Int)+(E-i)=(bl (rS N):Int)+E:=by rw[f];omega
 have G:E+2≤ar (rS N) E:=by have:=(bU (rS N) E).2.1;omega
 refine⟨?_,u,d,G⟩
 have H:cQ (rS (N*(2^i*2^i))) (E-i)=cQ (rS N) E:=by
  unfold cQ
  rw[u]
  obtain⟨k,J⟩:∃k:Nat,ar (rS N) E=E+k+1∧1≤k:=⟨(ar (rS N) E-E-1).toNat,by omega,by omega⟩
  rw[show E-i-ar (rS N) E= -((k+i+1:Nat):Int) by omega,show E-ar (rS N) E= -((k+1:Nat):Int) by omega]
  rw[cW _ _ (by omega),cW _ _ (by omega),zO _ _ (by omega),zO _ _ (by omega)]
  exact ut _ _ _
 unfold bf
 rw[if_neg F,if_neg l,d,H,u]
theorem F4(N i:Nat):aT (N*(2^i*2^i))*aT (N*(2^i*2^i))=N*(2^i*2^i)↔aT N*aT N=N:=by
 have f:0<2^i:=Nat.two_pow_pos _
 have z:0<2^i*2^i:=Nat.mul_pos f f
 constructor
 ·intro h
  have l:=k6 N (2^i) f
  generalize M:aT (N*(2^i*2^i))=R at*
  --2^i goes into R,since its square goes into R's
  have F:∀(n a:Nat),(2^n*2^n)∣a*a→2^n∣a:=by
   intro n
   induction n with
   |zero=>intro a _;simp
   |succ n ih=>
    intro a D
    have K:2∣a*a:=Nat.dvd_trans ⟨2^n*2^(n+1),by rw[Nat.pow_succ];ac_rfl⟩ D
    have L:a%2=0:=by
     rcases Nat.mod_two_eq_zero_or_one a with h|h
     ·exact h
     ·exfalso
      have:a*a%2=1:=by rw[Nat.mul_mod,h]
      omega
    obtain⟨b,rfl⟩:∃b,a=2*b:=⟨a/2,by omega⟩
    have G:2^n*2^n∣b*b:=by
     obtain⟨c,u⟩:=D
     refine⟨c,?_⟩
     have:4*(b*b)=4*(2^n*2^n*c):=by
      have H:2*b*(2*b)=4*(b*b):=by rw[show(4:Nat)=2*2 by decide];ac_rfl
      have J:2^(n+1)*2^(n+1)*c=4*(2^n*2^n*c):=by rw[Nat.pow_succ,show(4:Nat)=2*2 by decide];ac_rfl
      rw[←H,u,J]
     omega
    obtain⟨d,l⟩:=ih b G
    exact⟨d,by rw[l,Nat.pow_succ];ac_rfl⟩
  obtain⟨c,u⟩:=F i R ⟨N,by rw[h];ac_rfl⟩
  rw[u,Nat.mul_div_cancel_left c f]at l
  rw[←l]
  have:c*c*(2^i*2^i)=N*(2^i*2^i):=by rw[←h,u];ac_rfl
  exact Nat.eq_of_mul_eq_mul_right z this
 ·intro h
  have:aT (N*(2^i*2^i))=aT N*2^i:=by
   refine eE ?_ ?_
   ·rw[iO,h];exact Nat.le_refl _
   ·have:=cY (aT N*2^i)
    rw[iO,h]at this
    omega
  rw[this,iO,h]
theorem vN(N i:Nat)(E:Int)(F:9007199254740992≤aT N):
  bj (oM (rS (N*(2^i*2^i)):Nat)).natAbs (oE (rS (N*(2^i*2^i)):Nat) (E-i))=bj (oM (rS N:Nat)).natAbs (oE (rS N:Nat) E):=by
 obtain⟨L,M,O,Q⟩:=qC N i E F
 have f:=F4 N i
 by_cases d:aT N*aT N=N
 ·have u:=f.2 d
  have G:aT (N*(2^i*2^i))=aT N*2^i:=by
   refine eE ?_ ?_
   ·rw[iO,d];exact Nat.le_refl _
   ·have:=cY (aT N*2^i)
    rw[iO,d]at this
    omega
  have e:rS (N*(2^i*2^i))=rS N*2^i:=by
   unfold rS;rw[if_pos d,if_pos u,G,Nat.add_zero,Nat.add_zero,Nat.mul_assoc]
  have H:((rS (N*(2^i*2^i)):Nat):Int)=((rS N:Nat):Int)*2^i:=by rw[e,Int.natCast_mul,Int.natCast_pow];rfl
  have:=kd ((rS N:Nat):Int) i (E-i)
  rw[H,this.1,this.2,show E-(i:Int)+i=E by omega]
 ·have u:¬aT (N*(2^i*2^i))*aT (N*(2^i*2^i))=N*(2^i*2^i):=fun h=>d (f.1 h)
  have z:((rS N:Nat):Int)%2=1:=by unfold rS;rw[if_neg d];omega
  have D:((rS (N*(2^i*2^i)):Nat):Int)%2=1:=by unfold rS;rw[if_neg u];omega
  have z1:∀(v:Nat) (e:Int),(v:Int)%2=1→oM (v:Int)=v∧oE (v:Int) e=e:=fun v e h=>by
   have l:(v:Int)≠0:=by omega
   have a:=(fq (v:Int) l).unique (m':=(v:Int)) (k':=0) ⟨by simp,h⟩
   exact⟨a.1,by rw[dz _ _ l,a.2];simp⟩
  rw[(z1 _ (E-i) D).1,(z1 _ (E-i) D).2,(z1 _ E z).1,(z1 _ E z).2,Int.natAbs_natCast,Int.natAbs_natCast]
  have J:rS N≠0:=by omega
  have K:rS (N*(2^i*2^i))≠0:=by omega
  unfold bj
  rw[if_neg J,if_neg K,O,M,L,if_neg (show¬ar (rS N) E≤E-i by omega),if_neg (show¬ar (rS N) E≤E by omega)]
open Go.RowKit
theorem zP(m k p D α d:Nat)(l u:Int)(F:m*2^k=D*2^α)(L:2*l=(k:Int)-1074-p)(M:2*u=(α:Int)-1074-d)(G:9007199254740992≤aT (m*2^p))(H:9007199254740992≤aT (D*2^d)):
  bf (rS (m*2^p)) (l-1)=bf (rS (D*2^d)) (u-1)∧bj (oM (rS (m*2^p):Nat)).natAbs (oE (rS (m*2^p):Nat) (l-1))=bj (oM (rS (D*2^d):Nat)).natAbs (oE (rS (D*2^d):Nat) (u-1)):=by
 have z:∀(m k p D α d i:Nat),m*2^k=D*2^α→p+2*i+α=k+d→m*2^p*(2^i*2^i)=D*2^d:=by
  intro m k p D α d i F J
  have K:0<2^α:=Nat.two_pow_pos _
  refine Nat.eq_of_mul_eq_mul_right K ?_
  rw[←Nat.pow_add,Nat.mul_assoc,Nat.mul_assoc,←Nat.pow_add,←Nat.pow_add,show p+(i+i+α)=k+d by omega,Nat.pow_add,←Nat.mul_assoc,F]
  ac_rfl
 rcases Int.le_total u l with h|h
 ·obtain⟨i,J⟩:∃i:Nat,l-u=i:=⟨(l-u).toNat,by omega⟩
  have e:=z m k p D α d i F (by omega)
  have s:=qC (m*2^p) i (l-1) G
  have f:=vN (m*2^p) i (l-1) G
  rw[e,show l-1-(i:Int)=u-1 by omega]at s f
  exact⟨s.1.symm,f.symm⟩
 ·obtain⟨i,J⟩:∃i:Nat,u-l=i:=⟨(u-l).toNat,by omega⟩
  have e:=z D α d m k p i F.symm (by omega)
  have s:=qC (D*2^d) i (u-1) H
  have f:=vN (D*2^d) i (u-1) H
  rw[e,show u-1-(i:Int)=l-1 by omega]at s f
  exact⟨s.1,f⟩
def tS(a:Nat):Nat:=rS (rv (fR a)*2^120)
def tV(a:Nat):Nat:=bf (tS a) (-598)
def tF(a:Nat):Int:=bj (oM (tS a:Nat)).natAbs (oE (tS a:Nat) (-598))
def sV(a:Nat):Nat:=
 if fK a=4 then 9221120237041090560
 else if fK a=0∨a=9218868437227405312 then a
 else if fS a=true then 9221120237041090560
 else tV a
def sF(a:Nat):Int:=
 if fK a=4 then 0
 else if fK a=0∨a=9218868437227405312 then 0
 else if fS a=true then 16
 else tF a
def sN(a:Nat):Bool:=decide (fK a=4∨(fK a≠0∧fS a=true))
theorem qD{N:Nat}(h:2^106≤N):9007199254740992≤aT N:=by
 obtain⟨d,f⟩:=bQ N
 have e:(9007199254740992:Nat)*9007199254740992=2^106:=by decide
 have:9007199254740992<aT N+1:=cg.1 (by omega)
 omega
theorem F5(a:Nat)(d:fK a≠0):9007199254740992≤aT (rv (fR a)*2^120):=by
 have f:rv (fR a)≠0:=fun e=>d ((aR a).2 ((jE _).1 e))
 refine qD (Nat.le_trans (show 2^106≤1*2^120 by decide) (Nat.mul_le_mul_right _ (by omega)))
theorem nG(a m k p:Nat)(e:Int)(d:fK a≠0)(f:m*2^k=rv (fR a))(h:2*e=(k:Int)-1074-p)(l:9007199254740992≤aT (m*2^p)):
  bf (rS (m*2^p)) (e-1)=tV a∧bj (oM (rS (m*2^p):Nat)).natAbs (oE (rS (m*2^p):Nat) (e-1))=tF a:=by
 have:=zP m k p (rv (fR a)) 0 120 e (-597) (by rw[f];simp) h (by omega) l (F5 a d)
 exact this
theorem qE(n:Nat):∀(f d:Nat),d*d≤n→n<(d+2^f)*(d+2^f)→Ieee.Datum.rootFrom n f d=aT n:=by
 intro f
 induction f with
 |zero=>
  intro d u l
  unfold Ieee.Datum.rootFrom
  rw[Nat.pow_zero]at l
  exact(eE u l).symm
 |succ t ih=>
  intro d u l
  unfold Ieee.Datum.rootFrom
  rw[Nat.one_shiftLeft]
  have e:(2:Nat)^(t+1)=2^t+2^t:=by rw[Nat.pow_succ];omega
  show Ieee.Datum.rootFrom n t (if(d+2^t)*(d+2^t)≤n then d+2^t else d)=aT n
  split
  ·rename_i h
   refine ih _ h ?_
   rw[e,←Nat.add_assoc]at l
   exact l
  ·rename_i h
   exact ih _ u (by omega)
theorem nH(a:Nat)(l:a<18446744073709551616)(h:sN a=true):Ieee.double.sqrt a=none∧sV a=9221120237041090560:=by
 unfold Ieee.Format.sqrt
 rcases of_decide_eq_true h with h|⟨F,d⟩
 ·obtain⟨s,f,e⟩:=dD a l h
  refine⟨by rw[e];rfl,?_⟩
  unfold sV;rw[if_pos h]
 ·by_cases u:fK a=4
  ·obtain⟨s,f,e⟩:=dD a l u
   refine⟨by rw[e];rfl,?_⟩
   unfold sV;rw[if_pos u]
  ·have z:¬(fK a=0∨a=9218868437227405312):=by
    rintro(h|h)
    ·exact F h
    ·rw[h]at d;revert d;decide
   refine⟨?_,by unfold sV;rw[if_neg u,if_neg z,if_pos d]⟩
   by_cases D:fK a=3
   ·rw[bP a l D,d];rfl
   ·obtain⟨m,k,e,J⟩:=bV a l (aY a D u)
    have H:m≠0:=fun G=>F ((aR a).2 ((cn J).1 G))
    rw[e,d]
    show Option.map Ieee.double.write (if m=0 then _ else if true=true then none else _)=none
    rw[if_neg H,if_pos rfl];rfl
theorem nI(a:Nat)(F:a<18446744073709551616)(h:sN a=false):Ieee.double.sqrt a=some (sV a):=by
 have U:=of_decide_eq_false h
 have V:fK a≠4:=fun e=>U (Or.inl e)
 have X:fK a≠0→fS a=false:=fun e=>by
  cases d:fS a
  ·rfl
  ·exact absurd (Or.inr ⟨e,d⟩) U
 unfold Ieee.Format.sqrt sV
 rw[if_neg V]
 by_cases H:fK a=3
 ·have d:=X (by omega)
  have Y:a=9218868437227405312:=by
   have:=fW a F
   rw[d,aQ]at this
   have h3:=((aP a).2.1.1 H)
   omega
  rw[if_pos (Or.inr Y),bP a F H,d]
  show some (Ieee.double.write (.infinity false))=_
  rw[dp,Y];rfl
 ·obtain⟨m,k,e,N⟩:=bV a F (aY a H V)
  rw[e]
  by_cases f:fK a=0
  ·have u:m=0:=(cn N).2 ((aR a).1 f)
   rw[if_pos (Or.inl f),u]
   show some (Ieee.double.nearest (fS a) 0 _)=_
   rw[dg,kg,←(aR a).1 f,fW a F]
  ·have d:=X f
   have u:m≠0:=fun e0=>f ((aR a).2 ((cn N).1 e0))
   have J:¬(fK a=0∨a=9218868437227405312):=by
    rintro(h|h)
    ·exact f h
    ·apply H;rw[h];decide
   rw[if_neg J,if_neg (show¬fS a=true by rw[d];decide),d]
   obtain⟨M,hM⟩:∃M:Nat,M=(108-m.log2)+((-1074+(k:Int)-((108-m.log2:Nat):Int))%2).toNat:=⟨_,rfl⟩
   show Option.map Ieee.double.write (if m=0 then _ else if false=true then none else some (.number false (2*(Ieee.Datum.rootFrom (m <<< ((108-m.log2)+((-1074+(k:Int)-((108-m.log2:Nat):Int))%2).toNat)) ((m <<< ((108-m.log2)+((-1074+(k:Int)-((108-m.log2:Nat):Int))%2).toNat)).log2/2+1) 0)+(Ieee.Datum.rootFrom (m <<< ((108-m.log2)+((-1074+(k:Int)-((108-m.log2:Nat):Int))%2).toNat)) ((m <<< ((108-m.log2)+((-1074+(k:Int)-((108-m.log2:Nat):Int))%2).toNat)).log2/2+1) 0*Ieee.Datum.rootFrom (m <<< ((108-m.log2)+((-1074+(k:Int)-((108-m.log2:Nat):Int))%2).toNat)) ((m <<< ((108-m.log2)+((-1074+(k:Int)-((108-m.log2:Nat):Int))%2).toNat)).log2/2+1) 0 != m <<< ((108-m.log2)+((-1074+(k:Int)-((108-m.log2:Nat):Int))%2).toNat)).toNat) ((-1074+(k:Int)-(((108-m.log2)+((-1074+(k:Int)-((108-m.log2:Nat):Int))%2).toNat:Nat):Int))/2-1)))=_
   rw[←hM,if_neg u,if_neg (by decide),Nat.shiftLeft_eq]
   obtain⟨G,O⟩:∃G:Int,2*G=(k:Int)-1074-M:=⟨((k:Int)-1074-M)/2,by omega⟩
   have K:(-1074+(k:Int)-(M:Int))/2=G:=by omega
   rw[K]
   have z:2^m.log2≤m:=by
    have Z:=aU m u
    have l1:bl m=m.log2+1:=by unfold bl;rw[if_neg u]
    rw[l1,show m.log2+1-1=m.log2 by omega]at Z
    exact Z.2.1
   have D:2^106≤m*2^M:=by
    have h1:2^m.log2*2^M≤m*2^M:=Nat.mul_le_mul_right _ z
    rw[←Nat.pow_add]at h1
    exact Nat.le_trans (dG (show 106≤m.log2+M by omega)) h1
   have l:Ieee.Datum.rootFrom (m*2^M) ((m*2^M).log2/2+1) 0=aT (m*2^M):=by
    have hn:m*2^M≠0:=by
     have:=Nat.two_pow_pos 106
     omega
    have b2:=aU _ hn
    have l2:bl (m*2^M)=(m*2^M).log2+1:=by unfold bl;rw[if_neg hn]
    rw[l2]at b2
    refine qE _ _ 0 (Nat.zero_le _) ?_
    rw[Nat.zero_add,←Nat.pow_add]
    exact Nat.lt_of_lt_of_le b2.2.2 (dG (by omega))
   rw[l]
   have L:2*aT (m*2^M)+(aT (m*2^M)*aT (m*2^M) != m*2^M).toNat=rS (m*2^M):=by
    unfold rS
    congr 1
    split
    ·rename_i Q;rw[Q];simp
    ·rename_i Q;simp[Q]
   rw[L]
   show some (Ieee.double.nearest false (rS (m*2^M)) _)=_
   rw[dg,aQ,(nG a m k M G f N O (qD D)).1]
theorem Ff(a:Nat):tV a≤9218868437227405312:=cH _ _
theorem lO(a:Nat)(d:a<18446744073709551616):sV a<18446744073709551616:=by
 have h:=Ff a
 unfold sV
 repeat' split
 all_goals omega
theorem II:bf (2^61) (-598)=486*4503599627370496:=by decide+kernel
theorem Ht:bf (2^1110) (-598)=1535*4503599627370496:=by decide+kernel
theorem Hu:(2:Nat)^60*2^60=1*2^120:=by decide
theorem DB:(2:Nat)^1109*2^1109=2^2098*2^120:=by decide+kernel
theorem zQ(a:Nat)(f:fK a≠0):2^60≤aT (rv (fR a)*2^120)∧2^61≤tS a:=by
 have z:rv (fR a)≠0:=fun e=>f ((aR a).2 ((jE _).1 e))
 have h:1*2^120≤rv (fR a)*2^120:=Nat.mul_le_mul_right _ (by omega)
 obtain⟨D,u⟩:=bQ (rv (fR a)*2^120)
 have d:2^60<aT (rv (fR a)*2^120)+1:=cg.1 (by rw[Hu];exact Nat.lt_of_le_of_lt h u)
 refine⟨Nat.le_of_lt_succ d,?_⟩
 have l:=Nat.le_of_lt_succ d
 have e:(2:Nat)^61=2*2^60:=by decide
 unfold tS rS
 rw[e]
 exact Nat.le_trans (Nat.mul_le_mul_left 2 l) (Nat.le_add_right _ _)
theorem F6{V P c R:Nat}(d:V<P)(f:0<c)(h:R*R=P*c):aT (V*c)<R:=by
 obtain⟨l,u⟩:=bQ (V*c)
 have:V*c<P*c:=(Nat.mul_lt_mul_right f).2 d
 exact cg.1 (by rw[h];omega)
theorem DC{V:Nat}(h:V<2^2098):aT (V*2^120)<2^1109:=by
 have d:=DB
 have f:=Nat.two_pow_pos 120
 generalize (2:Nat)^1109=R at*
 generalize (2:Nat)^2098=P at*
 generalize (2:Nat)^120=c at*
 exact F6 h f d
theorem Hv:(2:Nat)^1110=2^1109*2:=by decide+kernel
theorem Hw{N P:Nat}(h:aT N<P):rS N≤P*2:=by
 unfold rS
 have d:(if aT N*aT N=N then 0 else 1)≤1:=by split<;>omega
 omega
theorem zR(a:Nat)(f:aA a=true)(h:fK a≠0):486*4503599627370496≤tV a∧tV a≤1535*4503599627370496:=by
 have d:=js a f
 rw[fY]at d
 have l:=DC d
 have u:tS a≤2^1110:=by
  rw[Hv]
  generalize (2:Nat)^1109=R at*
  exact Hw l
 refine⟨?_,?_⟩
 ·rw[←II];exact rE _ (zQ a h).2
 ·rw[←Ht];exact rE _ u
end Go.Proofs.YtdhmglmccafbnaaGreatDoor
