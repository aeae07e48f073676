/- Part 17 of the texts. -/
import Derived.Test.YtcbcmlaogehimaaGreatDoorPartt16
namespace Go.Proofs.YtcbcmlaogehimaaGreatDoor
open Go.RowKit
theorem FT(N d:Nat)(h:0<d):cJ N d*d≤2*N+d∧2*N≤cJ N d*d+d:=by
 have u:=Nat.div_add_mod N d
 have z:=Nat.mod_lt N h
 unfold cJ
 split
 ·have e:(2*(N/d)+0)*d=2*(d*(N/d)):=by rw[Nat.add_zero,Nat.mul_assoc,Nat.mul_comm d]
  rw[e]
  generalize d*(N/d)=Q at*
  omega
 ·have e:(2*(N/d)+1)*d=2*(d*(N/d))+d:=by rw[Nat.add_mul,Nat.mul_assoc,Nat.one_mul,Nat.mul_comm d]
  rw[e]
  generalize d*(N/d)=Q at*
  omega
theorem tX(a b:Nat)(d:a<18446744073709551616)(h:b<18446744073709551616)(u:aj a=true)(z:aj b=true)(A:fK a≠0)(D:fK b≠0):
  340282366920938463463374607431768211456*(xE (qS a b) (fX a-fX b-181)*ab (fQ b))≤340282366920938463463374607431768211456*ab (fQ a)+ab (fQ a)∧
  340282366920938463463374607431768211456*ab (fQ a)≤340282366920938463463374607431768211456*(xE (qS a b) (fX a-fX b-181)*ab (fQ b))+ab (fQ a):=by
 obtain⟨x1,x2,x3,x4,x5,x6,x7,x8,x9⟩:=ee a d u A
 obtain⟨y1,y2,y3,y4,y5,y6,y7,y8,y9⟩:=ee b h z D
 have I:ab (fQ a)=(((fD a).natAbs*2^180:Nat):Rat)*(2*p2 (fX a-181)):=by
  have e:=oR a d u A 0
  rw[Int.add_zero,ji,Rat.mul_one,←ge]at e
  rw[←e]
  unfold xE
  rw[Rat.natCast_mul,←bu,show fX a=((180:Nat):Int)+(fX a-181+1) by omega,aU,cX,show((180:Nat):Int)+(fX a-181+1)-181=fX a-181 by omega]
  grind
 have J:ab (fQ b)=((fD b).natAbs:Rat)*p2 (fX b):=by
  have e:=oR b h z D 0
  rw[Int.add_zero,ji,Rat.mul_one,←ge]at e
  exact e.symm
 have eX:xE (qS a b) (fX a-fX b-181)*ab (fQ b)=((qS a b*(fD b).natAbs:Nat):Rat)*p2 (fX a-181):=by
  rw[J]
  unfold xE
  rw[Rat.natCast_mul,show fX a-181=(fX a-fX b-181)+fX b by omega,aU]
  grind
 obtain⟨s1,s2⟩:=FT ((fD a).natAbs*2^180) (fD b).natAbs (by omega)
 have F:=aE (fX a-181)
 have hd:340282366920938463463374607431768211456*(fD b).natAbs≤2*((fD a).natAbs*2^180):=by
  have K:2^181≤(fD a).natAbs*2^181:=Nat.le_mul_of_pos_left _ (by omega)
  have L:(2:Nat)^181=340282366920938463463374607431768211456*9007199254740992:=by decide
  have O:(2:Nat)^181=2^180*2:=by decide
  have Q:340282366920938463463374607431768211456*(fD b).natAbs≤340282366920938463463374607431768211456*9007199254740992:=Nat.mul_le_mul_left _ (by omega)
  rw[←L]at Q
  rw[O,←Nat.mul_assoc]at K
  omega
 have U:qS a b=cJ ((fD a).natAbs*2^180) (fD b).natAbs:=rfl
 rw[←U]at s1 s2
 rw[eX,I]
 generalize (fD a).natAbs*2^180=N at*
 generalize qS a b*(fD b).natAbs=Z at*
 have X:340282366920938463463374607431768211456*Z≤340282366920938463463374607431768211456*(2*N)+2*N:=by omega
 have Y:340282366920938463463374607431768211456*(2*N)≤340282366920938463463374607431768211456*Z+2*N:=by omega
 have G:=Rat.mul_le_mul_of_nonneg_left (Rat.natCast_le_natCast.2 X) (Rat.le_of_lt F)
 have H:=Rat.mul_le_mul_of_nonneg_left (Rat.natCast_le_natCast.2 Y) (Rat.le_of_lt F)
 rw[Rat.natCast_add,Rat.natCast_mul 340282366920938463463374607431768211456,Rat.natCast_mul 340282366920938463463374607431768211456,Rat.natCast_mul 2]at G H
 have k1:((340282366920938463463374607431768211456:Nat):Rat)=340282366920938463463374607431768211456:=rfl
 have k2:((2:Nat):Rat)=2:=rfl
 rw[k1,k2]at G H
 constructor<;>grind
theorem FU(a b:Nat)(N:a<18446744073709551616)(O:b<18446744073709551616)(D:aj a=true)(F:aj b=true)(G:fK a≠0)(H:fK b≠0)(Q:aj (dV a b)=true):
  10633823966279326983230456482242756608*ab (fQ (dV a b)*fQ b-fQ a)≤1180591620717411303425*ab (fQ a)∨
  (fR (dV a b)≤4503599627370496∧170141183460469231731687303715884105728*ab (fQ (dV a b)*fQ b-fQ a)≤170141183460469231731687303715884105728*(p2 (-1075)*ab (fQ b))+ab (fQ a)):=by
 have I:=iY _ Q
 have J:=(rm a b D F G H).1
 have U:qV a b≤9218868437227405312:=dU _ _
 have K:fR (dV a b)=qV a b:=by rw[J,iZ _ _ (by omega)]
 have Z:fS (dV a b)=(fS a^^fS b):=by rw[J,ju _ _ (by omega)]
 rw[K]at I
 have e:=kW (qS a b) (fX a-fX b-181) I
 obtain⟨q1,q2⟩:=tX a b N O D F G H
 have aa:0≤xE (qS a b) (fX a-fX b-181):=Rat.mul_nonneg Rat.natCast_nonneg (Rat.le_of_lt (aE _))
 have hy:(rv (qV a b):Rat)*p2 (-1074)=yE (qS a b) (fX a-fX b-181):=rfl
 have u:p2 (-1074)=2*p2 (-1075):=by rw[show(-1074:Int)= -1075+1 by rfl,cX]
 have hp:=aE (-1075)
 have n0:=oQ (fR a);have h:=oQ (fR b)
 rw[ge,ge]at*
 rw[dq (dV a b),Z,K,hy,dq a,dq b]
 generalize (rv (fR a):Rat)*p2 (-1074)=A at*
 generalize (rv (fR b):Rat)*p2 (-1074)=B at*
 generalize yE (qS a b) (fX a-fX b-181)=Y at*
 generalize xE (qS a b) (fX a-fX b-181)=X at*
 rw[u]at e
 generalize p2 (-1075)=η at*
 have d:10633823966279326983230456482242756608*ab (Y*B-A)≤1180591620717411303425*A∨(qV a b≤4503599627370496∧170141183460469231731687303715884105728*ab (Y*B-A)≤170141183460469231731687303715884105728*(η*B)+A):=by
  rcases e with⟨z,L⟩|⟨z,L,e3,e4⟩
  ·refine .inl ?_
   have c1:=Rat.mul_le_mul_of_nonneg_left z h
   have c2:=Rat.mul_le_mul_of_nonneg_left L h
   unfold ab
   grind
  ·refine .inr ⟨z,?_⟩
   have c1:=Rat.mul_le_mul_of_nonneg_left e3 h
   have c2:=Rat.mul_le_mul_of_nonneg_left e4 h
   unfold ab
   grind
 have k2:ab (Y*B-A)=ab (A-Y*B):=vZ _ _
 cases fS a<;>cases fS b<;>simp only[Bool.xor_false,Bool.xor_true,Bool.not_true,Bool.not_false,Bool.false_eq_true,if_true,if_false]
 ·exact d
 ·rw[show-Y* -B-A=Y*B-A by grind];exact d
 ·rw[show-Y*B- -A=A-Y*B by grind,←k2];exact d
 ·rw[show Y* -B- -A=A-Y*B by grind,←k2];exact d
theorem iE(a b:Nat)(u:aj a=true)(z:aj b=true)(h:ab (fQ a*fQ b)<p2 1023):
  aj (mV a b)=true∧9007199254740992*ab (fQ (mV a b)-fQ a*fQ b)≤ab (fQ a*fQ b)+9007199254740992*p2 (-1075):=by
 have A:=xZ a b u z h
 have d:p2 (-1074)=2*p2 (-1075):=by rw[show(-1074:Int)= -1075+1 by rfl,cX]
 have D:=aE (-1075)
 have F:=cS (fQ a*fQ b)
 refine⟨A,?_⟩
 rcases xY a b u z A with e|e
 ·grind
 ·have:=e.2
  rw[d]at this
  grind
def sJ:Nat→List Nat→List Nat→Nat
 |s,x::xs,y::ys=>sJ (aV s (mV x y)) xs ys
 |s,_,_=>s
def nD:List Nat→List Nat→Rat
 |x::xs,y::ys=>fQ x*fQ y+nD xs ys
 |_,_=>0
def yc:List Nat→List Nat→Rat
 |x::xs,y::ys=>ab (fQ x*fQ y)+yc xs ys
 |_,_=>0
theorem Lp:∀(h d:List Nat),0≤yc h d:=by
 intro h
 induction h with
 |nil=>intro d;exact Rat.le_refl
 |cons x h ih=>
  intro d
  cases d with
  |nil=>exact Rat.le_refl
  |cons y d=>
   have u:=ih d
   have z:=cS (fQ x*fQ y)
   show 0≤ab (fQ x*fQ y)+yc h d
   grind
theorem Jn:∀(h d:List Nat),ab (nD h d)≤yc h d:=by
 intro h
 induction h with
 |nil=>intro d;show ab 0≤0;unfold ab;grind
 |cons x h ih=>
  intro d
  cases d with
  |nil=>show ab 0≤0;unfold ab;grind
  |cons y d=>
   have u:=ih d
   have z:=dZ (fQ x*fQ y) (nD h d)
   show ab (fQ x*fQ y+nD h d)≤ab (fQ x*fQ y)+yc h d
   grind
theorem Cr(s x y:Nat)(T W H:Rat)(d:aj s=true)(z:aj x=true)(A:aj y=true)(D:0≤W)(U:W≤p2 1000)(F:9007199254740992*(4*p2 (-1075))≤W)
  (X:ab T+ab (fQ x*fQ y)≤W) (Y:H≤192*W) (Z:9007199254740992*ab (fQ s-T)≤H):
  aj (aV s (mV x y))=true∧9007199254740992*ab (fQ (aV s (mV x y))-(T+fQ x*fQ y))≤H+3*W:=by
 have T0:=cS T;have G:=cS (fQ x*fQ y)
 have I:16*p2 1000≤p2 1023∧0<p2 1000:=by
  have J:=aS (show(1000+1+1+1+1:Int)≤1023 by decide)
  simp only[cX]at J
  exact⟨by grind,aE _⟩
 obtain⟨B1,B2⟩:=I
 obtain⟨n1,n2,n3⟩:=iD
 obtain⟨u,e1⟩:=iE x y z A (by grind)
 have K:=br (fQ (mV x y)-fQ x*fQ y);have L:=br (fQ s-T);have N:=br T;have O:=br (fQ x*fQ y)
 have tt:=mQ (x:=fQ s+fQ (mV x y)) (y:=ab (fQ s-T)+ab (fQ (mV x y)-fQ x*fQ y)+ab T+ab (fQ x*fQ y)) (by grind) (by grind)
 have h:=g7 _ _ d u (by grind)
 have ea:=gZ _ _ d u h
 refine⟨h,?_⟩
 have Q:=br (fQ (aV s (mV x y))-(fQ s+fQ (mV x y)))
 have ll:=mQ (x:=fQ (aV s (mV x y))-(T+fQ x*fQ y)) (y:=ab (fQ (aV s (mV x y))-(fQ s+fQ (mV x y)))+ab (fQ (mV x y)-fQ x*fQ y)+ab (fQ s-T)) (by grind) (by grind)
 clear K L N O Q
 generalize ab (fQ (aV s (mV x y))-(T+fQ x*fQ y))=z0 at*
 generalize ab (fQ (aV s (mV x y))-(fQ s+fQ (mV x y)))=z1 at*
 generalize ab (fQ (mV x y)-fQ x*fQ y)=z2 at*
 generalize ab (fQ s-T)=z3 at*
 generalize ab (fQ s+fQ (mV x y))=z4 at*
 generalize ab (fQ x*fQ y)=z5 at*
 generalize ab T=z6 at*
 generalize p2 (-1075)=η at*
 grind
theorem FW(W:Rat)(u:0≤W)(Q:W≤p2 1000)(G:9007199254740992*(4*p2 (-1075))≤W):∀(d h:List Nat) (s:Nat) (T H:Rat),(∀x∈d,aj x=true)→(∀y∈h,aj y=true)→aj s=true→
  ab T+yc d h≤W→H+3*((d.length:Rat)*W)≤192*W→9007199254740992*ab (fQ s-T)≤H→
  aj (sJ s d h)=true∧9007199254740992*ab (fQ (sJ s d h)-(T+nD d h))≤H+3*((d.length:Rat)*W):=by
 intro d
 induction d with
 |nil=>
  intro h s T H _ _ F _ _ L
  have A:sJ s [] h=s:=by cases h<;>rfl
  have D:nD [] h=0:=by cases h<;>rfl
  have J:(([]:List Nat).length:Rat)=0:=rfl
  rw[A,D,J,Rat.add_zero]
  exact⟨F,by grind⟩
 |cons x d ih=>
  intro h s T H N O F hT hH L
  have J:((x::d).length:Rat)=(d.length:Rat)+1:=by rw[List.length_cons,Rat.natCast_add];rfl
  have l0:0≤(d.length:Rat)*W:=Rat.mul_nonneg Rat.natCast_nonneg u
  have K:((x::d).length:Rat)*W=(d.length:Rat)*W+W:=by rw[J];grind
  cases h with
  |nil=>
   have A:sJ s (x::d) []=s:=rfl
   have D:nD (x::d) []=0:=rfl
   rw[A,D,K,Rat.add_zero]
   exact⟨F,by grind⟩
  |cons y h=>
   have A:sJ s (x::d) (y::h)=sJ (aV s (mV x y)) d h:=rfl
   have D:nD (x::d) (y::h)=fQ x*fQ y+nD d h:=rfl
   have U:yc (x::d) (y::h)=ab (fQ x*fQ y)+yc d h:=rfl
   have d0:=Lp d h
   rw[U]at hT
   rw[K]at hH⊢
   obtain⟨X,Y⟩:=Cr s x y T W H F (N x List.mem_cons_self) (O y List.mem_cons_self) u Q G (by grind) (by grind) L
   have ht:=dZ T (fQ x*fQ y)
   obtain⟨Z,i2⟩:=ih h (aV s (mV x y)) (T+fQ x*fQ y) (H+3*W) (fun z I=>N z (List.mem_cons_of_mem _ I)) (fun z I=>O z (List.mem_cons_of_mem _ I)) X (by grind) (by grind) Y
   rw[A,D]
   refine⟨Z,?_⟩
   rw[show T+(fQ x*fQ y+nD d h)=T+fQ x*fQ y+nD d h by grind]
   grind
theorem Cs(W:Rat)(d h:List Nat)(D:d.length≤64)(F:W≤p2 1000)(z:9007199254740992*(4*p2 (-1075))≤W)(G:∀x∈d,aj x=true)(H:∀y∈h,aj y=true)(O:yc d h≤W):
  aj (sJ 0 d h)=true∧9007199254740992*ab (fQ (sJ 0 d h)-nD d h)≤3*((d.length:Rat)*W):=by
 have Q:=aE (-1075)
 have u:0≤W:=by grind
 have I:fQ 0=0:=bm 0 (by decide)
 have A:ab 0=0:=by unfold ab;grind
 have J:(d.length:Rat)≤64:=Rat.natCast_le_natCast.2 D
 have K:=Rat.mul_nonneg (show 0≤64-(d.length:Rat) by grind) u
 obtain⟨L,N⟩:=FW W u F z d h 0 0 0 G H (by decide) (by rw[A];grind) (by grind) (by rw[I,show(0:Rat)-0=0 by grind,A];grind)
 refine⟨L,?_⟩
 rw[Rat.zero_add]at N
 grind
theorem jx(d:List Nat):0≤bT d:=by
 induction d with
 |nil=>exact Rat.le_refl
 |cons x d ih=>
  have:=aw (fQ x)
  unfold bT
  grind
theorem ye:∀(h:List Nat) (x:Nat),x∈h→fQ x*fQ x≤bT h:=by
 intro h
 induction h with
 |nil=>intro x d;cases d
 |cons y ys ih=>
  intro x d
  have u:=jx ys
  have z:=aw (fQ y)
  have e:bT (y::ys)=fQ y*fQ y+bT ys:=rfl
  rw[e]
  rcases List.mem_cons.1 d with rfl|d
  ·grind
  ·have:=ih x d
   grind
theorem FX(B:Rat):∀(d:List Nat),(∀x∈d,ab (fQ x)≤B)→bT d≤(d.length:Rat)*(B*B):=by
 intro d
 induction d with
 |nil=>
  intro _
  have e:bT []=0:=rfl
  have u:(([]:List Nat).length:Rat)=0:=rfl
  rw[e,u]
  grind
 |cons y ys ih=>
  intro h
  have A:=ih (fun x z=>h x (List.mem_cons_of_mem _ z))
  have D:=h y List.mem_cons_self
  have l:=br (fQ y)
  have m:=Rat.mul_nonneg (show 0≤B-fQ y by grind) (show 0≤B+fQ y by grind)
  have e:bT (y::ys)=fQ y*fQ y+bT ys:=rfl
  have u:((y::ys).length:Rat)=(ys.length:Rat)+1:=by rw[List.length_cons,Rat.natCast_add];rfl
  rw[e,u]
  grind
theorem jy{x y:Rat}(d:0≤y)(h:x*x≤y*y):x≤y:=by
 rcases Rat.le_total (a:=x) (b:=y)with g|g
 ·exact g
 ·by_cases e:x=y
  ·rw[e];exact Rat.le_refl
  ·have m:=Rat.mul_pos (show 0<x-y by grind) (show 0<x+y by grind)
   grind
def rz(K:Int)(xs:List Nat):Prop:=(∀x∈xs,x<18446744073709551616∧aj x=true)∧(bB 0 xs=0∨(-K≤eX (bB 0 xs)∧eX (bB 0 xs)<K))
theorem gy(K:Int)(d:List Nat)(h:rz K d)(F:bB 0 d≠0):
  bB 0 d<9218868437227405312∧aj (bB 0 d)=true∧fK (bB 0 d)≠0∧fS (bB 0 d)=false∧-K≤eX (bB 0 d)∧eX (bB 0 d)<K∧
  (∀x∈d,ab (fQ x)≤fQ (bB 0 d))∧(∀x∈d,ab (dQ (eX (bB 0 d)) x)≤2)∧(∃x∈d,ab (fQ x)=fQ (bB 0 d)∧1≤dQ (eX (bB 0 d)) x*dQ (eX (bB 0 d)) x):=by
 obtain⟨U,g2,g3,z⟩:=kZ d 0 (by decide) (fun x A=>(h.1 x A).2)
 have Z:=h.2
 generalize hM:bB 0 d=M at*
 obtain⟨a1,X,G⟩:=i9 M (by omega)
 have fM:aj M=true:=(cf M).2.2.2 (by rw[X];exact U)
 have J:fK M≠0:=fun e=>F (by have:=(cr M).1 e;omega)
 have q0:=gu M G
 have L:fQ M=(rv M:Rat)*p2 (-1074):=by rw[dq,G,X];rfl
 obtain⟨Y,H⟩:=gx M (by omega) fM J
 rw[aY q0]at Y H
 have u:∀x∈d,ab (fQ x)≤fQ M:=fun x A=>by
  rw[ge,L]
  have h1:(rv (fR x):Rat)≤(rv M:Rat):=Rat.natCast_le_natCast.2 (iP (g3 x A))
  have:=Rat.mul_le_mul_of_nonneg_left h1 (Rat.le_of_lt (aE (-1074)))
  grind
 obtain⟨y,hy,I⟩:∃x∈d,fR x=M:=by
  rcases z with z|z
  ·exact absurd z F
  ·exact z
 clear z
 have N:ab (fQ y)=fQ M:=by rw[ge,L,I]
 have D:=aE (-eX M)
 have aa:p2 (-eX M)*p2 (eX M)=1:=rn _
 rw[cX]at H
 have u1:=Rat.mul_le_mul_of_nonneg_left Y (Rat.le_of_lt D)
 have u2:=Rat.mul_lt_mul_of_pos_left H D
 have O:∀x,ab (dQ (eX M) x)=ab (fQ x)*p2 (-eX M):=fun x=>by
  unfold dQ;rw[bJ,aY (Rat.le_of_lt D)]
 have Q:=Z.resolve_left F
 refine⟨U,fM,J,G,Q.1,Q.2,u,?_,y,hy,N,?_⟩
 ·intro x A
  rw[O]
  have:=Rat.mul_le_mul_of_nonneg_left (u x A) (Rat.le_of_lt D)
  grind
 ·have e1:1≤ab (dQ (eX M) y):=by rw[O,N];grind
  have e2:dQ (eX M) y*dQ (eX M) y=ab (dQ (eX M) y)*ab (dQ (eX M) y):=by
   rw[←bJ];exact(aY (aw _)).symm
  rw[e2]
  have:=Rat.mul_nonneg (show 0≤ab (dQ (eX M) y)-1 by grind) (show 0≤ab (dQ (eX M) y)-1 by grind)
  grind
theorem qA(K:Int)(hK:K≤900)(d:List Nat)(Z:d.length≤64)(h:rz K d)(G:bB 0 d≠0):
  let k:=eX (bB 0 d);let s:=ry k 0 d
  dj d=xV (sV s) k∧aj s=true∧fS s=false∧fK s≠0∧1≤gG k d∧9007199254740992*ab (fQ s-gG k d)≤130*gG k d∧
  aj (sV s)=true∧sV s<18446744073709551616∧fS (sV s)=false∧1≤2*fQ (sV s)∧fQ (sV s)≤17∧aj (dj d)=true∧fS (dj d)=false∧fQ (dj d)=fQ (sV s)*p2 k:=by
 intro k s
 obtain⟨b1,b2,b3,b4,b5,b6,b7,N,y,hy,b9,am⟩:=gy K d h G
 have z:dj d=xV (sV s) k:=by
  unfold dj
  rw[if_neg (by rw[b2];simp[G])]
 have H:1≤gG k d:=by have:=yb k d y hy;grind
 have aa:(d.length:Rat)≤64:=Rat.natCast_le_natCast.2 Z
 have T2:gG k d≤256:=by have:=Cp k d N;grind
 have ae:=Rat.mul_nonneg (show 0≤64-(d.length:Rat) by grind) (show 0≤gG k d by grind)
 have z0:fQ 0=0:=bm 0 (by decide)
 obtain⟨O,Q,e3⟩:=Co k (gG k d) H T2 d 0 0 0 (fun x A=>⟨(h.1 x A).1,(h.1 x A).2,N x A⟩) (by decide) (by decide) (by grind) (by grind) (by rw[z0];unfold ab;grind)
 have e4:9007199254740992*ab (fQ s-gG k d)≤130*gG k d:=by
  have:(0:Rat)+gG k d=gG k d:=Rat.zero_add _
  rw[this]at e3
  grind
 have l:=br (fQ s-gG k d)
 have s1:1≤2*fQ s:=by grind
 have I:fK s≠0:=fun e=>by
  have:=bm s e
  grind
 obtain⟨F,U,X,r4,Y,r6,r7⟩:=gM s O I Q
 have J:1≤2*fQ (sV s):=by
  rcases Rat.le_total (a:=1) (b:=2*fQ (sV s))with g|g
  ·exact g
  ·have:=Rat.mul_nonneg (show 0≤1-2*fQ (sV s) by grind) (show 0≤1+2*fQ (sV s) by grind)
   grind
 have L:fQ (sV s)≤17:=by
  rcases Rat.le_total (a:=fQ (sV s)) (b:=17)with g|g
  ·exact g
  ·have:=Rat.mul_nonneg (show 0≤fQ (sV s)-17 by grind) (show 0≤fQ (sV s)+17 by grind)
   grind
 have u:=aE k
 have x1:ab (fQ (sV s))*p2 k<p2 1023:=by
  rw[aY Y]
  have m1:=Rat.mul_le_mul_of_nonneg_left L (Rat.le_of_lt u)
  have D:=aS (show k+1+1+1+1+1≤1023 by omega)
  simp only[cX]at D
  grind
 have x2:p2 (-1022)≤ab (fQ (sV s))*p2 k:=by
  rw[aY Y]
  have m1:=Rat.mul_le_mul_of_nonneg_left J (Rat.le_of_lt u)
  have D:=aS (show-1022+1≤k by omega)
  rw[cX]at D
  grind
 obtain⟨y1,y2⟩:=g6 (sV s) k X F x1 x2
 refine⟨z,O,Q,I,H,e4,F,X,U,J,L,by rw[z];exact y1,?_,by rw[z];exact y2⟩
 have q0:fK (sV s)≠0:=fun e=>by
  have:=bm (sV s) e
  grind
 rw[z,ru _ _ F q0]
 have ah:=dU (fD (sV s)).natAbs (fX (sV s)+k)
 rw[ju _ _ (by omega)]
 exact U
theorem wj(K:Int)(G:K≤900)(d:List Nat)(H:d.length≤64)(h:rz K d)(I:bB 0 d≠0):
  aj (dj d)=true∧fS (dj d)=false∧0<fQ (dj d)∧9007199254740992*ab (fQ (dj d)*fQ (dj d)-bT d)≤135*bT d:=by
 obtain⟨Z,N,O,U,n5,n6,n7,n8,n9,X,Y,D,F,z⟩:=qA K G d H h I
 have A:=aE (eX (bB 0 d))
 refine⟨D,F,?_,?_⟩
 ·rw[z]
  exact Rat.mul_pos (by grind) A
 obtain⟨r1,r2,r3,r4,r5,r6,r7⟩:=gM _ N U O
 rw[z,←FS (eX (bB 0 d)) d]
 generalize fQ (sV (ry (eX (bB 0 d)) 0 d))=R at*
 generalize fQ (ry (eX (bB 0 d)) 0 d)=S at*
 generalize gG (eX (bB 0 d)) d=T at*
 have u:=Rat.mul_pos A A
 have J:R*p2 (eX (bB 0 d))*(R*p2 (eX (bB 0 d)))-T*(p2 (eX (bB 0 d))*p2 (eX (bB 0 d)))=(R*R-T)*(p2 (eX (bB 0 d))*p2 (eX (bB 0 d))):=by grind
 rw[J,bJ,aY (Rat.le_of_lt u)]
 generalize p2 (eX (bB 0 d))*p2 (eX (bB 0 d))=Q at*
 have l:=br (S-T)
 have L:9007199254740992*ab (R*R-T)≤135*T:=by
  generalize R*R=RR at*
  unfold ab
  grind
 have:=Rat.mul_le_mul_of_nonneg_left L (Rat.le_of_lt u)
 grind
theorem tY(d:List Nat)(D:d.length≤64)(h:rz 200 d)(F:bB 0 d≠0):
  0<fQ (dj d)∧aj (dj d)=true∧fS (dj d)=false∧9007199254740992*ab (fQ (dj d)*fQ (dj d)-bT d)≤135*bT d∧fQ (dj d)≤p2 204∧p2 (-201)≤fQ (dj d)∧(∀x∈d,1000000*ab (fQ x)≤1000001*fQ (dj d)):=by
 obtain⟨n1,n2,G,n4⟩:=wj 200 (by decide) d D h F
 obtain⟨b1,b2,b3,b4,b5,b6,b7,b8,y,hy,b9,aa⟩:=gy 200 d h F
 have I:(d.length:Rat)≤64:=Rat.natCast_le_natCast.2 D
 have P0:=aE 200
 have J:=gx _ (by omega) b2 b3
 rw[aY (gu _ b4)]at J
 have K:=aS (show eX (bB 0 d)+1≤200 by omega)
 have L:=aS (show-200≤eX (bB 0 d) by omega)
 have hS:bT d≤64*(p2 200*p2 200):=by
  have h1:=FX (p2 200) d (fun x A=>by have:=b7 x A;grind)
  have:=Rat.mul_nonneg (show 0≤64-(d.length:Rat) by grind) (aw (p2 200))
  grind
 have N:=ye d y hy
 have O:p2 (-200)≤ab (fQ y):=by rw[b9];grind
 have Q0:=aE (-200)
 have Q:=aw (fQ y)
 have ey:ab (fQ y)*ab (fQ y)=fQ y*fQ y:=by rw[←bJ];exact aY Q
 have U:p2 (-200)*p2 (-200)≤bT d:=by
  have m:=Rat.mul_nonneg (show 0≤ab (fQ y)-p2 (-200) by grind) (show 0≤ab (fQ y)+p2 (-200) by grind)
  grind
 have l:=br (fQ (dj d)*fQ (dj d)-bT d)
 have u:p2 204=16*p2 200:=by rw[show(204:Int)=200+1+1+1+1 by rfl];simp only[cX];grind
 have z:p2 (-200)=2*p2 (-201):=by rw[show(-200:Int)= -201+1 by rfl,cX]
 have s0:=jx d
 refine⟨G,n1,n2,n4,?_,?_,fun x A=>?_⟩
 ·refine jy (Rat.le_of_lt (aE _)) ?_
  rw[u]
  generalize fQ (dj d)*fQ (dj d)=H at*
  have:16*p2 200*(16*p2 200)=256*(p2 200*p2 200):=by grind
  rw[this]
  generalize p2 200*p2 200=PP at*
  grind
 ·refine jy (Rat.le_of_lt G) ?_
  have:p2 (-200)*p2 (-200)=4*(p2 (-201)*p2 (-201)):=by rw[z];grind
  rw[this]at U
  have X:=Rat.mul_pos (aE (-201)) (aE (-201))
  generalize fQ (dj d)*fQ (dj d)=H at*
  generalize p2 (-201)*p2 (-201)=PP at*
  grind
 ·have Y:=ye d x A
  have Z:=aw (fQ x)
  have ex:ab (fQ x)*ab (fQ x)=fQ x*fQ x:=by rw[←bJ];exact aY Z
  refine jy (by grind) ?_
  rw[show 1000000*ab (fQ x)*(1000000*ab (fQ x))=1000000000000*(ab (fQ x)*ab (fQ x)) by grind,ex,show 1000001*fQ (dj d)*(1000001*fQ (dj d))=1000002000001*(fQ (dj d)*fQ (dj d)) by grind]
  generalize fQ (dj d)*fQ (dj d)=H at*
  generalize fQ x*fQ x=XX at*
  grind
def sm:Nat→(Nat→Rat)→Rat
 |0,_=>0
 |n+1,f=>sm n f+f n
theorem Ct(n:Nat)(f g:Nat→Rat):sm n (fun i=>f i+g i)=sm n f+sm n g:=by
 induction n with
 |zero=>show(0:Rat)=0+0;grind
 |succ n ih=>show sm n _+(f n+g n)=sm n f+f n+(sm n g+g n);rw[ih];grind
theorem rA(n:Nat)(c:Rat)(f:Nat→Rat):sm n (fun i=>c*f i)=c*sm n f:=by
 induction n with
 |zero=>show(0:Rat)=c*0;grind
 |succ n ih=>show sm n _+c*f n=c*(sm n f+f n);rw[ih];grind
theorem fg{n:Nat}{f g:Nat→Rat}(h:∀i,i<n→f i=g i):sm n f=sm n g:=by
 induction n with
 |zero=>rfl
 |succ n ih=>show sm n f+f n=sm n g+g n;rw[ih (fun i d=>h i (by omega)),h n (by omega)]
theorem zJ{n:Nat}{f:Nat→Rat}(h:∀i,i<n→0≤f i):0≤sm n f:=by
 induction n with
 |zero=>exact Rat.le_refl
 |succ n ih=>
  have u:=ih (fun i d=>h i (by omega))
  have z:=h n (by omega)
  show 0≤sm n f+f n
  grind
theorem Cu{n:Nat}{f g:Nat→Rat}(h:∀i,i<n→f i≤g i):sm n f≤sm n g:=by
 induction n with
 |zero=>exact Rat.le_refl
 |succ n ih=>
  have u:=ih (fun i d=>h i (by omega))
  have z:=h n (by omega)
  show sm n f+f n≤sm n g+g n
  grind
def dt(n:Nat)(x y:Nat→Rat):Rat:=sm n (fun i=>x i*y i)
theorem gz(n:Nat)(x y:Nat→Rat):dt n x y=dt n y x:=fg (fun _ _=>Rat.mul_comm _ _)
theorem oS(n:Nat)(x y z:Nat→Rat):dt n (fun i=>x i+y i) z=dt n x z+dt n y z:=by
 unfold dt
 rw[←Ct]
 exact fg (fun i _=>by grind)
theorem jz(n:Nat)(c:Rat)(x z:Nat→Rat):dt n (fun i=>c*x i) z=c*dt n x z:=by
 unfold dt
 rw[←rA]
 exact fg (fun i _=>by grind)
theorem ej(n:Nat)(x y z:Nat→Rat):dt n z (fun i=>x i+y i)=dt n z x+dt n z y:=by
 rw[gz,oS,gz n x,gz n y]
theorem f6(n:Nat)(c:Rat)(x z:Nat→Rat):dt n z (fun i=>c*x i)=c*dt n z x:=by
 rw[gz,jz,gz n x]
theorem k7(n:Nat)(x:Nat→Rat):0≤dt n x x:=zJ (fun i _=>aw (x i))
theorem df{n:Nat}{x y x' y':Nat→Rat}(h:∀i,i<n→x i=x' i)(k:∀i,i<n→y i=y' i):dt n x y=dt n x' y':=
 fg (fun i d=>by rw[h i d,k i d])
theorem H7(n:Nat)(x y:Nat→Rat):dt n x y*dt n x y≤dt n x x*dt n y y:=by
 induction n with
 |zero=>show(0:Rat)*0≤0*0;exact Rat.le_refl
 |succ n ih=>
  have u:=k7 n x
  have z:=k7 n y
  have A:dt (n+1) x y=dt n x y+x n*y n:=rfl
  have D:dt (n+1) x x=dt n x x+x n*x n:=rfl
  have F:dt (n+1) y y=dt n y y+y n*y n:=rfl
  rw[A,D,F]
  generalize dt n x y=S at*
  generalize dt n x x=X at*
  generalize dt n y y=Y at*
  generalize x n=a at*
  generalize y n=b at*
  have d:=aw a
  have h:=aw b
  have G:0≤X*(b*b)+Y*(a*a):=by
   have:=Rat.mul_nonneg u h
   have:=Rat.mul_nonneg z d
   grind
  have H:(2*S*(a*b))*(2*S*(a*b))≤(X*(b*b)+Y*(a*a))*(X*(b*b)+Y*(a*a)):=by
   have I:=Rat.mul_nonneg (show 0≤X*Y-S*S by grind) (Rat.mul_nonneg d h)
   have k2:=aw (X*(b*b)-Y*(a*a))
   grind
  have J:=jy G H
  grind
def Bd(n:Nat)(x:Nat→Rat)(a:Rat):Prop:=0≤a∧dt n x x≤a*a
theorem Bd.dot{n:Nat}{x y:Nat→Rat}{a b:Rat}(d:Bd n x a)(u:Bd n y b):ab (dt n x y)≤a*b:=by
 have z:=Rat.mul_nonneg d.1 u.1
 have c:=H7 n x y
 have A:=k7 n x
 have D:=Rat.mul_nonneg (show 0≤a*a-dt n x x by have:=d.2;grind) (k7 n y)
 have k2:=Rat.mul_nonneg (aw a) (show 0≤b*b-dt n y y by have:=u.2;grind)
 have h:ab (dt n x y)*ab (dt n x y)≤(a*b)*(a*b):=by
  rw[←bJ,aY (aw _)]
  grind
 exact jy z h
theorem Bd.add{n:Nat}{x y:Nat→Rat}{a b:Rat}(h:Bd n x a)(u:Bd n y b):Bd n (fun i=>x i+y i) (a+b):=by
 have z:=h.1
 have A:=u.1
 refine⟨by grind,?_⟩
 have d:=h.dot u
 have l:=br (dt n x y)
 rw[oS,ej,ej,gz n y x]
 have:=h.2
 have:=u.2
 grind
theorem Bd.mul{n:Nat}{x:Nat→Rat}{a:Rat}(d:Bd n x a)(c:Rat):Bd n (fun i=>c*x i) (ab c*a):=by
 refine⟨Rat.mul_nonneg (cS c) d.1,?_⟩
 rw[jz,f6]
 have e:ab c*ab c=c*c:=by rw[←bJ];exact aY (aw c)
 have k:=Rat.mul_nonneg (aw c) (show 0≤a*a-dt n x x by have:=d.2;grind)
 rw[show ab c*a*(ab c*a)=ab c*ab c*(a*a) by grind,e]
 grind
theorem Bd.mono{n:Nat}{x:Nat→Rat}{a b:Rat}(d:Bd n x a)(h:a≤b):Bd n x b:=by
 have u:=d.1
 refine⟨by grind,?_⟩
 have k:=Rat.mul_nonneg (show 0≤b-a by grind) (show 0≤b+a by grind)
 have:=d.2
 grind
theorem Bd.congr{n:Nat}{x y:Nat→Rat}{a:Rat}(d:Bd n x a)(h:∀i,i<n→x i=y i):Bd n y a:=
 ⟨d.1,by rw[←df h h];exact d.2⟩
def gw(ε:Rat):Nat→Rat
 |0=>1
 |k+1=>(1+2*ε)*gw ε k
def bk(ε:Rat):Nat→Rat
 |0=>0
 |k+1=>3+(1+2*ε)*(1+2*ε)*bk ε k
def er(ε δ:Rat):Nat→Rat
 |0=>0
 |k+1=>gw ε k+er ε δ k*(1+2*ε+δ)
end Go.Proofs.YtcbcmlaogehimaaGreatDoor
