/- Part 34 of the texts. -/
import Derived.Test.YtcbcmlaogehimaaGreatDoorPartp33
namespace Go.Proofs.YtcbcmlaogehimaaGreatDoor
theorem Bh{r c low p q:Nat}{s:Sd}(h:(ou r c low p q s).still=true):ou r c low p q s=s∧nA r c low s.W p q=true:=by
 unfold ou at h⊢
 split
 next e=>exact⟨rfl,e⟩
 next e=>rw[if_neg e]at h;cases h
theorem rh{r c low p:Nat}{s:Sd}:∀t,(kR r c low p s t).still=true→kR r c low p s t=s∧∀k,k<t→nA r c low s.W p (p+1+k)=true
 |0,_=>⟨rfl,fun _ h=>absurd h (Nat.not_lt_zero _)⟩
 |t+1,h=>by
  have e:kR r c low p s (t+1)=ou r c low p (p+1+t) (kR r c low p s t):=rfl
  rw[e]at h⊢
  obtain⟨z,d⟩:=Bh h
  rw[z]at h⊢
  obtain⟨u,A⟩:=rh t h
  rw[u]at d
  refine⟨u,fun k D=>?_⟩
  by_cases g:k=t
  ·subst g;exact d
  ·exact A k (by omega)
theorem ri{r c low:Nat}{s:Sd}:∀n,(ms r c low s n).still=true→ms r c low s n=s∧∀p q,p<n→p<q→q<c→nA r c low s.W p q=true
 |0,_=>⟨rfl,fun _ _ h=>absurd h (Nat.not_lt_zero _)⟩
 |n+1,h=>by
  have e:ms r c low s (n+1)=kR r c low n (ms r c low s n) (c-1-n):=rfl
  rw[e]at h⊢
  obtain⟨D,u⟩:=rh _ h
  rw[D]at h⊢
  obtain⟨z,F⟩:=ri n h
  rw[z]at u
  refine⟨z,fun p q G d A=>?_⟩
  by_cases g:p=n
  ·subst g
   have:=u (q-p-1) (by omega)
   rw[show p+1+(q-p-1)=q by omega]at this
   exact this
  ·exact F p q (by omega) d A
theorem rj{r c low:Nat}{s:Sd}(d:s.still=false):∀n,(eM r c low s n).still=true→∀p q,p<q→q<c→nA r c low (eM r c low s n).W p q=true
 |0,h=>by
  have e:eM r c low s 0=s:=rfl
  rw[e,d]at h
  cases h
 |n+1,h=>by
  have e:eM r c low s (n+1)=if(eM r c low s n).still=true then eM r c low s n else yX r c low (eM r c low s n):=rfl
  by_cases g:(eM r c low s n).still=true
  ·rw[e,if_pos g]
   exact rj d n g
  ·rw[e,if_neg g]at h⊢
   have u:yX r c low (eM r c low s n)=ms r c low ⟨(eM r c low s n).W,(eM r c low s n).V,true⟩ c:=rfl
   rw[u]at h⊢
   obtain⟨z,A⟩:=ri c h
   rw[z]
   intro p q D F
   exact A p q (by omega) D F
def vm(r c:Nat)(B D:Rat)(s:Sd)(n:Nat):Prop:=bO r c s.W (B+(n:Rat)*(1/1099511627776))∧bO c c s.V (D+(n:Rat)*(1/1099511627776))
theorem bO.mono{r c:Nat}{S:List Nat}{B D:Rat}(h:bO r c S B)(d:B≤D):bO r c S D:=⟨h.fin,h.lt,fun i u=>Rat.le_trans (h.sq i u) d⟩
theorem sL{m n:Nat}(h:m≤n):(m:Rat)*(1/1099511627776)≤(n:Rat)*(1/1099511627776):=Rat.mul_le_mul_of_nonneg_right (Rat.natCast_le_natCast.2 h) (by grind)
theorem vm.mono{r c:Nat}{B D:Rat}{s:Sd}{m n:Nat}(h:vm r c B D s m)(d:m≤n):vm r c B D s n:=by
 have:=sL d
 exact⟨h.1.mono (by grind),h.2.mono (by grind)⟩
theorem mZ{n:Nat}(h:n≤4000):(n:Rat)*(1/1099511627776)≤1:=by
 have:=sL h
 have e:((4000:Nat):Rat)=4000:=rfl
 rw[e]at this
 grind
def im(r c low:Nat):Prop:=∀(S:List Nat) (p q:Nat),bO r c S 100→p<c→q<c→nA r c low S p q=false→ai (iO r c S p q)=true∧fQ (iO r c S p q)*fQ (iO r c S p q)≤4
theorem sM{c s:Nat}(d:s<18446744073709551616)(h:562949953421312*ab (fQ c*fQ c+fQ s*fQ s-1)≤1):562949953421312*ab (fQ c*fQ c+fQ (fN s)*fQ (fN s)-1)≤1:=by
 rw[oj s d]
 rw[show-fQ s* -fQ s=fQ s*fQ s by grind]
 exact h
theorem vm.step{r c low p q n:Nat}{B D:Rat}{s:Sd}(T:im r c low)(h:vm r c B D s n)(H:n≤4000)(X:B≤99)(Y:D≤99)(Z:p<q)(d:q<c):vm r c B D (ou r c low p q s) (n+1):=by
 unfold ou
 split
 ·exact h.mono (by omega)
 next e=>
  have k:=mZ H
  have u:B+(n:Rat)*(1/1099511627776)≤100:=by grind
  have k2:D+(n:Rat)*(1/1099511627776)≤100:=by grind
  obtain⟨L,O⟩:=T s.W p q (h.1.mono u) (by omega) d (by cases h2:nA r c low s.W p q with|false=>rfl|true=>exact absurd h2 e)
  obtain⟨G,Q,U⟩:=kP _ L O
  have z:qu (iO r c s.W p q)<18446744073709551616:=df _ _
  have A:ai (fN (qu (iO r c s.W p q)))=true:=by rw[jW _ z];exact Q
  have F:=sM z U
  have I:((n+1:Nat):Rat)=(n:Rat)+1:=by rw[Rat.natCast_add];rfl
  have J:=h.1.turn u (p:=p) (q:=q) (by omega) d (by omega) G A F
  have K:=h.2.turn k2 (p:=p) (q:=q) (by omega) d (by omega) G A F
  unfold vm
  rw[I]
  exact⟨J.mono (by grind),K.mono (by grind)⟩
def E8(c:Nat):Nat→Nat
 |0=>0
 |k+1=>E8 c k+(c-1-k)
theorem E9{c:Nat}(d:c≤6):E8 c c≤15:=by
 have:∀c,c<7→E8 c c≤15:=by decide
 exact this c (by omega)
open Go.RowKit
theorem jh(K:Int)(d:List Nat)(hl:d.length≤64)(h:rV K d)(J:bF 0 d≠0)(hk:eX (bF 0 d)≤900):
  ∃s,rT (eX (bF 0 d)) 0 d=s∧cX d=xV (sV s) (eX (bF 0 d))∧ai s=true∧fS s=false∧fK s≠0∧1≤gL (eX (bF 0 d)) d∧gL (eX (bF 0 d)) d≤256∧ai (cX d)=true∧
  (fQ (cX d)=fQ (sV s)*p2 (eX (bF 0 d))∨2*ab (fQ (cX d)-fQ (sV s)*p2 (eX (bF 0 d)))≤p2 (-1074)):=by
 obtain⟨k,X⟩:∃k,eX (bF 0 d)=k:=⟨_,rfl⟩
 obtain⟨s,D⟩:∃s,rT k 0 d=s:=⟨_,rfl⟩
 obtain⟨b1,b2,b3,b4,b5,b6,b7,F,y,hy,b9,G⟩:=gd K d h J
 rw[X]at F G hk⊢
 have z:cX d=xV (sV s) k:=by
  unfold cX
  rw[if_neg (by rw[b2];simp[J]),X,D]
 have L:1≤gL k d:=by have:=yI k d y hy;grind
 have aa:(d.length:Rat)≤64:=Rat.natCast_le_natCast.2 hl
 have O:gL k d≤256:=by have:=Do k d F;grind
 have ae:=Rat.mul_nonneg (show 0≤64-(d.length:Rat) by grind) (show 0≤gL k d by grind)
 have z0:fQ 0=0:=bu 0 (by decide)
 obtain⟨H,I,Y⟩:=Dn k (gL k d) L O d 0 0 0 (fun x u=>⟨(h.1 x u).1,(h.1 x u).2,F x u⟩) (by decide) (by decide) (by grind) (by grind) (by rw[z0];unfold ab;grind)
 rw[D]at H I Y
 have e4:9007199254740992*ab (fQ s-gL k d)≤130*gL k d:=by
  have:(0:Rat)+gL k d=gL k d:=Rat.zero_add _
  rw[this]at Y
  grind
 have l:=bh (fQ s-gL k d)
 have s1:1≤2*fQ s:=by grind
 have Q:fK s≠0:=fun e=>by
  have:=bu s e
  grind
 obtain⟨Z,r2,r3,r4,r5,r6,r7⟩:=gS s H Q I
 have r8:1≤2*fQ (sV s):=by
  rcases Rat.le_total (a:=1) (b:=2*fQ (sV s))with g|g
  ·exact g
  ·have:=Rat.mul_nonneg (show 0≤1-2*fQ (sV s) by grind) (show 0≤1+2*fQ (sV s) by grind)
   grind
 have r9:fQ (sV s)≤17:=by
  rcases Rat.le_total (a:=fQ (sV s)) (b:=17)with g|g
  ·exact g
  ·have:=Rat.mul_nonneg (show 0≤fQ (sV s)-17 by grind) (show 0≤fQ (sV s)+17 by grind)
   grind
 have A:=aA k
 have x1:ab (fQ (sV s))*p2 k<p2 1023:=by
  rw[aU r5]
  have m1:=Rat.mul_le_mul_of_nonneg_left r9 (Rat.le_of_lt A)
  have m2:=aK (show k+1+1+1+1+1≤1023 by omega)
  simp only[cW]at m2
  grind
 have U:=jX (sV s) k r3 Z x1
 refine⟨s,D,z,H,I,Q,L,O,by rw[z];exact U,?_⟩
 rw[z]
 rcases jY (sV s) k r3 Z U with e|⟨_,_,e⟩
 ·exact .inl e
 ·exact .inr e
theorem vn(K:Int)(u:List Nat)(L:u.length≤64)(h:rV K u)(O:bF 0 u≠0)(X:eX (bF 0 u)≤900):1125899906842624*(fQ (bF 0 u)-fQ (cX u))≤3*fQ (bF 0 u):=by
 obtain⟨s,es,hn,n2,n3,n4,n5,T2,hf,H⟩:=jh K u L h O X
 obtain⟨b1,b2,b3,b4,b5,b6,b7,I,y,z,b9,J⟩:=gd K u h O
 obtain⟨r1,r2,r3,r4,r5,r6,r7⟩:=gS _ n2 n4 n3
 clear hn
 have Y:(u.length:Rat)≤64:=Rat.natCast_le_natCast.2 L
 have Z:=Rat.mul_nonneg (show 0≤64-(u.length:Rat) by grind) (show 0≤gL (eX (bF 0 u)) u by grind)
 have z0:fQ 0=0:=bu 0 (by decide)
 obtain⟨g1,U⟩:=Ml (eX (bF 0 u)) _ n5 T2 u 0 0 0 (fun x F=>⟨(h.1 x F).1,(h.1 x F).2,I x F⟩) (by decide) (by decide) (by decide) (by grind) (by grind) (by rw[z0];unfold ab;grind)
 have g3:=U y z
 obtain⟨p1,aa,p3⟩:=wU _ y (h.1 y z).1 (h.1 y z).2 (I y z)
 obtain⟨t1,t2,t3⟩:=iH
 have hp:=aA (eX (bF 0 u))
 have G:=rL (eX (bF 0 u))
 have eB:fQ (bF 0 u)=ab (dQ (eX (bF 0 u)) y)*p2 (eX (bF 0 u)):=by
  unfold dQ
  rw[bC,aU (Rat.le_of_lt (aA _)),b9,Rat.mul_assoc,G,Rat.mul_one]
 have eD:dQ (eX (bF 0 u)) y*dQ (eX (bF 0 u)) y=ab (dQ (eX (bF 0 u)) y)*ab (dQ (eX (bF 0 u)) y):=by
  rw[←bC];exact(aU (av _)).symm
 have m0:=cE (dQ (eX (bF 0 u)) y)
 have l:=bh (fQ (mV (xV y (-eX (bF 0 u))) (xV y (-eX (bF 0 u))))-dQ (eX (bF 0 u)) y*dQ (eX (bF 0 u)) y)
 rw[eD]at p3 l J
 generalize fQ (mV (xV y (-eX (bF 0 u))) (xV y (-eX (bF 0 u))))=P at*
 rw[es]at g3
 generalize fQ s=S at*
 generalize fQ (sV s)=R at*
 generalize ab (dQ (eX (bF 0 u)) y)=d at*
 clear g1 U b7 I
 generalize p2 (-1075)=η at*
 --R^2 is at least d^2 but for five parts in 2^53
 have e1:9007199254740992*(d*d)≤9007199254740992*(R*R)+6*(d*d):=by
  generalize ab (P-d*d)=A at*
  generalize d*d=D at*
  generalize R*R=RR at*
  grind
 have e2:1125899906842624*(d-R)≤d:=by
  rcases Rat.le_total (a:=1125899906842624*(d-R)) (b:=d)with g|g
  ·exact g
  ·have c1:=Rat.mul_nonneg (show 0≤1125899906842624*(d-R)-d by grind) m0
   have c2:=Rat.mul_nonneg (show 0≤1125899906842624*(d-R)-d by grind) r5
   grind
 have e3:=Rat.mul_le_mul_of_nonneg_left e2 (Rat.le_of_lt hp)
 have e4:1125899906842624*(fQ (bF 0 u)-R*p2 (eX (bF 0 u)))≤fQ (bF 0 u):=by rw[eB];grind
 have B0:=fj _ b4
 rcases H with e|e
 ·rw[e]
  grind
 ·have q:=aA (-1074)
  have l2:=bh (fQ (cX u)-R*p2 (eX (bF 0 u)))
  have e5:1125899906842624*(fQ (bF 0 u)-fQ (cX u))≤fQ (bF 0 u)+562949953421312*p2 (-1074):=by grind
  clear e4 e3 e l2
  unfold fQ at e5 B0⊢
  generalize fZ (bF 0 u)=M at*
  generalize fZ (cX u)=N at*
  have k1:1125899906842624*((M:Rat)-(N:Rat))≤(M:Rat)+562949953421312:=by
   refine Rat.le_of_mul_le_mul_right (c:=p2 (-1074)) ?_ q
   grind
  have k2:(((1125899906842624*(M-N):Int)):Rat)≤((M+562949953421312:Int):Rat):=by
   rw[Rat.intCast_mul,Rat.intCast_sub,Rat.intCast_add]
   exact k1
  have k3:=Rat.intCast_le_intCast.1 k2
  have M0:0≤M:=by
   rcases Int.lt_or_le M 0 with g|g
   ·exfalso
    have k:((M:Int):Rat)<0:=Rat.intCast_lt_intCast.2 g
    have:=Rat.mul_pos (show 0< -((M:Int):Rat) by grind) q
    grind
   ·exact g
  have k4:1125899906842624*(M-N)≤3*M:=by
   rcases Int.lt_or_le 281474976710656 M with g|g
   ·omega
   ·have:M-N≤0:=by omega
    omega
  have Q:(((1125899906842624*(M-N):Int)):Rat)≤((3*M:Int):Rat):=Rat.intCast_le_intCast.2 k4
  rw[Rat.intCast_mul,Rat.intCast_sub,Rat.intCast_mul]at Q
  have k6:1125899906842624*((M:Rat)-(N:Rat))≤3*(M:Rat):=Q
  have m:=Rat.mul_le_mul_of_nonneg_right k6 (Rat.le_of_lt q)
  grind
end Go.Proofs.YtcbcmlaogehimaaGreatDoor
namespace Go.Proofs.YtcbcmlaogehimaaGreatDoor
theorem vr(d:List Nat)(J:d.length≤64)(F:∀x∈d,x<18446744073709551616∧ai x=true)(Y:∀x∈d,ab (fQ x)≤64)(h:p2 (-50)≤fQ (cX d)):rV 200 d∧bF 0 d≠0:=by
 have Z:=aA (-50)
 have D:bF 0 d≠0:=fun e=>by
  have e2:cX d=0:=by unfold cX;rw[if_pos (.inl e)];exact e
  rw[e2,bu 0 (by decide)]at h
  grind
 have K:=jg d F
 obtain⟨b1,b2,b3,b4,b5,b6,b7,b8,y,hy,b9,ao⟩:=gd 5000 d K D
 obtain⟨k,u⟩:∃k,eX (bF 0 d)=k:=⟨_,rfl⟩
 obtain⟨t1,t2⟩:=gb (bF 0 d) (by omega) b2 b3
 have aa:ab (fQ (bF 0 d))=fQ (bF 0 d):=aU (fj _ b4)
 have P6:p2 6=64:=by rw[show(6:Int)=((6:Nat):Int) by rfl,br];rfl
 have ae:k<7:=by
  have:=Y y hy
  have m:=aK (show(6:Int)≤6 by decide)
  have:p2 k<p2 7:=by
   rw[show(7:Int)=6+1 by rfl,cW,P6]
   rw[u]at t1
   grind
  exact jA this
 refine⟨⟨F,.inr ?_⟩,D⟩
 rw[u]
 refine⟨?_,by omega⟩
 rcases Int.lt_or_le k (-200)with g|g
 rotate_left
 ·exact g
 exfalso
 have ah:=aK (show(-1074:Int)≤-60 by decide)
 have am:p2 (-50)=1024*p2 (-60):=by
  rw[show(-50:Int)=10+-60 by rfl,aL,show p2 10=1024 by rw[show(10:Int)=((10:Nat):Int) by rfl,br];rfl]
 have an:=aA (-60)
 rcases Int.lt_or_le k (-900)with g2|g2
 ·obtain⟨s,s1,s2,O,I,Q,s6,s7,s8,U⟩:=jh 5000 d J K D (by omega)
  obtain⟨r1,r2,r3,r4,r5,r6,r7⟩:=gS s O Q I
  have L:s<18446744073709551616:=by
   have:=of_decide_eq_false I
   omega
  obtain⟨u1,u2⟩:=gb s L O Q
  have u3:=(lH s L).2
  have u4:=aK (show eX s+1≤1026 by omega)
  have u5:ab (fQ s)=fQ s:=aU (fj _ I)
  have w:fQ (sV s)≤p2 520:=by
   rcases Rat.le_total (a:=fQ (sV s)) (b:=p2 520)with h|h
   ·exact h
   ·have v:=Rat.mul_le_mul_of_nonneg_left h r5
    have v2:=Rat.mul_le_mul_of_nonneg_left h (Rat.le_of_lt (aA 520))
    have e:p2 520*p2 520=16384*p2 1026:=by
     rw[←aL,show(520:Int)+520=14+1026 by rfl,aL,show p2 14=16384 by rw[show(14:Int)=((14:Nat):Int) by rfl,br];rfl]
    have:=aA 1026
    rw[e]at v2
    generalize fQ (sV s)*fQ (sV s)=z at*
    grind
  have w2:=aA k
  have G:=Rat.mul_le_mul_of_nonneg_right w (Rat.le_of_lt w2)
  rw[←aL]at G
  have w4:=aK (show 520+k≤-60 by omega)
  rw[u]at U
  have l:=bh (fQ (cX d)-fQ (sV s)*p2 k)
  generalize fQ (sV s)*p2 k=z at*
  rcases U with e|e<;>grind
 ·have H:rV 900 d:=⟨F,.inr (by rw[u];omega)⟩
  obtain⟨-,-,-,-,-,-,-,-,-,-,A,-,-,X⟩:=qU 900 (by decide) d J H D
  have w4:=aK (show k≤-60 by omega)
  have G:=Rat.mul_le_mul_of_nonneg_right A (Rat.le_of_lt (aA k))
  rw[u]at X A G
  rw[X]at h
  grind
theorem rk{x y:Rat}(D:0≤x)(z:0≤y)(h:x*x≤y*y):x≤y:=by
 rcases Rat.le_total (a:=x) (b:=y)with g|g
 ·exact g
 ·have u:=Rat.mul_le_mul_of_nonneg_left g D
  have v:=Rat.mul_le_mul_of_nonneg_right g z
  rcases Rat.le_total (a:=x) (b:=y)with A|A
  ·exact A
  ·by_cases e:x=y
   ·rw[e];exact Rat.le_refl
   ·exfalso
    have d:0<x-y:=by
     rcases Rat.le_total (a:=x-y) (b:=0)with k|k
     ·exact absurd (by grind) e
     ·by_cases F:x-y=0
      ·exact absurd (by grind) e
      ·grind
    have w:=Rat.mul_pos d (show 0<x by grind)
    have G:=Rat.mul_nonneg (Rat.le_of_lt d) z
    grind
theorem abs19(a:Nat)(h:ai a=true):ai (fR a)=true∧fQ (fR a)=ab (fQ a):=by
 have u:=i9 a h
 have d:=jc (fR a) (ji a)
 have z:fS (fR a)=false:=d.2.2
 have A:ai (fR a)=true:=(ch _).2.2.2 (by rw[d.2.1];exact u)
 refine⟨A,?_⟩
 rw[←aU (fj _ z),fL,fL,d.2.1]
theorem Bi(h:Nat)(D:h<18446744073709551616)(F:ai h=true)(G:8/10≤fQ h):ai (dV 4607182418800017408 h)=true∧ab (fQ (dV 4607182418800017408 h))≤13/10:=by
 obtain⟨Z,n2,n3⟩:=dI
 have d:ab (1:Rat)=1:=aU (by grind)
 have u:ab (fQ h)=fQ h:=aU (by grind)
 have H:fK h≠0:=(pP h (by grind)).2
 have O:=aK (show(1:Int)≤1000 by decide)
 have Q:p2 1=2:=by rw[show(1:Int)=((1:Nat):Int) by rfl,br];rfl
 have U:=Rat.mul_le_mul_of_nonneg_right (show 2≤p2 1000 by grind) (show 0≤fQ h by grind)
 obtain⟨f,e⟩:=pO 4607182418800017408 h (by decide) D j0 F H (by rw[gW,u,d];grind)
 rw[gW,u,d]at e
 refine⟨f,?_⟩
 have k:=bh (fQ (dV 4607182418800017408 h)*fQ h-1)
 have z:=cE (fQ (dV 4607182418800017408 h))
 have I:ab (fQ (dV 4607182418800017408 h))*fQ h=ab (fQ (dV 4607182418800017408 h)*fQ h):=by rw[bC,u]
 have J:=cF (fQ (dV 4607182418800017408 h)*fQ h-1) 1
 rw[show fQ (dV 4607182418800017408 h)*fQ h-1+1=fQ (dV 4607182418800017408 h)*fQ h by grind,←I,d]at J
 have X:=Rat.mul_le_mul_of_nonneg_left G z
 have K:=Rat.mul_le_mul_of_nonneg_right (show 1000*p2 (-1075)≤1/1000 by grind) (show 0≤fQ h by grind)
 --p2 (-1075)*h is small beside h times the number
 generalize ab (fQ (dV 4607182418800017408 h)*fQ h-1)=x1 at*
 generalize ab (fQ (dV 4607182418800017408 h))=A at*
 rcases Rat.le_total (a:=A) (b:=13/10)with g|g
 ·exact g
 ·exfalso
  have Y:=Rat.mul_le_mul_of_nonneg_right g (show 0≤fQ h by grind)
  have L:1000*p2 (-1075)*fQ h=1000*(p2 (-1075)*fQ h):=by grind
  rw[L]at K
  generalize p2 (-1075)*fQ h=x3 at*
  generalize A*fQ h=x4 at*
  generalize fQ h=x5 at*
  grind
theorem Bj(z:Nat)(D:ai z=true)(K:ab (fQ z)≤p2 220):ai (vd z)=true∧ab (fQ (vd z))≤13/10:=by
 obtain⟨n1,n2,n3⟩:=dI
 have L:=gW
 have d:=aA 220
 have B1:1000≤p2 220:=by
  have:=aK (show(10:Int)≤220 by decide)
  rw[show p2 10=1024 by rw[show(10:Int)=((10:Nat):Int) by rfl,br];rfl]at this
  grind
 have F:p2 440=p2 220*p2 220:=by rw[←aL];rfl
 have B3:16*p2 440≤p2 1023:=by
  have:=aK (show(4+440:Int)≤1023 by decide)
  rw[aL,show p2 4=16 by rw[show(4:Int)=((4:Nat):Int) by rfl,br];rfl]at this
  exact this
 have B4:1000≤p2 440:=by
  have:=Rat.mul_le_mul_of_nonneg_left B1 (Rat.le_of_lt d)
  rw[F];grind
 have z0:=cE (fQ z)
 have zz:=av (fQ z)
 have z2:fQ z*fQ z≤p2 440:=by
  have u:=Rat.mul_le_mul_of_nonneg_left K z0
  have v:=Rat.mul_le_mul_of_nonneg_right K (Rat.le_of_lt d)
  rw[cq]at u
  rw[F]
  grind
 obtain⟨m,Z⟩:∃m,m=mV z z:=⟨_,rfl⟩
 obtain⟨b,A⟩:∃b,b=aV 4607182418800017408 m:=⟨_,rfl⟩
 obtain⟨r,hr⟩:∃r,r=sV b:=⟨_,rfl⟩
 have O:ab (fQ z*fQ z)=fQ z*fQ z:=aU zz
 obtain⟨G,e1⟩:=iI z z D D (by rw[O];grind)
 rw[←Z]at G e1
 rw[O]at e1
 have k1:=bh (fQ m-fQ z*fQ z)
 have m1:0≤1+fQ m:=by generalize fQ z*fQ z=q at*;grind
 have m2:1+fQ m≤2*p2 440:=by generalize fQ z*fQ z=q at*;grind
 have Q:ab (1+fQ m)=1+fQ m:=aU m1
 have U:ai b=true:=by rw[A];exact ic _ _ j0 G (by rw[L,Q];grind)
 have e2:=ia _ _ j0 G (by rw[←A];exact U)
 rw[←A,L,Q]at e2
 have k2:=bh (fQ b-(1+fQ m))
 have b1:99/100≤fQ b∧fQ b≤3*p2 440:=by
  generalize fQ z*fQ z=q at*
  constructor<;>grind
 obtain⟨s1,s2⟩:=pP b (by grind)
 obtain⟨H,s3,l3,p3,I,e3,e4⟩:=gS b U s2 s1
 rw[←hr]at H s3 l3 p3 I e3 e4
 have r1:9/10≤fQ r:=rk (by grind) I (by grind)
 have r2:fQ r≤2*p2 220:=rk I (by grind) (by
  rw[show 2*p2 220*(2*p2 220)=4*p2 440 by rw[F];grind]
  grind)
 obtain⟨f4,J⟩:=abs19 z D
 have h:ab (fQ (fR z)+fQ r)=fQ (fR z)+fQ r:=aU (by rw[J];grind)
 have X:ai (aV (fR z) r)=true:=ic _ _ f4 H (by
  rw[h,J]
  have:=aK (show(2+220:Int)≤1023 by decide)
  have h3:4*p2 220≤p2 1023:=by
   rw[aL,show p2 2=4 by rw[show(2:Int)=((2:Nat):Int) by rfl,br];rfl]at this
   exact this
  grind)
 have Y:=ia _ _ f4 H X
 rw[h]at Y
 have k3:=bh (fQ (aV (fR z) r)-(fQ (fR z)+fQ r))
 have h8:8/10≤fQ (aV (fR z) r):=by
  rw[J]at Y k3
  grind
 have hl:aV (fR z) r<18446744073709551616:=h9 _ _ (by have:=ji z;omega) l3
 have:=Bi _ hl X h8
 have eU:vd z=dV 4607182418800017408 (aV (fR z) r):=by unfold vd;rw[←Z,←A,←hr]
 rw[eU]
 exact this
theorem Bk(z:Nat)(D:ai z=true)(F:ab (fQ z)≤p2 220):ai (Jg z)=true∧fQ (Jg z)*fQ (Jg z)≤4:=by
 obtain⟨A,G⟩:=Bj z D F
 have d:vd z<18446744073709551616:=yu _ _
 have h:fQ (vd z)*fQ (vd z)≤4:=by
  have u:=Rat.mul_le_mul_of_nonneg_left G (cE (fQ (vd z)))
  rw[cq]at u
  grind
 unfold Jg
 split
 ·rw[jW _ d,oj _ d]
  exact⟨A,by rw[show-fQ (vd z)* -fQ (vd z)=fQ (vd z)*fQ (vd z) by grind];exact h⟩
 ·exact⟨A,h⟩
theorem Fa{a b:Nat}(d:ai a=true)(u:ai b=true)(h:jo a b=true):fQ a<fQ b:=by
 have z:=(Jj d u).1 (of_decide_eq_true h)
 unfold fQ
 have A:(fZ a:Rat)<(fZ b:Rat):=Rat.intCast_lt_intCast.2 z
 exact Rat.mul_lt_mul_of_pos_right A (aA _)
theorem zh{a b:Nat}(d:ai a=true)(u:ai b=true)(h:jo a b=false):fQ b≤fQ a:=by
 have z:=of_decide_eq_false h
 have D:¬fZ a<fZ b:=fun g=>z ((Jj d u).2 g)
 unfold fQ
 have A:(fZ b:Rat)≤(fZ a:Rat):=Rat.intCast_le_intCast.2 (by omega)
 exact Rat.mul_le_mul_of_nonneg_right A (Rat.le_of_lt (aA _))
theorem zi{r c:Nat}{S:List Nat}{k x:Nat}(d:x∈bX r c S k):∃i,i<r∧x=aP c S i k:=by
 unfold bX KH mQ at d
 obtain⟨p,u,rfl⟩:=List.mem_map.1 d
 have h:=List.mem_range.1 u
 refine⟨p/1,by rw[Nat.div_one];omega,?_⟩
 show aP c S (0+p/1) (k+p%1)=aP c S (p/1) k
 rw[Nat.zero_add,Nat.mod_one,Nat.add_zero]
theorem rl:∀(d h:List Nat),(∀x∈d,ab (fQ x)≤10)→(∀y∈h,ab (fQ y)≤10)→rU d h≤(d.length:Rat)*100
 | [],_,_,_=>by
  show(0:Rat)≤((0:Nat):Rat)*100
  have:((0:Nat):Rat)=0:=rfl
  rw[this];grind
 |x::d,[],_,_=>by
  have A:rU (x::d) []=0:=rfl
  rw[A]
  exact Rat.mul_nonneg Rat.natCast_nonneg (by grind)
 |x::d,y::h,hx,hy=>by
  have F:=rl d h (fun z u=>hx z (List.mem_cons_of_mem _ u)) (fun z u=>hy z (List.mem_cons_of_mem _ u))
  have A:rU (x::d) (y::h)=ab (fQ x*fQ y)+rU d h:=rfl
  have D:((x::d).length:Rat)=(d.length:Rat)+1:=by rw[List.length_cons,Rat.natCast_add];rfl
  rw[A,D,bC]
  have a:=Rat.mul_le_mul_of_nonneg_right (hx x List.mem_cons_self) (cE (fQ y))
  have b:=hy y List.mem_cons_self
  generalize ab (fQ x)*ab (fQ y)=z at*
  generalize (d.length:Rat)=n at*
  grind
theorem zj(r c:Nat)(S:List Nat)(p q:Nat):ot r c S p q=tl 0 (bX r c S p) (bX r c S q):=by
 unfold ot
 rw[H9 _ _ r (by rw[aG,bt];omega) (by rw[aG,bt];omega),j4,j4,List.take_of_length_le (by rw[bt];omega),List.take_of_length_le (by rw[bt];omega)]
theorem bO.col{r c:Nat}{S:List Nat}{B:Rat}(h:bO r c S B)(A:B≤100){k:Nat}(u:k<c):(∀x∈bX r c S k,x<18446744073709551616∧ai x=true)∧∀x∈bX r c S k,ab (fQ x)≤10:=by
 refine⟨fun x z=>?_,fun x z=>?_⟩
 ·obtain⟨i,d,rfl⟩:=zi z
  exact⟨h.lt i k d u,h.fin i k d u⟩
 ·obtain⟨i,d,rfl⟩:=zi z
  exact h.small A d u
theorem mg{r c:Nat}{S:List Nat}{B:Rat}(h:bO r c S B)(u:B≤100)(z:r≤6){p q:Nat}(A:p<c)(D:q<c):
  ai (ot r c S p q)=true∧ab (fQ (ot r c S p q))≤700∧9007199254740992*ab (fQ (ot r c S p q)-kG (bX r c S p) (bX r c S q))≤12600:=by
 obtain⟨U,X,Y⟩:=dI
 obtain⟨I,J⟩:=h.col u A
 obtain⟨K,L⟩:=h.col u D
 have d:=rl _ _ J L
 rw[bt]at d
 have H:(r:Rat)≤6:=Rat.natCast_le_natCast.2 z
 have O:=aK (show(10:Int)≤1000 by decide)
 have Q:p2 10=1024:=by rw[show(10:Int)=((10:Nat):Int) by rfl,br];rfl
 obtain⟨f,e⟩:=uy 700 (bX r c S p) (bX r c S q) (by rw[bt];omega) (by grind) (by grind) (fun x F=>(I x F).2) (fun y G=>(K y G).2) (by grind)
 rw[bt]at e
 rw[zj]
 have l:=J9 (bX r c S p) (bX r c S q)
 have k:=cF (fQ (tl 0 (bX r c S p) (bX r c S q))-kG (bX r c S p) (bX r c S q)) (kG (bX r c S p) (bX r c S q))
 rw[show fQ (tl 0 (bX r c S p) (bX r c S q))-kG (bX r c S p) (bX r c S q)+kG (bX r c S p) (bX r c S q)=fQ (tl 0 (bX r c S p) (bX r c S q)) by grind]at k
 generalize ab (fQ (tl 0 (bX r c S p) (bX r c S q))-kG (bX r c S p) (bX r c S q))=Z at*
 generalize ab (fQ (tl 0 (bX r c S p) (bX r c S q)))=v2 at*
 generalize rU (bX r c S p) (bX r c S q)=v3 at*
 generalize ab (kG (bX r c S p) (bX r c S q))=v4 at*
 generalize (r:Rat)=v5 at*
 exact⟨f,by grind,by grind⟩
theorem mh{r c low:Nat}{S:List Nat}{B:Rat}(h:bO r c S B)(H:B≤100)(hr:r≤6){k:Nat}(I:k<c)(J:ai low=true)(hl:p2 (-50)≤fQ low)(z:jo low (gi r c S k)=true):
  ai (gi r c S k)=true∧fQ low<fQ (gi r c S k)∧fQ (gi r c S k)≤p2 204∧9007199254740992*ab (fQ (gi r c S k)*fQ (gi r c S k)-bj (bX r c S k))≤135*bj (bX r c S k):=by
 obtain⟨F,G⟩:=h.col H I
 have e:gi r c S k=cX (bX r c S k):=by unfold gi;rw[si,j4]
 have d:(bX r c S k).length≤64:=by rw[bt];omega
 have A:ai (cX (bX r c S k))=true:=by
  by_cases u:bF 0 (bX r c S k)=0
  ·have L:cX (bX r c S k)=0:=by unfold cX;rw[if_pos (.inl u)];exact u
   rw[L];decide+kernel
  ·have D:=jg _ F
   obtain⟨b1,X,Y,Z,b5,b6,b7,b8,y,hy,b9,aa⟩:=gd 5000 _ D u
   obtain⟨t1,t2⟩:=gb (bF 0 (bX r c S k)) (by omega) X Y
   have O:ab (fQ (bF 0 (bX r c S k)))=fQ (bF 0 (bX r c S k)):=aU (fj _ Z)
   have P1:=aK (show(10:Int)≤901 by decide)
   have P2:p2 10=1024:=by rw[show(10:Int)=((10:Nat):Int) by rfl,br];rfl
   have Q:eX (bF 0 (bX r c S k))<901:=jA (by have:=G y hy;grind)
   obtain⟨s,-,-,-,-,-,-,-,f,-⟩:=jh 5000 _ d D u (by omega)
   exact f
 rw[e]at z⊢
 have U:=Fa J A z
 obtain⟨T,u⟩:=vr _ d F (fun x K=>by have:=G x K;grind) (by grind)
 obtain⟨s1,s2,s3,s4,s5,s6,s7⟩:=uz _ d T u
 exact⟨A,U,s5,s4⟩
theorem Lr{r c low:Nat}{S:List Nat}{p q:Nat}(h:nA r c low S p q=false):jo low (gi r c S p)=true∧jo low (gi r c S q)=true∧jo (xV (mV (gi r c S p) (gi r c S q)) (-44)) (fR (ot r c S p q))=true:=by
 unfold nA at h
 revert h
 cases jo low (gi r c S p)<;>cases jo low (gi r c S q)<;>cases jo (xV (mV (gi r c S p) (gi r c S q)) (-44)) (fR (ot r c S p q))<;>simp
theorem vt(a b:Nat)(Q:ai a=true)(U:ai b=true)(G:p2 (-50)≤fQ a∧fQ a≤p2 204)(H:p2 (-50)≤fQ b∧fQ b≤p2 204):
  ai (xV (mV a b) (-44))=true∧p2 (-200)≤fQ (xV (mV a b) (-44))∧fQ (xV (mV a b) (-44))=fQ (mV a b)*p2 (-44)∧9007199254740992*ab (fQ (mV a b)-fQ a*fQ b)≤2*(fQ a*fQ b)∧ai (mV a b)=true:=by
 obtain⟨n1,n2,n3⟩:=dI
 have z:=aA (-50);have h:=aA 204
 have u:=Rat.mul_le_mul_of_nonneg_left G.2 (show 0≤fQ b by grind)
 have v:=Rat.mul_le_mul_of_nonneg_right H.2 (Rat.le_of_lt h)
 have w:=Rat.mul_le_mul_of_nonneg_left G.1 (show 0≤fQ b by grind)
 have x:=Rat.mul_le_mul_of_nonneg_right H.1 (Rat.le_of_lt z)
 have X:p2 204*p2 204=p2 408:=by rw[←aL];rfl
 have Y:p2 (-50)*p2 (-50)=p2 (-100):=by rw[←aL];rfl
 rw[X]at v;rw[Y]at x
 have lo:p2 (-100)≤fQ a*fQ b:=by rw[Rat.mul_comm (fQ a)];exact Rat.le_trans x w
 have hi:fQ a*fQ b≤p2 408:=by rw[Rat.mul_comm (fQ a)];exact Rat.le_trans u v
 have I:=aA (-100)
 have J:ab (fQ a*fQ b)=fQ a*fQ b:=aU (by grind)
 have Z:=aK (show(2+408:Int)≤1023 by decide)
 rw[aL,show p2 2=4 by rw[show(2:Int)=((2:Nat):Int) by rfl,br];rfl]at Z
 have K:=aA 408
 obtain⟨f,e⟩:=iI a b Q U (by rw[J];grind)
 rw[J]at e
 have m2:=aK (show(-1075:Int)≤-53+-100-53 by decide)
 have A:9007199254740992*p2 (-1075)≤p2 (-100):=by
  have L:=aK (show(53+-1075:Int)≤-100 by decide)
  rw[aL,show p2 53=9007199254740992 by rw[show(53:Int)=((53:Nat):Int) by rfl,br];rfl]at L
  exact L
 have e':9007199254740992*ab (fQ (mV a b)-fQ a*fQ b)≤2*(fQ a*fQ b):=by grind
 have l:=bh (fQ (mV a b)-fQ a*fQ b)
 have g1:p2 (-100)≤2*fQ (mV a b):=by grind
 have g2:fQ (mV a b)≤2*p2 408:=by grind
 have D:p2 (-100)*p2 (-44)=p2 (-144):=by rw[←aL];rfl
 have F:=aA (-44)
 have y1:=Rat.mul_le_mul_of_nonneg_right g1 (Rat.le_of_lt F)
 rw[D]at y1
 have d:=aK (show(-44:Int)≤0 by decide)
 rw[jk]at d
 have y2:=Rat.mul_le_mul_of_nonneg_left d (show 0≤fQ (mV a b) by grind)
 have O:ab (fQ (mV a b))=fQ (mV a b):=aU (by grind)
 have m4:=aK (show(1+-1022:Int)≤-144 by decide)
 have m5:=aK (show(1+-200:Int)≤-144 by decide)
 rw[aL,wN]at m4 m5
 obtain⟨z1,z2⟩:=ib (mV a b) (-44) (df _ _) f (by rw[O];grind) (by rw[O];grind)
 exact⟨z1,by rw[z2];grind,z2,e',f⟩
theorem zk{r c low:Nat}(z:r≤6)(U:ai low=true)(X:p2 (-50)≤fQ low):im r c low:=by
 intro S p q h J K hB
 obtain⟨B1,B2,B3⟩:=Lr hB
 have H:=(Rat.le_refl:(100:Rat)≤100)
 obtain⟨f1,n1,u1,_⟩:=mh h H z J U X B1
 obtain⟨f2,n2,u2,_⟩:=mh h H z K U X B2
 obtain⟨f3,l3,_⟩:=vt _ _ f1 f2 ⟨by grind,u1⟩ ⟨by grind,u2⟩
 obtain⟨I,g2,_⟩:=mg h H z J K
 obtain⟨x1,x2,_⟩:=mg h H z J J
 obtain⟨y1,y2,_⟩:=mg h H z K K
 obtain⟨a1,a2⟩:=abs19 _ I
 have b3:=Fa f3 a1 B3
 rw[a2]at b3
 unfold iO
 have L:=pH r c S p p;have ly:=pH r c S q q;have Y:=pH r c S p q
 generalize ot r c S p q=g at*
 generalize ot r c S p p=d at*
 generalize ot r c S q q=u at*
 clear f1 f2 f3 n1 n2 B1 B2 B3 hB
 have A:p2 10=1024:=by rw[show(10:Int)=((10:Nat):Int) by rfl,br];rfl
 have P1:=aK (show(2+10:Int)≤1023 by decide)
 rw[aL,A,show p2 2=4 by rw[show(2:Int)=((2:Nat):Int) by rfl,br];rfl]at P1
 --what stands above
 have O:fQ (fN d)= -fQ d:=oj d L
 have Z:ai (fN d)=true:=by rw[jW _ L];exact x1
 have t1:=cF (fQ u) (fQ (fN d))
 rw[O,kF]at t1
 have fa:=ic u (fN d) y1 Z (by rw[O];grind)
 have ea:=ia u (fN d) y1 Z fa
 rw[O]at ea
 have t2:=cF (fQ (aV u (fN d))-(fQ u+-fQ d)) (fQ u+-fQ d)
 rw[show fQ (aV u (fN d))-(fQ u+-fQ d)+(fQ u+-fQ d)=fQ (aV u (fN d)) by grind]at t2
 have sa:ab (fQ (aV u (fN d)))≤2000:=by
  generalize ab (fQ (aV u (fN d))-(fQ u+-fQ d))=v1 at*
  generalize ab (fQ u+-fQ d)=v2 at*
  generalize ab (fQ u)=v3 at*
  generalize ab (fQ d)=v4 at*
  generalize ab (fQ (aV u (fN d)))=v5 at*
  grind
 --and below
 have t3:=cF (fQ g) (fQ g)
 have fd:=ic g g I I (by grind)
 have ed:=ia g g I I fd
 have t4:=cF ((fQ g+fQ g)-fQ (aV g g)) (fQ (aV g g))
 rw[show fQ g+fQ g-fQ (aV g g)+fQ (aV g g)=2*fQ g by grind,bC,show ab 2=2 from aU (by grind),rP]at t4
 have sd:ab (fQ g)≤ab (fQ (aV g g)):=by
  have e:ab (fQ g+fQ g)=2*ab (fQ g):=by rw[show fQ g+fQ g=2*fQ g by grind,bC,show ab 2=2 from aU (by grind)]
  rw[e]at ed
  have:=cE (fQ g)
  generalize ab (fQ (aV g g)-(fQ g+fQ g))=v1 at*
  generalize ab (fQ (aV g g))=v2 at*
  generalize ab (fQ g)=v3 at*
  grind
 have aa:=aA (-200)
 have Q:p2 (-200)≤ab (fQ (aV g g)):=by grind
 have kd:fK (aV g g)≠0:=fun e=>by
  rw[bu _ e,iN]at Q
  grind
 have ld:aV g g<18446744073709551616:=h9 _ _ Y Y
 have la:aV u (fN d)<18446744073709551616:=h9 _ _ ly (oD _ L)
 have D:p2 1000*p2 (-200)=p2 800:=by rw[←aL];rfl
 have F:=aK (show(1+10:Int)≤800 by decide)
 rw[aL,A,wN]at F
 have w1:=Rat.mul_le_mul_of_nonneg_left Q (Rat.le_of_lt (aA 1000))
 rw[D]at w1
 obtain⟨fz,ez⟩:=pO (aV u (fN d)) (aV g g) la ld fa fd kd (by grind)
 have zz:MH d u g=dV (aV u (fN d)) (aV g g):=rfl
 rw[zz]
 refine Bk _ fz ?_
 have t5:=cF (fQ (dV (aV u (fN d)) (aV g g))*fQ (aV g g)-fQ (aV u (fN d))) (fQ (aV u (fN d)))
 rw[show fQ (dV (aV u (fN d)) (aV g g))*fQ (aV g g)-fQ (aV u (fN d))+fQ (aV u (fN d))=fQ (dV (aV u (fN d)) (aV g g))*fQ (aV g g) by grind,bC]at t5
 have s2:ab (fQ (aV g g))≤2000:=by
  have t6:=cF (fQ (aV g g)-(fQ g+fQ g)) (fQ g+fQ g)
  rw[show fQ (aV g g)-(fQ g+fQ g)+(fQ g+fQ g)=fQ (aV g g) by grind]at t6
  grind
 have s3:=Rat.mul_le_mul_of_nonneg_left s2 (show 0≤p2 (-1075) by exact Rat.le_of_lt (aA _))
 obtain⟨k1,k2,k3⟩:=dI
 have s4:=Rat.mul_le_mul_of_nonneg_left Q (cE (fQ (dV (aV u (fN d)) (aV g g))))
 have s5:ab (fQ (dV (aV u (fN d)) (aV g g)))*p2 (-200)≤3000:=by
  generalize ab (fQ (dV (aV u (fN d)) (aV g g))*fQ (aV g g)-fQ (aV u (fN d)))=v1 at*
  generalize ab (fQ (dV (aV u (fN d)) (aV g g)))*ab (fQ (aV g g))=v2 at*
  generalize ab (fQ (dV (aV u (fN d)) (aV g g)))*p2 (-200)=v3 at*
  generalize p2 (-1075)*ab (fQ (aV g g))=v4 at*
  generalize ab (fQ (aV u (fN d)))=v5 at*
  generalize p2 (-1075)=v6 at*
  clear k2
  grind
 have s6:=Rat.mul_le_mul_of_nonneg_right s5 (Rat.le_of_lt (aA 200))
 have e0:p2 (-200)*p2 200=1:=by rw[←aL];exact jk
 rw[Rat.mul_assoc,e0,Rat.mul_one]at s6
 have G:p2 220=1048576*p2 200:=by rw[show(220:Int)=20+200 by rfl,aL,show p2 20=1048576 by rw[show(20:Int)=((20:Nat):Int) by rfl,br];rfl]
 have:=aA 200
 rw[G]
 grind
open Go.RowKit
theorem vu(n:Nat)(c:Rat):sm n (fun _=>c)=(n:Rat)*c:=by
 induction n with
 |zero=>show(0:Rat)=((0:Nat):Rat)*c;have:((0:Nat):Rat)=0:=rfl;rw[this];grind
 |succ n ih=>
  show sm n (fun _=>c)+c=((n+1:Nat):Rat)*c
  rw[ih,Rat.natCast_add]
  have:((1:Nat):Rat)=1:=rfl
  rw[this]
  grind
theorem MR:∀(rs d:List Nat),rs.length=d.length→rU rs d=sm rs.length (fun i=>ab (fc rs i*fc d i)):=by
 intro rs
 induction rs with
 |nil=>
  intro d h
  have:d= []:=by cases d with|nil=>rfl|cons y ys=>simp at h
  subst this
  rfl
 |cons r rs ih=>
  intro d h
  cases d with
  |nil=>simp at h
  |cons x d=>
   have e:=ih d (by simpa using h)
   have u:rU (r::rs) (x::d)=ab (fQ r*fQ x)+rU rs d:=rfl
   rw[u,e]
   show _=sm (rs.length+1) _
   rw[uA]
   rfl
end Go.Proofs.YtcbcmlaogehimaaGreatDoor
namespace Go.Proofs.YtcbcmlaogehimaaGreatDoor
theorem zm(M:Rat)(u:0≤M):∀d:List Nat,(∀x∈d,ab (fQ x)≤M)→bj d≤(d.length:Rat)*(M*M)
 | [],_=>by
  show(0:Rat)≤((0:Nat):Rat)*(M*M)
  have:((0:Nat):Rat)=0:=rfl
  rw[this];grind
 |x::d,h=>by
  have H:=zm M u d (fun z D=>h z (List.mem_cons_of_mem _ D))
  have F:bj (x::d)=fQ x*fQ x+bj d:=rfl
  have G:((x::d).length:Rat)=(d.length:Rat)+1:=by rw[List.length_cons,Rat.natCast_add];rfl
  have A:=h x List.mem_cons_self
  have a:=Rat.mul_le_mul_of_nonneg_left A (cE (fQ x))
  have b:=Rat.mul_le_mul_of_nonneg_right A u
  rw[cq]at a
  rw[F,G,Rat.add_mul,Rat.one_mul]
  generalize (d.length:Rat)*(M*M)=I at*
  generalize ab (fQ x)*M=J at*
  generalize M*M=K at*
  grind
theorem Iu{r c:Nat}{S:List Nat}{B:Rat}(h:bO r c S B)(I:B≤100)(hr:r≤6){k:Nat}(J:k<c):
  ai (gi r c S k)=true∧∀x∈bX r c S k,1000*ab (fQ x)≤1001*fQ (gi r c S k):=by
 obtain⟨G,U⟩:=h.col I J
 have e:gi r c S k=cX (bX r c S k):=by unfold gi;rw[si,j4]
 have d:(bX r c S k).length≤64:=by rw[bt];omega
 rw[e]
 by_cases u:bF 0 (bX r c S k)=0
 ·have K:cX (bX r c S k)=0:=by unfold cX;rw[if_pos (.inl u)];exact u
  rw[K]
  refine⟨by decide+kernel,fun x z=>?_⟩
  obtain⟨X,H,D,F⟩:=jZ (bX r c S k) 0 (by decide) (fun x z=>(G x z).2)
  have L:=D x z
  rw[u]at L
  rw[fL,show fR x=0 by omega,dn,bu 0 (by decide)]
  have:((0:Nat):Rat)=0:=rfl
  rw[this]
  grind
 ·have A:=jg _ G
  obtain⟨X,H,D,F,b5,b6,Y,b8,y,Z,b9,aa⟩:=gd 5000 _ A u
  obtain⟨t1,t2⟩:=gb (bF 0 (bX r c S k)) (by omega) H D
  have O:ab (fQ (bF 0 (bX r c S k)))=fQ (bF 0 (bX r c S k)):=aU (fj _ F)
  have P1:=aK (show(10:Int)≤901 by decide)
  have P2:p2 10=1024:=by rw[show(10:Int)=((10:Nat):Int) by rfl,br];rfl
  have Q:eX (bF 0 (bX r c S k))<901:=jA (by have:=U y Z;grind)
  obtain⟨s,-,-,-,-,-,-,-,f,-⟩:=jh 5000 _ d A u (by omega)
  have g:=vn 5000 _ d A u (by omega)
  refine⟨f,fun x z=>?_⟩
  have:=Y x z
  have q0:=fj _ F
  grind
theorem zn{r c low:Nat}{S:List Nat}{B:Rat}(h:bO r c S B)(D:B≤100)(A:r≤6){k:Nat}(F:k<c)(G:ai low=true)(K:p2 (-50)≤fQ low)(H:jo low (gi r c S k)=false):
  bj (bX r c S k)≤7*(fQ low*fQ low):=by
 obtain⟨f,m⟩:=Iu h D A F
 have L:=zh G f H
 have J:=aA (-50)
 have M:=zm (1001/1000*fQ low) (by grind) (bX r c S k) (fun x I=>by have:=m x I;grind)
 rw[bt]at M
 have d:(r:Rat)≤6:=Rat.natCast_le_natCast.2 A
 have z:=av (fQ low)
 have e:1001/1000*fQ low*(1001/1000*fQ low)=1002001/1000000*(fQ low*fQ low):=by grind
 rw[e]at M
 have u:=Rat.mul_le_mul_of_nonneg_right d (show 0≤1002001/1000000*(fQ low*fQ low) by grind)
 generalize fQ low*fQ low=v at*
 grind
theorem j7(h:List Nat):bj h=dt h.length (fc h) (fc h):=by
 have e:∀d:List Nat,bj d=kG d d:=by
  intro d
  induction d with
  |nil=>rfl
  |cons y d ih=>
   show fQ y*fQ y+bj d=fQ y*fQ y+kG d d
   rw[ih]
 rw[e,←I9 h h rfl]
theorem Bd.abs19{n:Nat}{x:Nat→Rat}{a:Rat}(h:Bd n x a):Bd n (fun i=>ab (x i)) a:=by
 refine⟨h.1,?_⟩
 have e:dt n (fun i=>ab (x i)) (fun i=>ab (x i))=dt n x x:=dH (fun i _=>cq (x i))
 rw[e]
 exact h.2
theorem Iv(n:Nat)(Q B:List Nat)(d:Q.length=n)(z:B.length=n)(a b:Rat)(h:Bd n (fc Q) a)(u:Bd n (fc B) b):rU Q B≤a*b:=by
 have e:rU Q B=dt n (fun i=>ab (fc Q i)) (fun i=>ab (fc B i)):=by
  rw[MR Q B (by omega),d]
  exact dH (fun i _=>bC _ _)
 rw[e]
 have k:=(h.abs19).dot (u.abs19)
 have l:=bh (dt n (fun i=>ab (fc Q i)) (fun i=>ab (fc B i)))
 grind
theorem zo{r c low:Nat}{S:List Nat}{B:Rat}(h:bO r c S B)(A:B≤100)(F:r≤6){p q:Nat}(H:p<c)(I:q<c)(J:ai low=true)(K:p2 (-50)≤fQ low)(L:nA r c low S p q=true):
  bj (bX r c S p)≤7*(fQ low*fQ low)∨bj (bX r c S q)≤7*(fQ low*fQ low)∨
  ∃N M:Rat,p2 (-50)≤N∧p2 (-50)≤M∧100*(N*N)≤101*bj (bX r c S p)∧100*(M*M)≤101*bj (bX r c S q)∧8796093022208*ab (kG (bX r c S p) (bX r c S q))≤N*M:=by
 cases h1:jo low (gi r c S p)with
 |false=>exact .inl (zn h A F H J K h1)
 |true=>
  cases h2:jo low (gi r c S q)with
  |false=>exact .inr (.inl (zn h A F I J K h2))
  |true=>
   refine .inr (.inr ?_)
   have h3:jo (xV (mV (gi r c S p) (gi r c S q)) (-44)) (fR (ot r c S p q))=false:=by
    unfold nA at L
    rw[h1,h2]at L
    revert L
    cases jo (xV (mV (gi r c S p) (gi r c S q)) (-44)) (fR (ot r c S p q))<;>simp
   obtain⟨f1,n1,u1,e1⟩:=mh h A F H J K h1
   obtain⟨f2,n2,u2,e2⟩:=mh h A F I J K h2
   obtain⟨f3,l3,e3,e4,_⟩:=vt _ _ f1 f2 ⟨by grind,u1⟩ ⟨by grind,u2⟩
   obtain⟨g1,_,_⟩:=mg h A F H I
   obtain⟨a1,a2⟩:=abs19 _ g1
   have b3:=zh f3 a1 h3
   rw[a2,e3]at b3
   obtain⟨x1,x2⟩:=h.col A H
   obtain⟨y1,y2⟩:=h.col A I
   have Q:(bX r c S p).length=r:=bt _ _ _ _
   have ly:(bX r c S q).length=r:=bt _ _ _ _
   have eg:=zj r c S p q
   generalize ot r c S p q=g at*
   generalize bX r c S p=x at*
   generalize bX r c S q=y at*
   generalize gi r c S p=d at*
   generalize gi r c S q=u at*
   have U:=aA (-50)
   have X0:0≤bj x:=by rw[j7];exact jE _ _
   have Y0:0≤bj y:=by rw[j7];exact jE _ _
   have l1:=bh (fQ d*fQ d-bj x);have l2:=bh (fQ u*fQ u-bj y)
   have sx:=av (fQ d);have sy:=av (fQ u)
   have bx:Bd r (fc x) (101/100*fQ d):=by
    refine⟨by grind,?_⟩
    rw[←Q,←j7,show 101/100*fQ d*(101/100*fQ d)=10201/10000*(fQ d*fQ d) by grind]
    generalize fQ d*fQ d=v at*
    grind
   have G:Bd r (fc y) (101/100*fQ u):=by
    refine⟨by grind,?_⟩
    rw[←ly,←j7,show 101/100*fQ u*(101/100*fQ u)=10201/10000*(fQ u*fQ u) by grind]
    generalize fQ u*fQ u=v at*
    grind
   have D:=Iv r x y Q ly _ _ bx G
   rw[show 101/100*fQ d*(101/100*fQ u)=10201/10000*(fQ d*fQ u) by grind]at D
   have am:p2 (-100)≤fQ d*fQ u:=by
    have w:=Rat.mul_le_mul_of_nonneg_left (show p2 (-50)≤fQ d by grind) (show 0≤fQ u by grind)
    have v:=Rat.mul_le_mul_of_nonneg_right (show p2 (-50)≤fQ u by grind) (Rat.le_of_lt U)
    have X:p2 (-50)*p2 (-50)=p2 (-100):=by rw[←aL];rfl
    rw[X]at v
    rw[Rat.mul_comm (fQ d)]
    exact Rat.le_trans v w
   have Y:fQ d*fQ u≤p2 408:=by
    have w:=Rat.mul_le_mul_of_nonneg_left u1 (show 0≤fQ u by grind)
    have v:=Rat.mul_le_mul_of_nonneg_right u2 (Rat.le_of_lt (aA 204))
    have X:p2 204*p2 204=p2 408:=by rw[←aL];rfl
    rw[X]at v
    rw[Rat.mul_comm (fQ d)]
    exact Rat.le_trans w v
   have m1:=aK (show(1+408:Int)≤1000 by decide)
   rw[aL,wN]at m1
   have ae:=aA 408
   have m3:=aK (show(55+-1075:Int)≤-100 by decide)
   rw[aL,show p2 55=36028797018963968 by rw[show(55:Int)=((55:Nat):Int) by rfl,br];rfl]at m3
   have ah:=aA (-100)
   obtain⟨_,e6⟩:=uy (10201/10000*(fQ d*fQ u)) x y (by omega) (by grind) (by grind) (fun z O=>(x1 z O).2) (fun z O=>(y1 z O).2) D
   rw[←eg,Q]at e6
   have Z:(r:Rat)≤6:=Rat.natCast_le_natCast.2 F
   have w6:=Rat.mul_le_mul_of_nonneg_right Z (show 0≤10201/10000*(fQ d*fQ u) by grind)
   have t:=cF (kG x y-fQ g) (fQ g)
   rw[show kG x y-fQ g+fQ g=kG x y by grind,rP]at t
   have l4:=bh (fQ (mV d u)-fQ d*fQ u)
   have aa:17592186044416*p2 (-44)=1:=by
    rw[show(17592186044416:Rat)=p2 44 by rw[show(44:Int)=((44:Nat):Int) by rfl,br];rfl,←aL];exact jk
   have b4:17592186044416*ab (fQ g)≤fQ (mV d u):=by
    have e7:17592186044416*(fQ (mV d u)*p2 (-44))=fQ (mV d u):=by rw[show 17592186044416*(fQ (mV d u)*p2 (-44))=fQ (mV d u)*(17592186044416*p2 (-44)) by grind,aa,Rat.mul_one]
    grind
   refine⟨fQ d,fQ u,by grind,by grind,?_,?_,?_⟩
   ·generalize fQ d*fQ d=v at*
    grind
   ·generalize fQ u*fQ u=v at*
    grind
   ·clear bx G D e1 e2 l1 l2 X0 Y0 m1 m3 Y b3 e3 l3
    generalize ab (fQ g-kG x y)=v1 at*
    generalize ab (fQ (mV d u)-fQ d*fQ u)=v2 at*
    generalize fQ d*fQ u=v3 at*
    generalize ab (fQ g)=v4 at*
    generalize ab (kG x y)=v5 at*
    generalize (r:Rat)*(10201/10000*v3)=v6 at*
    generalize fQ (mV d u)=v7 at*
    grind
end Go.Proofs.YtcbcmlaogehimaaGreatDoor
