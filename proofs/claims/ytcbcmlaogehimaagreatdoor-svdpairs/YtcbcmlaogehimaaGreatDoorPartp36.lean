/- Part 36 of the texts. -/
import Derived.Test.YtcbcmlaogehimaaGreatDoorPartp35
namespace Go.Proofs.YtcbcmlaogehimaaGreatDoor
theorem Bd.le19{n:Nat}{e z:Nat→Rat}{γ:Rat}(u:Bd n z γ)(h:∀i,i<n→ab (e i)≤z i):Bd n e γ:=by
 refine⟨u.1,Rat.le_trans ?_ u.2⟩
 have k:=zg (f:=fun i=>e i*e i) (g:=fun i=>z i*z i) n (fun i d=>by
  show e i*e i≤z i*z i
  have a:=Rat.mul_le_mul_of_nonneg_left (h i d) (cE (e i))
  have A:0≤z i:=Rat.le_trans (cE (e i)) (h i d)
  have b:=Rat.mul_le_mul_of_nonneg_right (h i d) A
  rw[cq]at a
  exact Rat.le_trans a b)
 rw[dO,dO]at k
 exact k
theorem Bd.abs20{n:Nat}{x:Nat→Rat}{a:Rat}(h:Bd n x a):Bd n (fun i=>ab (x i)) a:=by
 refine⟨h.1,?_⟩
 have e:dt n (fun i=>ab (x i)) (fun i=>ab (x i))=dt n x x:=dH (fun i _=>cq (x i))
 rw[e]
 exact h.2
theorem Lw{n:Nat}(d:n≤6):Bd n (fun _=>1) 3:=by
 refine⟨by grind,?_⟩
 have k:=nf (f:=fun _=>(1:Rat)*1) (M:=1) n (fun _ _=>by grind)
 rw[dO]at k
 have h:(n:Rat)≤6:=Rat.natCast_le_natCast.2 d
 have:dt n (fun _=>1) (fun _=>1)=sm n (fun _=>(1:Rat)*1):=rfl
 rw[this]
 grind
theorem sT{n:Nat}(D:n≤6){e x y:Nat→Rat}{G:Rat}(F:Bd n x G)(H:Bd n y G)(O:1≤G)
  (I:∀i,i<n→9007199254740992*ab (e i)≤203/100*(ab (x i)+ab (y i))+9007199254740992*(3*p2 (-1075))):Bd n e (41/90071992547409920*G):=by
 obtain⟨Q,U,X⟩:=dI
 have d:=F.abs20.mul (203/900719925474099200)
 have u:=H.abs20.mul (203/900719925474099200)
 have A:=(Lw D).mul (3*p2 (-1075))
 have K:ab (203/900719925474099200:Rat)=203/900719925474099200:=aU (by grind)
 have L:ab (3*p2 (-1075))=3*p2 (-1075):=aU (by grind)
 rw[K]at d u
 rw[L]at A
 have b:=((d.add u).add A).mono (b:=41/90071992547409920*G) (by
  generalize p2 (-1075)=z at*
  grind)
 refine b.le19 (fun i J=>?_)
 have h:=I i J
 show ab (e i)≤203/900719925474099200*ab (x i)+203/900719925474099200*ab (y i)+3*p2 (-1075)*1
 generalize ab (e i)=Y at*
 generalize ab (x i)=Z at*
 generalize ab (y i)=w3 at*
 generalize p2 (-1075)=w4 at*
 grind
def Lx(r c:Nat)(S:List Nat)(F:Rat)(s:Sd)(n:Nat):Prop:=p7 r c (Bt c (cR c S) (cR c s.W) (cR c s.V)) ((n:Rat)*(18/9007199254740992*F))
theorem Ly{n m a b:Nat}(A:a<m)(D:b<m)(d:a≠b)(R:Nat→Nat→Rat){β:Rat}(h:p7 n m R β):Bd n (fun i=>R i a) β:=by
 have F:sR a b 0 a=1:=by unfold sR;rw[if_pos rfl]
 have G:sR a b 0 b=0:=by unfold sR;rw[if_neg (fun h=>d h.symm),if_pos rfl]
 have H:∀j,j≠a→j≠b→sR a b 0 j=0:=fun j u z=>by unfold sR;rw[if_neg u,if_neg z]
 have I:dt m (sR a b 0) (sR a b 0)=1:=by
  rw[oA A D d _ _ (fun j _ u z=>by rw[H j u z];grind),F,G]
  grind
 have k:=h (sR a b 0) 1 (by grind) (by rw[I];grind)
 rw[Rat.mul_one]at k
 refine k.congr (fun i _=>?_)
 rw[oA A D d _ _ (fun j _ u z=>by rw[H j u z];grind),F,G]
 grind
theorem Fp{n m a b:Nat}{v:Nat→Nat→Rat}{ε:Rat}(h:vU n m v ε)(u:1000*ε≤1)(z:a<m)(A:b<m)(d:a≠b):Bd n (fun i=>v i a) (1001/1000):=by
 refine⟨by grind,?_⟩
 have k:=(Fo h z A d).2
 have l:=bh (dt n (fun i=>v i a) (fun i=>v i a)-1)
 grind
theorem Bo{n:Nat}(h:n≤4000){F:Rat}(hF:1≤F):(n:Rat)*(18/9007199254740992*F)≤1/1000000*F∧0≤(n:Rat)*(18/9007199254740992*F):=by
 have d:(n:Rat)≤((4000:Nat):Rat):=Rat.natCast_le_natCast.2 h
 have e:((4000:Nat):Rat)=4000:=rfl
 rw[e]at d
 have u:=Rat.mul_le_mul_of_nonneg_right d (show 0≤18/9007199254740992*F by grind)
 exact⟨by grind,Rat.mul_nonneg Rat.natCast_nonneg (by grind)⟩
theorem vy{F:Rat}(h:1≤F):1≤1002/1000*F:=by grind
theorem zr:(1:Rat)≤1001/1000:=by grind
theorem sU(a b:Rat):a=b+(a-b):=by grind
theorem Fq{w F:Rat}(h:w≤1/1000000*F)(hF:1≤F):w+F*(1001/1000)≤1002/1000*F:=by grind
theorem Lz{w F:Rat}(h:w≤1/1000000*F)(d:0≤w):w+1/562949953421312*w+2*(41/90071992547409920*(1002/1000*F)+F*(41/90071992547409920*(1001/1000)))≤w+18/9007199254740992*F:=by grind
theorem Fr{r c:Nat}{S W V:List Nat}{B D F:Rat}{n:Nat}(hn:n≤4000)(hF:1≤F)(X:p7 r c (cR c S) F)(J:bO r c W B)(Y:B≤100)(K:bO c c V D)(Z:D≤100)(hr:r≤6)(hc:c≤6){p q C s:Nat}(u:p<c)(z:q<c)(A:p≠q)
  (fc:ai C=true) (fs:ai s=true) (G:562949953421312*ab (fQ C*fQ C+fQ s*fQ s-1)≤1) {ε:Rat} (hI:vU c c (cR c V) ε) (H:1000*ε≤1) (h:p7 r c (Bt c (cR c S) (cR c W) (cR c V)) ((n:Rat)*(18/9007199254740992*F))):
  p7 r c (Bt c (cR c S) (cR c (gD r c W p q C s)) (cR c (gD c c V p q C s))) (((n+1:Nat):Rat)*(18/9007199254740992*F)):=by
 obtain⟨c1,s1⟩:=mf G
 obtain⟨b1,b0⟩:=Bo hn hF
 have pw:=fun i (d:i<r)=>me C s (aP c W i p) (aP c W i q) fc fs (J.fin i p d u) (J.fin i q d z) c1 s1 (by have:=J.small Y d u;grind) (by have:=J.small Y d z;grind)
 have pv:=fun i (d:i<c)=>me C s (aP c V i p) (aP c V i q) fc fs (K.fin i p d u) (K.fin i q d z) c1 s1 (by have:=K.small Z d u;grind) (by have:=K.small Z d z;grind)
 have Q:=Fp hI H u z A
 have U:=Fp hI H z u (fun h=>A h.symm)
 have I:∀a b,a<c→b<c→a≠b→Bd c (fun k=>cR c V k a) (1001/1000)→Bd r (fun i=>cR c W i a) (1002/1000*F):=fun a b ha hb L hv=>by
  have k1:=Ly ha hb L _ h
  have k2:=X.vec hv
  have k3:=(k1.add k2).mono (b:=1002/1000*F) (Fq b1 hF)
  refine k3.congr (fun i _=>?_)
  show cR c W i a-dt c (cR c S i) (fun k=>cR c V k a)+dt c (cR c S i) (fun k=>cR c V k a)=cR c W i a
  grind
 have wp:=I p q u z A Q
 have wq:=I q p z u (fun h=>A h.symm) U
 have aa:∀x y:Rat,203/100*(x+y)+9007199254740992*(3*p2 (-1075))=203/100*(y+x)+9007199254740992*(3*p2 (-1075)):=fun x y=>by grind
 have E1:=sT hr (e:=fun i=>cR c (gD r c W p q C s) i p-(fQ C*cR c W i p+fQ s*cR c W i q)) wp wq (vy hF) (fun i d=>by
  show 9007199254740992*ab (fQ (aP c (gD r c W p q C s) i p)-(fQ C*fQ (aP c W i p)+fQ s*fQ (aP c W i q)))≤_
  rw[bY r c W p q C s u z d u,if_pos rfl]
  exact(pw i d).2.2.1)
 have E2:=sT hr (e:=fun i=>cR c (gD r c W p q C s) i q-(fQ C*cR c W i q-fQ s*cR c W i p)) wp wq (vy hF) (fun i d=>by
  show 9007199254740992*ab (fQ (aP c (gD r c W p q C s) i q)-(fQ C*fQ (aP c W i q)-fQ s*fQ (aP c W i p)))≤_
  rw[bY r c W p q C s u z d z,if_neg (fun h=>A h.symm),if_pos rfl]
  exact(pw i d).2.2.2)
 have E3:=sT hc (e:=fun i=>cR c (gD c c V p q C s) i p-(fQ C*cR c V i p+fQ s*cR c V i q)) Q U zr (fun i d=>by
  show 9007199254740992*ab (fQ (aP c (gD c c V p q C s) i p)-(fQ C*fQ (aP c V i p)+fQ s*fQ (aP c V i q)))≤_
  rw[bY c c V p q C s u z d u,if_pos rfl]
  exact(pv i d).2.2.1)
 have E4:=sT hc (e:=fun i=>cR c (gD c c V p q C s) i q-(fQ C*cR c V i q-fQ s*cR c V i p)) Q U zr (fun i d=>by
  show 9007199254740992*ab (fQ (aP c (gD c c V p q C s) i q)-(fQ C*fQ (aP c V i q)-fQ s*fQ (aP c V i p)))≤_
  rw[bY c c V p q C s u z d z,if_neg (fun h=>A h.symm),if_pos rfl]
  exact(pv i d).2.2.2)
 have R:=Fk u z A X h G E1 E2 E3 E4 (fun i _=>sU _ _) (fun i _=>sU _ _) (fun i d j O a b=>by
  show fQ (aP c (gD r c W p q C s) i j)=fQ (aP c W i j)
  rw[bY r c W p q C s u z d O,if_neg a,if_neg b]) (fun i _=>sU _ _) (fun i _=>sU _ _) (fun i d j O a b=>by
  show fQ (aP c (gD c c V p q C s) i j)=fQ (aP c V i j)
  rw[bY c c V p q C s u z d O,if_neg a,if_neg b])
 have en:((n+1:Nat):Rat)=(n:Rat)+1:=by rw[Rat.natCast_add];rfl
 rw[en,Rat.add_mul,Rat.one_mul]
 intro x t ht hx
 refine(R x t ht hx).mono (Rat.mul_le_mul_of_nonneg_right ?_ ht)
 exact Lz b1 b0
def nh(r c:Nat)(S:List Nat)(F B:Rat)(s:Sd)(n:Nat):Prop:=pT r c B s n∧Lx r c S F s n
theorem nh.mono{r c:Nat}{S:List Nat}{F B:Rat}{s:Sd}{m n:Nat}(hF:1≤F)(h:nh r c S F B s m)(d:m≤n):nh r c S F B s n:=by
 refine⟨h.1.mono d,fun x t u z=>(h.2 x t u z).mono (Rat.mul_le_mul_of_nonneg_right ?_ u)⟩
 exact Rat.mul_le_mul_of_nonneg_right (Rat.natCast_le_natCast.2 d) (by grind)
theorem nh.step{r c low p q n:Nat}{S:List Nat}{F B:Rat}{s:Sd}(hF:1≤F)(G:p7 r c (cR c S) F)(T:im r c low)(h:nh r c S F B s n)(d:n≤4000)(H:B≤99)(I:r≤6)(z:c≤6)(J:p<q)(u:q<c):nh r c S F B (ou r c low p q s) (n+1):=by
 refine⟨h.1.step T d H z J u,?_⟩
 unfold ou
 split
 ·exact(nh.mono hF h (show n≤n+1 by omega)).2
 next e=>
  have k:=mZ d
  have A:B+(n:Rat)*(1/1099511627776)≤100:=by grind
  have k2:1+(n:Rat)*(1/1099511627776)≤100:=by grind
  obtain⟨L,O⟩:=T s.W p q (h.1.1.1.mono A) (by omega) u (by cases h2:nA r c low s.W p q with|false=>rfl|true=>exact absurd h2 e)
  obtain⟨Q,U,X⟩:=kP _ L O
  have D:qu (iO r c s.W p q)<18446744073709551616:=df _ _
  have K:ai (fN (qu (iO r c s.W p q)))=true:=by rw[jW _ D];exact U
  exact Fr d hF G h.1.1.1 A h.1.1.2 k2 I z (by omega) u (by omega) Q K (sM D X) h.1.2 (mi d).1 h.2
theorem nh.inner{r c low p n:Nat}{S:List Nat}{F B:Rat}{s:Sd}(hF:1≤F)(d:p7 r c (cR c S) F)(T:im r c low)(h:nh r c S F B s n)(u:B≤99)(z:r≤6)(A:c≤6):∀t,p+t<c→n+t≤4000→nh r c S F B (kR r c low p s t) (n+t)
 |0,_,_=>h
 |t+1,ht,hn=>by
  have D:=nh.inner (p:=p) hF d T h u z A t (by omega) (by omega)
  have e:kR r c low p s (t+1)=ou r c low p (p+1+t) (kR r c low p s t):=rfl
  rw[e]
  exact nh.step (q:=p+1+t) (n:=n+t) hF d T D (by omega) u z A (by omega) (by omega)
theorem nh.outer{r c low n:Nat}{S:List Nat}{F B:Rat}{s:Sd}(hF:1≤F)(d:p7 r c (cR c S) F)(T:im r c low)(h:nh r c S F B s n)(u:B≤99)(z:r≤6)(A:c≤6):∀k,k≤c→n+E8 c k≤4000→nh r c S F B (ms r c low s k) (n+E8 c k)
 |0,_,_=>h
 |k+1,hk,hn=>by
  have D:E8 c (k+1)=E8 c k+(c-1-k):=rfl
  rw[D]at hn⊢
  have G:=nh.outer hF d T h u z A k (by omega) (by omega)
  have e:ms r c low s (k+1)=kR r c low k (ms r c low s k) (c-1-k):=rfl
  rw[e]
  exact nh.mono hF (nh.inner hF d T G u z A (c-1-k) (by omega) (by omega)) (by omega)
theorem nh.rounds{r c low:Nat}{S:List Nat}{F B:Rat}{s:Sd}(hF:1≤F)(z:p7 r c (cR c S) F)(T:im r c low)(h:nh r c S F B s 0)(A:B≤99)(D:r≤6)(d:c≤6):∀k,k≤60→nh r c S F B (eM r c low s k) (15*k)
 |0,_=>h
 |k+1,hk=>by
  have G:=nh.rounds hF z T h A D d k (by omega)
  have t:=E9 d
  have e:eM r c low s (k+1)=if(eM r c low s k).still=true then eM r c low s k else yX r c low (eM r c low s k):=rfl
  rw[e]
  split
  ·exact nh.mono hF G (by omega)
  ·have H:yX r c low (eM r c low s k)=ms r c low ⟨(eM r c low s k).W,(eM r c low s k).V,true⟩ c:=rfl
   rw[H]
   have u:nh r c S F B ⟨(eM r c low s k).W,(eM r c low s k).V,true⟩ (15*k):=G
   exact nh.mono hF (u.outer hF z T A D d c (Nat.le_refl _) (by omega)) (by omega)
theorem xW{f a b:Rat}(d:0<f)(h:f*a≤f*b):a≤b:=by
 rcases Rat.le_total (a:=a) (b:=b)with g|g
 ·exact g
 ·rcases Classical.em (a=b)with e|e
  ·rw[e];exact Rat.le_refl
  ·exfalso
   have u:b<a:=by grind
   have:=Rat.mul_lt_mul_of_pos_left u d
   grind
open Go.RowKit
theorem xX(e:Int)(k:Nat):p2 (e+k)=((2^k:Nat):Rat)*p2 e:=by rw[aL,br,Rat.mul_comm]
theorem pU(n:Nat):∃K:Nat,2^n=K∧0<K:=⟨2^n,rfl,Nat.pow_pos (by decide)⟩
theorem jI(f:Nat→Int):∀n,((cY f n:Int):Rat)=sm n (fun i=>((f i:Int):Rat))
 |0=>rfl
 |n+1=>by
  show((cY f n+f n:Int):Rat)=sm n _+_
  rw[Rat.intCast_add,jI f n]
theorem mj(n:Nat)(c:Rat)(f:Nat→Rat):sm n (fun i=>f i*c)=sm n f*c:=by
 rw[Rat.mul_comm,←rW]
 exact dH (fun i _=>Rat.mul_comm _ _)
theorem vz{n K:Nat}(h:2^n=K):((2:Int)^n:Int)=((K:Nat):Int):=by
 have e:((2^n:Nat):Int)=((K:Nat):Int):=by rw[h]
 rw[Int.natCast_pow]at e
 exact e
theorem vA:p2 (-1074)*p2 (-1074)=p2 (-2148):=by rw[←aL];rfl
end Go.Proofs.YtcbcmlaogehimaaGreatDoor
