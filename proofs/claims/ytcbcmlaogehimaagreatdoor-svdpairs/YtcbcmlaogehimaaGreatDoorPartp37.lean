/- Part 37 of the texts. -/
import Derived.Test.YtcbcmlaogehimaaGreatDoorPartp36
import Derived.Test.YtcbcmlaogehimaaGreatDoorChecked
import Derived.Lib.SmallJoins
namespace Go.Proofs.YtcbcmlaogehimaaGreatDoor
open Go.RowKit
theorem zt{x y:Int}{m n V:Nat}(h:m+n≤V)(d:x.natAbs<2^m)(u:y.natAbs<2^n):(x*y).natAbs<2^V:=by
 refine Nat.lt_of_lt_of_le ?_ (Nat.pow_le_pow_right (by decide) h)
 rw[Int.natAbs_mul,Nat.pow_add]
 exact Nat.mul_lt_mul'' d u
theorem LB{x:Int}{m k V:Nat}(h:m+k≤V)(d:x.natAbs<2^m):(x*2^k).natAbs<2^V:=by
 refine Nat.lt_of_lt_of_le ?_ (Nat.pow_le_pow_right (by decide) h)
 rw[Int.natAbs_mul,Nat.pow_add]
 have e:((2:Int)^k).natAbs=2^k:=by rw[Int.natAbs_pow];rfl
 rw[e]
 exact Nat.mul_lt_mul_of_pos_right d (Nat.pow_pos (by decide))
theorem MS{x y:Int}{m V:Nat}(h:m+1≤V)(d:x.natAbs<2^m)(u:y.natAbs<2^m):(x+y).natAbs<2^V:=by
 refine Nat.lt_of_lt_of_le ?_ (Nat.pow_le_pow_right (by decide) h)
 rw[Nat.pow_succ]
 omega
theorem vB{x:Int}{m V:Nat}(h:m≤V)(d:x.natAbs<2^m):x.natAbs<2^V:=Nat.lt_of_lt_of_le d (Nat.pow_le_pow_right (by decide) h)
theorem Jr{x y:Int}(h:x≤y):bD x y≤0:=by
 unfold bD
 repeat' split
 all_goals omega
theorem vC{r c:Nat}{S:List Nat}(d:S.length=r*c)(h:r≤6)(u:c≤6)(fS:∀x∈S,ai x=true):(tq S).natAbs<2^4202:=by
 rw[uQ r c S d]
 exact lT (W:=4199) (V:=4202) (by decide) r (by omega) (fun i _=>lT (W:=4196) (V:=4199) (by decide) c (by omega) (fun k _=>zt (m:=2098) (n:=2098) (V:=4196) (by decide) (fi _ (dZ c S i k fS)) (fi _ (dZ c S i k fS))))
theorem pV{r c:Nat}{S:List Nat}(d:S.length=r*c)(h:∀i k,i<r→k<c→ai (aP c S i k)=true):gC S=true:=by
 rw[pE,d]
 intro x D
 obtain⟨u,z,A⟩:=lO D
 have:=h _ _ u z
 unfold aP at this
 rwa[A]at this
theorem gM{S:List Nat}(h:gC S=true):∀x∈S,ai x=true:=by
 rw[pE]at h
 intro x u
 obtain⟨k,d,e⟩:=List.getElem_of_mem u
 have:=h k d
 rw[List.getD_eq_getElem?_getD,List.getElem?_eq_getElem d]at this
 rw[←e]
 exact this
theorem rn(I:List Nat):∀i,(eL I i).Nodup
 |0=>List.nodup_nil
 |i+1=>by
  have h:=rn I i
  have d:=mb I i
  have u:eL I (i+1)=(eL I i).take (vg (EN I i) i)++i::(eL I i).drop (vg (EN I i) i):=rfl
  rw[u,List.perm_middle.nodup_iff,List.take_append_drop,List.nodup_cons]
  exact⟨fun e=>Nat.lt_irrefl _ (d i e),h⟩
theorem LC(I:List Nat){n i j:Nat}(u:i<n)(z:j<n)(h:i≠j):(eL I n).getD i 0≠(eL I n).getD j 0:=by
 have A:=fu I n
 have d:=List.pairwise_iff_getElem.1 (rn I n)
 intro e
 rw[List.getD_eq_getElem?_getD,List.getD_eq_getElem?_getD,List.getElem?_eq_getElem (by omega),List.getElem?_eq_getElem (by omega)]at e
 rcases Nat.lt_or_gt_of_ne h with g|g
 ·exact d i j (by omega) (by omega) g e
 ·exact d j i (by omega) (by omega) g e.symm
theorem gX(r c:Nat)(A:List Nat):(ew r c A).length=c:=fu _ _
theorem ml(r c:Nat)(A:List Nat){j:Nat}(d:j<c):(ew r c A).getD j 0<c:=(ET _ c d).2
theorem IG(r c:Nat)(A:List Nat){i j:Nat}(d:i<c)(u:j<c)(h:i≠j):(ew r c A).getD i 0≠(ew r c A).getD j 0:=LC _ d u h
theorem Js(r c:Nat)(A:List Nat){i j:Nat}(d:i<c)(u:j<c):aP c (dy r c A) i j=aP c (gY r c A).V i ((ew r c A).getD j 0):=by
 have h:=EF c c (gY r c A).V (ew r c A) d (q:=j) (by rw[gX];exact u)
 rw[gX]at h
 exact h
theorem vD(r c:Nat)(A:List Nat){i j:Nat}(d:i<r)(u:j<c):aP c (bV r c A) i j=xV (aP c (gY r c A).W i ((ew r c A).getD j 0)) (tC A):=by
 have h:=EF r c (gY r c A).W (ew r c A) d (q:=j) (by rw[gX];exact u)
 rw[gX]at h
 rw[←h]
 have z:i*c+j<(uZ r c (gY r c A).W (ew r c A)).length:=by rw[jf,gX];exact dh d u
 unfold bV d7 aP
 rw[List.getD_eq_getElem?_getD,List.getElem?_map,List.getElem?_range z]
 rfl
theorem xY(r c:Nat)(A:List Nat):(dy r c A).length=c*c:=by unfold dy;rw[jf,gX]
theorem xZ(r c:Nat)(A:List Nat):(bV r c A).length=r*c:=by unfold bV;rw[j6,jf,gX]
structure jJ (r c:Nat) (A:List Nat):Prop where
 up:-100≤tC A∧tC A<100
 w:bO r c (gY r c A).W 100
 v:bO c c (gY r c A).V 100
 iso:vU c c (cR c (gY r c A).V) (36000/9007199254740992)
theorem jJ.finV{r c:Nat}{A:List Nat}(h:jJ r c A):gC (dy r c A)=true:=
 pV (xY r c A) (fun i k d u=>by rw[Js r c A d u];exact h.v.fin _ _ d (ml r c A u))
theorem jJ.back{r c:Nat}{A:List Nat}(h:jJ r c A){i k:Nat}(d:i<r)(z:k<c):
  ai (aP c (bV r c A) i k)=true∧ab (fQ (aP c (bV r c A) i k)-fQ (aP c (gY r c A).W i ((ew r c A).getD k 0))*p2 (tC A))≤p2 (-1075):=by
 rw[vD r c A d z]
 have u:=ml r c A z
 exact vw _ _ (h.w.lt _ _ d u) (h.w.fin _ _ d u) (h.w.small (Rat.le_refl) d u) h.up
theorem jJ.finW{r c:Nat}{A:List Nat}(h:jJ r c A):gC (bV r c A)=true:=
 pV (xZ r c A) (fun _ _ d u=>(h.back d u).1)
theorem bS.key{A:List Nat}{k:Int}(h:bS A k):tC A=k:=by
 unfold tC
 rw[EZ]
 exact h.ek
theorem IH:(((15*60:Nat):Nat):Rat)*(1/1099511627776)≤1:=by
 have:(((15*60:Nat):Nat):Rat)=900:=rfl
 rw[this];grind
theorem Fs:(((15*60:Nat):Nat):Rat)*(40/9007199254740992)=36000/9007199254740992:=by
 have:(((15*60:Nat):Nat):Rat)=900:=rfl
 rw[this];grind
theorem bS.end19{A:List Nat}{k:Int}(h:bS A k){r c:Nat}(D:A.length=r*c)(F:r≤6)(G:c≤6):jJ r c A:=by
 have e:=h.endI D F G 60 (Nat.le_refl _)
 have u:=h.key
 have z:=IH
 obtain⟨⟨H,I⟩,d⟩:=e
 unfold Fl at d
 rw[Fs]at d
 refine⟨by rw[u];exact h.up,?_,?_,?_⟩<;>unfold gY<;>rw[u]
 ·exact H.mono (by grind)
 ·exact I.mono (by grind)
 ·exact d
theorem zu{r c low p:Nat}{s:Sd}(h:∀q,nA r c low s.W p q=true):∀t,kR r c low p s t=s
 |0=>rfl
 |t+1=>by
  show ou r c low p (p+1+t) (kR r c low p s t)=s
  rw[zu h t]
  unfold ou
  rw[if_pos (h _)]
theorem zv{r c low:Nat}{s:Sd}(h:∀p q,nA r c low s.W p q=true):∀n,ms r c low s n=s
 |0=>rfl
 |n+1=>by
  show kR r c low n (ms r c low s n) (c-1-n)=s
  rw[zv h n]
  exact zu (h n) _
theorem zw{r c low:Nat}{S V:List Nat}(h:∀p q,nA r c low S p q=true):∀n,eM r c low ⟨S,V,false⟩ (n+1)=⟨S,V,true⟩
 |0=>by
  show(if(⟨S,V,false⟩:Sd).still=true then(⟨S,V,false⟩:Sd)else yX r c low ⟨S,V,false⟩)=_
  rw[if_neg (show¬((⟨S,V,false⟩:Sd).still=true)from Bool.false_ne_true)]
  unfold yX
  exact zv (s:=⟨S,V,true⟩) h c
 |n+1=>by
  show(if(eM r c low ⟨S,V,false⟩ (n+1)).still=true then eM r c low ⟨S,V,false⟩ (n+1)else yX r c low (eM r c low ⟨S,V,false⟩ (n+1)))=_
  rw[zw h n]
  rfl
theorem sX{u:List Nat}(h:∀x∈u,fK x=0):mr (bH u)=0:=by
 have e:bF 0 u=0:=by
  have z:∀(d:List Nat),(∀x∈d,fK x=0)→bF 0 d=0:=by
   intro d
   induction d with
   |nil=>intro _;rfl
   |cons y d ih=>
    intro A
    have F:fR y=0:=(cs y).1 (A y List.mem_cons_self)
    show bF (mx 0 (fR y)) d=0
    rw[F]
    exact ih (fun x D=>A x (List.mem_cons_of_mem _ D))
  exact z u h
 unfold mr
 rw[aG,EZ,e,if_pos (.inl rfl)]
theorem ya{A:List Nat}{k:Int}(h:∀x∈A,fK x=0):d7 A k=A:=by
 rw[sN]
 refine List.ext_getElem (by simp) (fun i u d=>?_)
 rw[List.getElem_map]
 exact gK _ _ (h _ (List.getElem_mem d))
theorem yb{A:List Nat}(h:∀x∈A,fK x=0)(r c p:Nat):∀x∈bX r c A p,fK x=0:=by
 intro x d
 unfold bX KH mQ at d
 obtain⟨q,_,rfl⟩:=List.mem_map.1 d
 show fK (A.getD ((0+q/1)*c+(p+q%1)) 0)=0
 rw[List.getD_eq_getElem?_getD]
 cases e:A[(0+q/1)*c+(p+q%1)]? with
 |none=>decide
 |some v=>exact h v (List.mem_of_getElem? e)
theorem jK{A:List Nat}(h:∀x∈A,fK x=0)(r c:Nat):gY r c A=⟨A,iL c,true⟩:=by
 unfold gY Fz
 rw[ya h]
 refine zw (fun p q=>?_) 59
 unfold nA gi
 rw[sX (yb h r c p),sX h,show jo (xV 0 (-44)) 0=false by decide]
 rfl
theorem vE{A:List Nat}(h:∀x∈A,fK x=0):tC A=eX 0:=by
 have e:=sX h
 have u:∀(d:List Nat),(∀x∈d,fK x=0)→bF 0 d=0:=by
  intro d
  induction d with
  |nil=>intro _;rfl
  |cons y d ih=>
   intro z
   have F:fR y=0:=(cs y).1 (z y List.mem_cons_self)
   show bF (mx 0 (fR y)) d=0
   rw[F]
   exact ih (fun x D=>z x (List.mem_cons_of_mem _ D))
 unfold tC
 rw[EZ,u A h]
theorem sY{A:List Nat}(h:∀x∈A,fK x=0∧x<18446744073709551616)(r c:Nat):bO r c A 100:=by
 have d:∀i j,fK (aP c A i j)=0∧aP c A i j<18446744073709551616:=fun i j=>by
  unfold aP
  rw[List.getD_eq_getElem?_getD]
  cases e:A[i*c+j]? with
  |none=>decide
  |some v=>exact h v (List.mem_of_getElem? e)
 refine⟨fun i j _ _=>?_,fun i j _ _=>(d i j).2,fun i _=>?_⟩
 ·have:=(d i j).1
  unfold ai
  refine decide_eq_true (fun e=>?_)
  unfold fK at this
  rw[if_pos e]at this
  split at this<;>omega
 ·rw[pQ c (g:=fun _=>0) (fun j _=>by rw[bu _ (d i j).1];exact Rat.zero_mul _),ig]
  grind
theorem kn{A:List Nat}(h:∀x∈A,fK x=0∧x<18446744073709551616)(r c:Nat):jJ r c A:=by
 have e:=jK (fun x d=>(h x d).1) r c
 have k:=vE (fun x d=>(h x d).1)
 refine⟨by rw[k];decide,by rw[e];exact sY h r c,by rw[e];exact(pR c).mono (by grind),by rw[e];exact(sQ c).mono (by grind)⟩
theorem j8(r:Nat)(x y:Nat→Nat):dt r (fun i=>fQ (x i)) (fun i=>fQ (y i))=((nI r x y:Int):Rat)*p2 (-2148):=by
 unfold nI
 rw[jI,←mj,←vA]
 exact dH (fun i _=>by rw[Rat.intCast_mul];unfold fQ;grind)
theorem pW(A:List Nat):bj A=((tq A:Int):Rat)*p2 (-2148):=by
 rw[j7]
 exact j8 A.length (fun i=>A.getD i 0) (fun i=>A.getD i 0)
theorem mn{x s:Int}{u:Rat}{N:Nat}(d:0<u)(h:((N:Nat):Rat)*((x:Rat)*u)≤(s:Rat)*u):x*(N:Int)≤s:=by
 have z:u*(((x*(N:Int):Int)):Rat)≤u*(s:Rat):=by
  rw[Rat.intCast_mul]
  have e:((N:Int):Rat)=((N:Nat):Rat):=rfl
  rw[e]
  rw[show u*((x:Rat)*(N:Rat))=(N:Rat)*((x:Rat)*u) by grind,show u*(s:Rat)=(s:Rat)*u by grind]
  exact h
 exact Rat.intCast_le_intCast.1 (xW d z)
theorem mo{x:Nat}(h:fK x=0):fZ x=0:=by
 have e:=bu x h
 have P:=aA (-1074)
 unfold fQ at e
 have d:((0:Int):Rat)=0:=rfl
 have a:fZ x≤0:=Rat.intCast_le_intCast.1 (xW P (by rw[d];grind))
 have b:0≤fZ x:=Rat.intCast_le_intCast.1 (xW P (by rw[d];grind))
 omega
theorem yc:p2 (-80)*1208925819614629174706176=1:=by
 have e:=xX (-80) 80
 rw[show(-80:Int)+((80:Nat):Int)=0 by rfl,jk]at e
 have d:((2^80:Nat):Rat)=1208925819614629174706176:=rfl
 rw[d]at e
 grind
theorem Ft{d s q:Rat}(h:d≤q*s)(e:q*1208925819614629174706176=1):1208925819614629174706176*d≤s:=by
 have u:1208925819614629174706176*(q*s)=(q*1208925819614629174706176)*s:=by grind
 rw[e,Rat.one_mul]at u
 have:=Rat.mul_le_mul_of_nonneg_left h (show(0:Rat)≤1208925819614629174706176 by grind)
 rw[u]at this
 exact this
def jn(r c:Nat)(A:List Nat)(p:Nat)(i:Nat):Nat:=aP c (bV r c A) i p
theorem Bp{A:List Nat}{r c:Nat}(K:A.length=r*c)(L:r≤6)(O:c≤6)(Q:(∃k,bS A k)∨∀x∈A,fK x=0∧x<18446744073709551616)(G:(gY r c A).still=true){p q:Nat}(F:p<c)(H:q<c)(I:p≠q):
  nI r (jn r c A p) (jn r c A p)*1208925819614629174706176≤tq A∨nI r (jn r c A q) (jn r c A q)*1208925819614629174706176≤tq A∨
  nI r (jn r c A p) (jn r c A q)*nI r (jn r c A p) (jn r c A q)*75557863725914323419136≤nI r (jn r c A p) (jn r c A p)*nI r (jn r c A q) (jn r c A q):=by
 have u0:=aA (-2148)
 rcases Q with⟨k,h⟩|h
 ·have J:=h.key
  have E:=h.end19 K L O
  have X:∀p q,p<q→q<c→nA r c (xV (mr (bH (d7 A (-k)))) (-44)) (gY r c A).W p q=true:=by
   have:=rj (r:=r) (c:=c) (low:=xV (mr (bH (d7 A (-k)))) (-44)) (s:=⟨d7 A (-k),iL c,false⟩) rfl 60
   unfold gY Fz at G⊢
   rw[J]at G⊢
   exact this G
  have B:=Bn h K L O E.w Rat.le_refl X (ml r c A F) (ml r c A H) (IG r c A F H I) (fun i=>fQ (jn r c A p i)) (fun i=>fQ (jn r c A q i))
   (fun i D=>by unfold jn;rw[vD r c A D F,J]) (fun i D=>by unfold jn;rw[vD r c A D H,J])
  rw[j8,j8,j8,pW]at B
  rcases B with g|g|g
  ·exact .inl (mn (N:=1208925819614629174706176) u0 (Ft g yc))
  ·exact .inr (.inl (mn (N:=1208925819614629174706176) u0 (Ft g yc)))
  ·refine .inr (.inr (mn (N:=75557863725914323419136) (Rat.mul_pos u0 u0) ?_))
   rw[Rat.intCast_mul,Rat.intCast_mul]
   have Y:((75557863725914323419136:Nat):Rat)=75557863725914323419136:=rfl
   rw[Y]
   generalize p2 (-2148)=u at*
   generalize ((nI r (jn r c A p) (jn r c A q):Int):Rat)=a at*
   generalize ((nI r (jn r c A p) (jn r c A p):Int):Rat)=b at*
   generalize ((nI r (jn r c A q) (jn r c A q):Int):Rat)=d at*
   rw[show a*a*(u*u)=a*u*(a*u) by grind,show b*d*(u*u)=b*u*(d*u) by grind]
   exact g
 ·refine .inl ?_
  have e:nI r (jn r c A p) (jn r c A p)=0:=by
   unfold nI
   rw[gc (g:=fun _=>0) r (fun i D=>?_),gA]
   unfold jn
   rw[vD r c A D F,jK (fun x U=>(h x U).1)]
   have z:fK (aP c A i ((ew r c A).getD p 0))=0:=by
    unfold aP
    rw[List.getD_eq_getElem?_getD (l:=A)]
    cases e:A[i*c+(ew r c A).getD p 0]? with
    |none=>decide
    |some v=>exact(h v (List.mem_of_getElem? e)).1
   show fZ (xV (aP c A i ((ew r c A).getD p 0)) (tC A))*_=0
   rw[gK _ _ z,mo z,Int.zero_mul]
  rw[e,Int.zero_mul]
  unfold tq
  exact pz _ (fun i _=>kK _)
theorem Fu{x b:Rat}(h:ab x≤b):x*x≤b*b:=by
 have d:=cE x
 have u:=Rat.mul_le_mul_of_nonneg_left h d
 have z:=Rat.mul_le_mul_of_nonneg_right h (Rat.le_trans d h)
 rw[cq]at u
 exact Rat.le_trans u z
theorem sZ{n:Nat}(u:n≤6){f:Nat→Rat}{b:Rat}(z:0≤b)(h:∀i,i<n→f i≤b):sm n f≤6*b:=by
 have k:=Ds (g:=fun _=>b) h
 rw[vu]at k
 have d:(n:Rat)≤6:=Rat.natCast_le_natCast.2 u
 exact Rat.le_trans k (Rat.mul_le_mul_of_nonneg_right d z)
theorem II{n m a:Nat}(u:a<m)(R:Nat→Nat→Rat){β:Rat}(h:p7 n m R β):Bd n (fun i=>R i a) β:=by
 obtain⟨x,D⟩:∃x:Nat→Rat,x=fun j=>if j=a then 1 else 0:=⟨_,rfl⟩
 have z:x a=1:=by rw[D];exact if_pos rfl
 have A:∀j,j≠a→x j=0:=fun j d=>by rw[D];exact if_neg d
 have e:dt m x x=1:=by
  rw[sP u x x (fun j _ d=>by rw[A j d,Rat.zero_mul]),z,Rat.mul_one]
 have k:=h x 1 (by grind) (by rw[e];grind)
 rw[Rat.mul_one]at k
 refine k.congr (fun i _=>?_)
 rw[sP u (R i) x (fun j _ d=>by rw[A j d,Rat.mul_zero]),z,Rat.mul_one]
theorem zB{m:Nat}{w x:Nat→Rat}(h:∀j,j<m→w j=0):dt m w x=0:=by
 rw[dg (y:=x) (y':=x) (x':=fun _=>0) h (fun _ _=>rfl)]
 unfold dt
 rw[dH (g:=fun _=>0) (fun _ _=>Rat.zero_mul _),vu]
 exact Rat.mul_zero _
theorem zC(c:Nat){k j:Nat}(d:k<c)(u:j<c):cR c (iL c) k j=if k=j then 1 else 0:=by
 unfold cR iL aP
 rw[sj c c _ d u]
 by_cases h:k=j
 ·rw[if_pos h,if_pos h.symm];exact gW
 ·rw[if_neg h,if_neg (fun e=>h e.symm)];exact bu 0 (by decide)
theorem Bq(r c:Nat)(S:List Nat):p7 r c (Bt c (cR c S) (cR c S) (cR c (iL c))) 0:=by
 have e:∀i j,j<c→Bt c (cR c S) (cR c S) (cR c (iL c)) i j=0:=fun i j d=>by
  unfold Bt
  rw[sP d (cR c S i) (fun k=>cR c (iL c) k j) (fun k u h=>by show _*cR c (iL c) k j=0;rw[zC c u d,if_neg h,Rat.mul_zero])]
  show cR c S i j-cR c S i j*cR c (iL c) j j=0
  rw[zC c d d,if_pos rfl]
  grind
 intro x t z _
 refine⟨by rw[Rat.zero_mul];exact Rat.le_refl,?_⟩
 rw[zB (fun i _=>zB (fun j d=>e i j d)),Rat.zero_mul,Rat.zero_mul]
 exact Rat.le_refl
theorem nE{r c:Nat}{S:List Nat}(d:S.length=r*c):sm r (fun i=>dt c (cR c S i) (cR c S i))=bj S:=by
 rw[pW,uQ r c S d,jI,←mj]
 exact dH (fun i _=>by
  show dt c (cR c S i) (cR c S i)=_
  exact j8 c (aP c S i) (aP c S i))
theorem IJ{r c:Nat}{S:List Nat}(d:S.length=r*c){F:Rat}(hF:0≤F)(h:bj S≤F*F):p7 r c (cR c S) F:=by
 intro x t u z
 refine⟨Rat.mul_nonneg hF u,?_⟩
 have k:dt r (fun i=>dt c (cR c S i) x) (fun i=>dt c (cR c S i) x)≤sm r (fun i=>dt c (cR c S i) (cR c S i)*dt c x x):=Ds (fun i _=>I8 c (cR c S i) x)
 rw[mj,nE d]at k
 have a:=Rat.mul_le_mul_of_nonneg_right h (jE c x)
 have b:=Rat.mul_le_mul_of_nonneg_left z (Rat.mul_nonneg hF hF)
 rw[show F*t*(F*t)=F*F*(t*t) by grind]
 exact Rat.le_trans k (Rat.le_trans a b)
theorem Fv{r c:Nat}{S:List Nat}{B:Rat}(d:S.length=r*c)(u:r≤6)(z:0≤B)(h:bO r c S B):bj S≤6*B:=by
 rw[←nE d]
 refine sZ u z (fun i A=>?_)
 have k:=h.sq i A
 rw[dO]at k
 exact k
theorem vF{s:Rat}(u:1≤s)(z:s≤144):∃F:Rat,1≤F∧s≤F*F∧F*F≤4*s:=by
 rcases Rat.le_total (a:=s) (b:=4)with g|g
 ·exact⟨2,by grind,by grind,by grind⟩
 ·rcases Rat.le_total (a:=s) (b:=16)with d|d
  ·exact⟨4,by grind,by grind,by grind⟩
  ·rcases Rat.le_total (a:=s) (b:=64)with h|h
   ·exact⟨8,by grind,by grind,by grind⟩
   ·exact⟨12,by grind,by grind,by grind⟩
theorem bS.endR{A:List Nat}{k:Int}(h:bS A k){r c:Nat}(D:A.length=r*c)(u:r≤6)(G:c≤6):
  ∃F:Rat,1≤F∧F*F≤4*bj (d7 A (-k))∧p7 r c (Bt c (cR c (d7 A (-k))) (cR c (gY r c A).W) (cR c (gY r c A).V)) (16200/9007199254740992*F):=by
 have K:A.length≤36:=by rw[D];exact Nat.mul_le_mul u G
 obtain⟨Q,U,X,_⟩:=h.low (by omega)
 have H:(d7 A (-k)).length=r*c:=by rw[j6];exact D
 have I:=h.rows D G
 obtain⟨F,J,Y,Z⟩:=vF Q (Rat.le_trans (Fv H u (by grind) I) (by grind))
 refine⟨F,J,Z,?_⟩
 have z:((0:Nat):Rat)*(1/1099511627776)=0:=by
  have:((0:Nat):Rat)=0:=rfl
  rw[this,Rat.zero_mul]
 have z2:((0:Nat):Rat)*(40/9007199254740992)=0:=by
  have:((0:Nat):Rat)=0:=rfl
  rw[this,Rat.zero_mul]
 have L:((0:Nat):Rat)*(18/9007199254740992*F)=0:=by
  have:((0:Nat):Rat)=0:=rfl
  rw[this,Rat.zero_mul]
 have d:nh r c (d7 A (-k)) F 24 ⟨d7 A (-k),iL c,false⟩ 0:=by
  refine⟨⟨⟨by rw[z,Rat.add_zero];exact I,by rw[z,Rat.add_zero];exact pR c⟩,?_⟩,?_⟩
  ·unfold Fl
   rw[z2]
   exact sQ c
  ·unfold Lx
   rw[L]
   exact Bq r c _
 have e:=(nh.rounds J (IJ H (by grind) Y) (zk u U X) d (by grind) u G 60 (Nat.le_refl _)).2
 unfold Lx at e
 have O:(((15*60:Nat):Nat):Rat)*(18/9007199254740992*F)=16200/9007199254740992*F:=by
  have:(((15*60:Nat):Nat):Rat)=900:=rfl
  rw[this];grind
 rw[O]at e
 unfold gY
 rw[h.key]
 exact e
theorem vG(a b:Rat):(a+b)*(a+b)≤2*(a*a)+2*(b*b):=by
 have:=av (a-b)
 grind
theorem ye{A:List Nat}{k:Int}(h:bS A k){r c:Nat}(z:A.length=r*c)(H:r≤6)(I:c≤6){i j:Nat}(D:i<r)(F:j<c):
  ∃δ:Rat,ab δ≤p2 (-1075)∧((tr c c (bV r c A) A (dy r c A) i j:Int):Rat)*p2 (-2148)=p2 k*Bt c (cR c (d7 A (-k))) (cR c (gY r c A).W) (cR c (gY r c A).V) i ((ew r c A).getD j 0)+δ:=by
 have E:=h.end19 z H I
 have u:=(E.back D F).2
 rw[h.key]at u
 refine⟨_,u,?_⟩
 obtain⟨K,G,aa⟩:=pU 1074
 have J:((2:Int)^1074:Int)=((K:Nat):Int):=vz G
 have L:(K:Rat)*p2 (-1074)=1:=by
  have e:=xX (-1074) 1074
  rw[G,show(-1074:Int)+((1074:Nat):Int)=0 by rfl,jk]at e
  exact e.symm
 have O:p2 k*p2 (-k)=1:=by rw[←aL,show k+-k=0 by omega];exact jk
 unfold tr
 rw[Rat.intCast_sub,Rat.intCast_mul,J,Rat.sub_eq_add_neg,Rat.add_mul,Rat.neg_mul,←Rat.sub_eq_add_neg,←j8]
 have Q:((fZ (aP c (bV r c A) i j):Int):Rat)*(((K:Nat):Int):Rat)*p2 (-2148)=fQ (aP c (bV r c A) i j):=by
  have U:(((K:Nat):Int):Rat)=(K:Rat):=rfl
  rw[U,←vA]
  unfold fQ
  rw[show((fZ (aP c (bV r c A) i j):Int):Rat)*(K:Rat)*(p2 (-1074)*p2 (-1074))=((fZ (aP c (bV r c A) i j):Int):Rat)*p2 (-1074)*((K:Rat)*p2 (-1074)) by grind,L,Rat.mul_one]
 rw[Q]
 have X:dt c (fun l=>fQ (aP c A i l)) (fun l=>fQ (aP c (dy r c A) l j))=p2 k*dt c (cR c (d7 A (-k)) i) (fun l=>cR c (gY r c A).V l ((ew r c A).getD j 0)):=by
  rw[←jD]
  refine dg (fun l d=>?_) (fun l d=>?_)
  ·have u:i*c+l<A.length:=by rw[z];exact dh D d
   have Y:aP c (d7 A (-k)) i l=xV (aP c A i l) (-k):=by
    unfold aP d7
    rw[List.getD_eq_getElem?_getD,List.getElem?_map,List.getElem?_range u]
    rfl
   have Z:aP c A i l∈A:=by
    unfold aP
    rw[List.getD_eq_getElem?_getD,List.getElem?_eq_getElem u]
    exact List.getElem_mem u
   show fQ (aP c A i l)=p2 k*fQ (aP c (d7 A (-k)) i l)
   rw[Y,(h.one Z).2.1,show p2 k*(fQ (aP c A i l)*p2 (-k))=fQ (aP c A i l)*(p2 k*p2 (-k)) by grind,O,Rat.mul_one]
  ·rw[Js r c A d F];rfl
 rw[X]
 show _=p2 k*(fQ (aP c (gY r c A).W i ((ew r c A).getD j 0))-dt c (cR c (d7 A (-k)) i) (fun l=>cR c (gY r c A).V l ((ew r c A).getD j 0)))+_
 grind
theorem Br{A:List Nat}{k:Int}(h:bS A k){r c:Nat}(K:A.length=r*c)(F:r≤6)(L:c≤6){β:Rat}(G:p7 r c (Bt c (cR c (d7 A (-k))) (cR c (gY r c A).W) (cR c (gY r c A).V)) β){j:Nat}(H:j<c):
  sm r (fun i=>((tr c c (bV r c A) A (dy r c A) i j*tr c c (bV r c A) A (dy r c A) i j:Int):Rat)*p2 (-4296))≤2*(p2 k*p2 k*(β*β))+12*(p2 (-1075)*p2 (-1075)):=by
 have Q:p2 (-2148)*p2 (-2148)=p2 (-4296):=by rw[←aL];rfl
 obtain⟨R,I⟩:∃R,Bt c (cR c (d7 A (-k))) (cR c (gY r c A).W) (cR c (gY r c A).V)=R:=⟨_,rfl⟩
 have D:∀i,i<r→((tr c c (bV r c A) A (dy r c A) i j*tr c c (bV r c A) A (dy r c A) i j:Int):Rat)*p2 (-4296)≤2*(p2 k*p2 k*(R i ((ew r c A).getD j 0)*R i ((ew r c A).getD j 0)))+2*(p2 (-1075)*p2 (-1075)):=fun i O=>by
  obtain⟨δ,d1,J⟩:=ye h K F L O H
  rw[I]at J
  have U:=Fu d1
  rw[Rat.intCast_mul,←Q]
  generalize ((tr c c (bV r c A) A (dy r c A) i j:Int):Rat)=z at*
  generalize p2 (-2148)=u at*
  rw[show z*z*(u*u)=z*u*(z*u) by grind,J]
  generalize R i ((ew r c A).getD j 0)=ρ at*
  have t:=vG (p2 k*ρ) δ
  rw[show p2 k*ρ*(p2 k*ρ)=p2 k*p2 k*(ρ*ρ) by grind]at t
  have s:=Rat.mul_le_mul_of_nonneg_left U (show(0:Rat)≤2 by grind)
  exact Rat.le_trans t (Rat.add_le_add_left.2 s)
 refine Rat.le_trans (Ds D) ?_
 rw[Dr,rW,rW]
 rw[I]at G
 have X:=(II (ml r c A H) R G).2
 have P:=aA k
 have Y:=Rat.mul_le_mul_of_nonneg_left (Rat.mul_le_mul_of_nonneg_left X (Rat.le_of_lt (Rat.mul_pos P P))) (show(0:Rat)≤2 by grind)
 have d:=aA (-1075)
 have n0:=Rat.mul_nonneg (Rat.le_of_lt d) (Rat.le_of_lt d)
 have Z:sm r (fun _=>2*(p2 (-1075)*p2 (-1075)))≤12*(p2 (-1075)*p2 (-1075)):=by
  have:=sZ F (b:=2*(p2 (-1075)*p2 (-1075))) (f:=fun _=>2*(p2 (-1075)*p2 (-1075))) (by grind) (fun _ _=>Rat.le_refl)
  grind
 exact Rat.le_trans (Rat.add_le_add_right.2 Y) (Rat.add_le_add_left.2 Z)
theorem tc{u e f s F2 d:Rat}(z:d=262440000/81129638414606681695789005144064*F2)(hF:F2≤4*s)(A:1≤s)(h:0≤u)(F:e≤f*u)(D:1208925819614629174706176*f≤1):
  1180591620717411303424*(6*(2*(u*d)+12*e))≤u*s:=by
 have a:=Rat.mul_le_mul_of_nonneg_left hF h
 have b:=Rat.mul_le_mul_of_nonneg_left A h
 have c:=Rat.mul_le_mul_of_nonneg_right D h
 subst z
 rw[show u*(262440000/81129638414606681695789005144064*F2)=262440000/81129638414606681695789005144064*(u*F2) by grind]
 rw[show 1208925819614629174706176*f*u=1208925819614629174706176*(f*u) by grind]at c
 rw[show u*(4*s)=4*(u*s) by grind]at a
 generalize u*F2=G at*
 generalize u*s=H at*
 generalize f*u=I at*
 grind
theorem td{A:List Nat}{r c:Nat}(D:A.length=r*c)(G:r≤6)(u:c≤6)(hA:(∃k,bS A k)∨∀x∈A,fK x=0∧x<18446744073709551616):
  Ho r c c (bV r c A) A (dy r c A)*2^70≤tq A*2^2148:=by
 obtain⟨K,Z,ah⟩:=pU 2148
 have eP:((2:Int)^2148:Int)=((K:Nat):Int):=vz Z
 have I:((2:Int)^70:Int)=((1180591620717411303424:Nat):Int):=by decide
 rw[eP,I]
 rcases hA with⟨k,h⟩|h
 ·have eK:(K:Rat)*p2 (-2148)=1:=by
   have e:=xX (-2148) 2148
   rw[Z,show(-2148:Int)+((2148:Nat):Int)=0 by rfl,jk]at e
   exact e.symm
  have O:p2 (-2148)*p2 (-2148)=p2 (-4296):=by rw[←aL];rfl
  have ae:A.length≤36:=by rw[D];exact Nat.mul_le_mul G u
  obtain⟨s1,_,_,_⟩:=h.low (by omega)
  obtain⟨F,f1,f2,f3⟩:=h.endR D G u
  refine mn (aA (-4296)) ?_
  have en:((1180591620717411303424:Nat):Rat)=1180591620717411303424:=rfl
  rw[en,Rat.intCast_mul]
  have ec:(((K:Nat):Int):Rat)=(K:Rat):=rfl
  rw[ec,←O,show((tq A:Int):Rat)*(K:Rat)*(p2 (-2148)*p2 (-2148))=((tq A:Int):Rat)*p2 (-2148)*((K:Rat)*p2 (-2148)) by grind,eK,Rat.mul_one,←pW,O]
  have P:=aA k
  have KK:=Rat.mul_pos P P
  have d:=aA (-1075)
  have n0:=Rat.mul_nonneg (Rat.le_of_lt d) (Rat.le_of_lt d)
  have sw:((Ho r c c (bV r c A) A (dy r c A):Int):Rat)*p2 (-4296)≤6*(2*(p2 k*p2 k*(16200/9007199254740992*F*(16200/9007199254740992*F)))+12*(p2 (-1075)*p2 (-1075))):=by
   unfold Ho
   rw[Eb,jI,←mj]
   refine sZ u ?_ (fun j H=>?_)
   ·have:=Rat.mul_nonneg (Rat.le_of_lt KK) (av (16200/9007199254740992*F))
    generalize p2 k*p2 k*(16200/9007199254740992*F*(16200/9007199254740992*F))=v1 at*
    grind
   ·rw[jI,←mj]
    exact Br h D G u f3 H
  refine Rat.le_trans (Rat.mul_le_mul_of_nonneg_left sw (show(0:Rat)≤1180591620717411303424 by grind)) ?_
  have kS:p2 k*p2 k*bj (d7 A (-k))=bj A:=by
   rw[h.sumS]
   have e:p2 k*p2 (-k)=1:=by rw[←aL,show k+-k=0 by omega];exact jk
   rw[show p2 k*p2 k*(bj A*(p2 (-k)*p2 (-k)))=bj A*((p2 k*p2 (-k))*(p2 k*p2 (-k))) by grind,e]
   grind
  rw[←kS]
  have Q:=aK (show-1075≤-80+k by have:=h.up;omega)
  have U:=Rat.mul_le_mul_of_nonneg_left Q (Rat.le_of_lt d)
  have m3:=Rat.mul_le_mul_of_nonneg_right Q (Rat.le_of_lt (aA (-80+k)))
  have m4:=Rat.le_trans U (by rw[Rat.mul_comm];exact Rat.le_refl (a:=p2 (-80+k)*p2 (-1075)))
  have X:p2 (-1075)*p2 (-1075)≤p2 (-80+k)*p2 (-80+k):=Rat.le_trans U m3
  rw[show p2 (-80+k)*p2 (-80+k)=(p2 (-80)*p2 (-80))*(p2 k*p2 k) by rw[aL];grind]at X
  refine tc (f:=p2 (-80)*p2 (-80)) (F2:=F*F) (by grind) f2 s1 (Rat.le_of_lt KK) X ?_
  have J:=yc
  have L:p2 (-80)≤1:=by
   have:=aK (show(-80:Int)≤0 by decide)
   rw[jk]at this;exact this
  have q:=aA (-80)
  rw[show 1208925819614629174706176*(p2 (-80)*p2 (-80))=p2 (-80)*(p2 (-80)*1208925819614629174706176) by grind,J,Rat.mul_one]
  exact L
 ·have Y:∀i l,fZ (aP c A i l)=0:=fun i l=>by
   refine mo ?_
   unfold aP
   rw[List.getD_eq_getElem?_getD]
   cases e:A[i*c+l]? with
   |none=>decide
   |some v=>exact(h v (List.mem_of_getElem? e)).1
  have e:Ho r c c (bV r c A) A (dy r c A)=0:=by
   unfold Ho
   rw[gc (g:=fun _=>0) r (fun i hi=>?_),gA]
   rw[gc (g:=fun _=>0) c (fun j H=>?_),gA]
   have z:tr c c (bV r c A) A (dy r c A) i j=0:=by
    unfold tr nI
    rw[gc (g:=fun _=>0) c (fun l aa=>by rw[Y,Int.zero_mul]),gA,vD r c A hi H,jK (fun x hx=>(h x hx).1)]
    have z0:fK (aP c A i ((ew r c A).getD j 0))=0:=by
     unfold aP
     rw[List.getD_eq_getElem?_getD (l:=A)]
     cases e:A[i*c+(ew r c A).getD j 0]? with
     |none=>decide
     |some v=>exact(h v (List.mem_of_getElem? e)).1
    show fZ (xV (aP c A i ((ew r c A).getD j 0)) (tC A))*_-0=0
    rw[gK _ _ z0,Y,Int.zero_mul]
    rfl
   rw[z]
   rfl
  rw[e,Int.zero_mul]
  have s0:0≤tq A:=by unfold tq;exact pz _ (fun i _=>kK _)
  exact Int.mul_nonneg s0 (Int.natCast_nonneg K)
theorem rp{w:World}{v u:Value}{z1 z2:Int}{lo:Int}{W t k2:Nat}(k:Int)(hk:0≤k∧k≤200)(Y:2*k=(k2:Nat))(I:aY w v lo z1)(J:aY w u lo z2)(K:z1.natAbs<2^W)(L:z2.natAbs<2^W)
  (Z:-10000≤lo∧lo≤0) (hW:W+k2+2≤16384) (ht:lo-(k2:Int)+(t:Int)= -4000) (aa:t≤W) (ae:z1*2^k2≤z2):
  Calls Tryz.prog 20 #[v,u,.int .i64 k] w fun e z=>e=.returned (.bool true)∧Below w.heap.size w z:=by
 have rt:-16384≤lo-(k2:Int):=by omega
 have L1:fv lo W z1:=⟨K,by omega,by omega,by omega⟩
 have O:fv lo W z2:=⟨L,by omega,by omega,by omega⟩
 have hP:((2:Int)^t).natAbs<2^(t+1):=by
  rw[Int.natAbs_pow]
  exact Nat.pow_lt_pow_right (by decide) (by omega)
 have ah:(0:Int)≤2^t:=Int.pow_nonneg (by decide)
 have Q:z2.natAbs<2^(W+1):=vB (V:=W+1) (m:=W) (by omega) L
 have U:((2:Int)^t).natAbs<2^(W+1):=vB (V:=W+1) (m:=t+1) (by omega) hP
 have L3:fv (lo-(k2:Int)) (W+k2+2) z2:=⟨vB (V:=W+k2+2) (m:=W+1) (by omega) Q,by omega,by omega,by omega⟩
 have L4:fv (lo-(k2:Int)) (W+k2+2) (2^t):=⟨vB (V:=W+k2+2) (m:=W+1) (by omega) U,by omega,by omega,by omega⟩
 have L5:fv (lo-(k2:Int)) (W+k2+2) (z2+2^t):=⟨MS (V:=W+k2+2) (m:=W+1) (by omega) Q U,by omega,by omega,by omega⟩
 have L6:fv (lo-(k2:Int)) (W+k2+2) (z1*2^k2):=⟨LB (V:=W+k2+2) (m:=W) (by omega) K,by omega,by omega,by omega⟩
 have hc:decide (bD (z1*2^k2) (z2+2^t)≤0)=true:=decide_eq_true (Jr (by omega))
 obtain⟨na,ao,ca,A,rfl,a1,a2,a3,a4,a5⟩:=aC.right I L1.right.2
 obtain⟨nb,bo,cb,B,rfl,b1,am,b3,b4,b5⟩:=aC.right J O.right.2
 have:=xA na nb ao bo A.length B.length ca cb (oE z1 lo) (oE z2 lo) k (oM z2) (oE z2 (lo-(k2:Int))) (oM (2^t)) (oE (2^t) (lo-(k2:Int))) (oM (z2+2^t)) (oE (z2+2^t) (lo-(k2:Int))) (bD (z1*2^k2) (z2+2^t)) w (by omega)
  (fun z D=>by
   have h:=yO (-(2*k)) (J.below D) O (by omega)
   rw[show lo+-(2*k)=lo-(k2:Int) by omega]at h
   exact h)
  (fun z v d=>by
   refine(f8 (-4000) (d.toM AP) (by decide) (by decide)).mono ?_
   rintro e G ⟨q,k1,H,k3⟩
   refine⟨q,k1,?_,k3⟩
   have h4:aY G q (-4000) 1:=H
   have X:=h4.lower t
   rw[show(-4000:Int)-((t:Nat):Int)=lo-(k2:Int) by omega,Int.one_mul]at X
   exact X)
  (fun z v u d F=>MB (W:=W+k2+2) d F L3 L4)
  (fun z v D d=>by
   have h7:=(show aY z _ _ z1 from aY.below I D).lower k2
   exact Cw h7 d L6 L5)
 rw[hc]at this
 exact this
theorem zD{a b:Int}(h:p2 a<p2 b):a<b:=by
 rcases Int.lt_or_le a b with g|g
 ·exact g
 ·have:=aK g
  grind
theorem IK{y:Nat}(A:y<18446744073709551616)(d:ai y=true)(u:fK y≠0):eX (fR y)=eX y:=by
 have e:fR (fR y)=fR y:=by unfold fR;omega
 have z:fP (fR y)=fP y:=by unfold fP fR;omega
 have D:fF (fR y)=fF y:=by unfold fF fR;omega
 have k:fK (fR y)=fK y:=by
  unfold fK
  rw[z,D]
 have f:ai (fR y)=true:=by
  unfold ai at d⊢
  rw[z]
  exact d
 have h:ab (fQ (fR y))=ab (fQ y):=by rw[fL,fL,e]
 obtain⟨F,G⟩:=gb (fR y) (by unfold fR;omega) f (by rw[k];exact u)
 obtain⟨J,K⟩:=gb y A d u
 rw[h]at F G
 have H:=zD (show p2 (eX (fR y))<p2 (eX y+1) by grind)
 have I:=zD (show p2 (eX y)<p2 (eX (fR y)+1) by grind)
 omega
theorem mp{S:List Nat}(h:∀x∈S,ai x=true):gC S=true:=Bb h
theorem Jt(r c N d wc u:Nat)(H z A:Option Addr)(W V:List Nat)(w:World)(D:Mx w z wc r c W)(F:Mx w A u c c V)(I:gC W=true)(fV:gC V=true):
  Calls Tryz.prog 24 #[.agg #[.int .i64 (r:Nat),.int .i64 (c:Nat),.slice H N d],.agg #[.int .i64 (r:Nat),.int .i64 (c:Nat),.slice z W.length wc],.agg #[.int .i64 (c:Nat),.int .i64 (c:Nat),.slice A V.length u]] w fun e h=>e=.returned (.bool true)∧Below w.heap.size w h:=by
 refine Bc r c N d W.length wc V.length u H z A w (fun h G=>?_) (fun h G=>?_)
 ·have:=lX (r:Int) (c:Int) z wc (bH W) h (D.1.below G) (by rw[aG];have:=D.small;omega)
  rw[EY D I,aG]at this
  exact this
 ·have:=lX (c:Int) (c:Int) A u (bH V) h (F.1.below G) (by rw[aG];have:=F.small;omega)
  rw[EY F fV,aG]at this
  exact this
theorem pX{A:List Nat}(J:∀x∈A,x<18446744073709551616∧tm 100 x=true):(∃k,bS A k)∨∀x∈A,fK x=0∧x<18446744073709551616:=by
 have T:∀x∈A,x<18446744073709551616∧ai x=true∧(fK x=0∨(-100≤eX x∧eX x<100)):=fun x d=>by
  obtain⟨L,F⟩:=J x d
  unfold tm at F
  rw[Bool.and_eq_true,Bool.or_eq_true,decide_eq_true_eq,decide_eq_true_eq]at F
  exact⟨L,F.1,F.2⟩
 have Q:=jg A (fun x d=>⟨(T x d).1,(T x d).2.1⟩)
 by_cases D:bF 0 A=0
 ·refine .inr (fun x d=>⟨?_,(T x d).1⟩)
  have u:∀x∈A,ai x=true:=fun x d=>(T x d).2.1
  obtain⟨_,_,I,_⟩:=jZ A 0 (by decide) u
  have:=I x d
  rw[D]at this
  exact(cs x).2 (Nat.le_zero.1 this)
 ·have u:∀x∈A,ai x=true:=fun x d=>(T x d).2.1
  obtain⟨U,_,I,O⟩:=jZ A 0 (by decide) u
  obtain⟨y,G,e⟩:=O.resolve_left D
  have H:fK y≠0:=fun h=>D (by rw[←e];exact(cs y).1 h)
  have K:eX (bF 0 A)=eX y:=by rw[←e];exact IK (T y G).1 (T y G).2.1 H
  obtain⟨_,_,z⟩:=T y G
  have z2:=z.resolve_left H
  exact .inl ⟨eX (bF 0 A),fun x d=>⟨(T x d).1,(T x d).2.1,(T x d).2.2.elim .inl (fun q=>.inr q.1)⟩,D,rfl,by rw[K];exact z2⟩
theorem pY{I:List Int}{n m:Nat}{F:Option Addr}{z:Nat}{w:World}(G:Mx w F z n m (di I))(H:bH (di I)=I)(h:tn 100 I I.length=true):∀x∈di I,x<18446744073709551616∧tm 100 x=true:=by
 intro x J
 obtain⟨i,u,rfl⟩:=List.getElem_of_mem J
 have A:i<I.length:=by rw[gU]at u;exact u
 have D:=DV 100 I I.length i A h
 have d:=G.1.lt i
 rw[ev,List.getD_eq_getElem?_getD,List.getElem?_eq_getElem u]at d
 rw[←H,ev,List.getD_eq_getElem?_getD,List.getElem?_eq_getElem u]at D
 exact⟨d,D⟩
theorem rq{r c u:Nat}{I:Option Addr}{A:List Nat}{w:World}(J:Mx w I u r c A)(fA:gC A=true)(E:jJ r c A)(U:cr w):
  ∀z,Below w.heap.size w z→Calls Tryz.prog 23 #[.agg #[.int .i64 (r:Nat),.int .i64 (c:Nat),.slice I A.length u]] z fun e d=>
   (((gY r c A).still=false∧e=.returned (.tuple #[.agg #[.int .i64 0,.int .i64 0,.slice none 0 0],.agg #[.int .i64 0,.int .i64 0,.slice none 0 0],.slice none 0 0,.int .i64 6]))∨
    ((gY r c A).still=true∧∃D wc F G X Y Z,e=.returned (.tuple #[.agg #[.int .i64 (r:Nat),.int .i64 (c:Nat),.slice D (bV r c A).length wc],.agg #[.int .i64 (c:Nat),.int .i64 (c:Nat),.slice F (dy r c A).length G],.slice X Y Z,.int .i64 0])∧ak d D wc (bH (bV r c A))∧ak d F G (bH (dy r c A))))∧Below z.heap.size z d:=by
 intro z Q
 have h:=qw r c I u (bH A) z (J.1.below Q) (by rw[aG];have:=J.small;omega) (U.all Q)
 rw[aG]at h
 refine h.mono ?_
 have nl:di (bH A)=A:=uT A
 rintro e d ⟨⟨hn,_⟩|⟨_,K⟩,L⟩
 ·exact absurd (EY J fA) hn
 ·refine⟨?_,L⟩
  unfold ES at K
  rw[nl,Int.toNat_natCast,Int.toNat_natCast]at K
  have ff:qv r c A=true:=by unfold qv;rw[E.finW,E.finV];rfl
  rcases K with⟨O,H⟩|⟨_,H,_⟩|⟨O,_,v1,v2,g,h3,⟨D,wc,rfl,_,h4⟩,⟨F,G,rfl,_,h5⟩,_,_⟩
  ·exact .inl ⟨O,H⟩
  ·rw[ff]at H;cases H
  ·exact .inr ⟨O,D,wc,F,G,_,_,_,h3,h4,h5⟩
theorem FA(r c:Int)(G:Option Addr)(d:Nat)(I:List Int)(w:World)(hI:ak w G d I)(hl:I.length≤17592186043904)(_hr:-9223372036854775808≤r∧r≤9223372036854775807)(_hc:-9223372036854775808≤c∧c≤9223372036854775807)(hT:cr w):
  Calls Tryz.prog 4 #[.agg #[.int .i64 r,.int .i64 c,.slice G I.length d]] w fun e z=>e=.returned (.bool true)∧Below w.heap.size w z:=by
 have O:=fun z (D:Below w.heap.size w z)=>nz r c G d I 100 z (hI.below D) (by omega) (by decide)
 have CA:=fun z (D:Below w.heap.size w z)=>nD z (hT.all D)
 cases h1:(kl r c I.length&&tn 100 I I.length)
 ·rw[h1]at O
  exact sH r c I.length d G w O CA
 rw[h1]at O
 rw[Bool.and_eq_true]at h1
 obtain⟨n,m,rfl,rfl,F,hS⟩:=Mx.of hI h1.1
 have Z:(di I).length=I.length:=gU I
 have Q:=F.2.2.1;have H:=F.2.2.2
 have hm:=pY F hS h1.2
 have J:=pX hm
 obtain⟨A,hA⟩:∃A,di I=A:=⟨_,rfl⟩
 rw[hA]at F Z J hm
 have fm:∀x∈A,ai x=true:=fun x hx=>by
  have:=(hm x hx).2
  unfold tm at this
  rw[Bool.and_eq_true]at this
  exact this.1
 have fA:gC A=true:=mp fm
 have E:jJ n m A:=J.elim (fun⟨_,h⟩=>h.end19 F.2.1 Q H) (fun h=>kn h n m)
 have U:=rq F fA E hT
 rw[Z]at U
 cases st:(gY n m A).still
 ·refine sI n m I.length d G w O (fun z D=>(U z D).mono ?_) CA
  rintro e ae ⟨⟨_,h⟩|⟨h,_⟩,K⟩
  ·exact⟨h,K⟩
  ·rw[st]at h;cases h
 have fW:=E.finW;have fV:=E.finV
 have X:=gM fA;have sW:=gM fW;have sV:=gM fV
 have lW:=xZ n m A;have lV:=xY n m A
 have Y:=td F.2.1 Q H J
 have bR:(Ho n m m (bV n m A) A (dy n m A)).natAbs<2^8420:=by
  unfold Ho
  exact vB (V:=8420) (m:=8406) (by decide) (lT (W:=8403) (V:=8406) (by decide) n (by omega) (fun i _=>lT (W:=8400) (V:=8403) (by decide) m (by omega) (fun k _=>zt (m:=4200) (n:=4200) (V:=8400) (by decide) (xw m m _ _ _ i k (by omega) sW X sV) (xw m m _ _ _ i k (by omega) sW X sV))))
 have bA:=vC F.2.1 Q H X
 obtain⟨t,ht⟩:∃t:Nat,t=2148:=⟨_,rfl⟩
 rw[←ht]at Y
 have aa:(tq A*2^t).natAbs<2^8420:=LB (V:=8420) (m:=4202) (k:=t) (by rw[ht];decide) bA
 refine vk n m I.length d (bV n m A).length (dy n m A).length G (bH (bV n m A)) (bH (dy n m A)) (-4296) (-2148) (Ho n m m (bV n m A) A (dy n m A)) (tq A) w O (fun z D=>(U z D).mono ?_) (fun z wo wc vo vc D hw L=>?_) (fun z wo wc vo vc D hw L=>?_) (fun z D=>?_) (fun z v u L hu=>?_) CA
 ·rintro e ae ⟨⟨h,_⟩|⟨_,h⟩,K⟩
  ·rw[st]at h;cases h
  ·exact⟨h,K⟩
 ·exact Jt n m I.length d wc vc G wo vo (bV n m A) (dy n m A) z ⟨hw,lW,Q,H⟩ ⟨L,lV,H,H⟩ fW fV
 ·have:=Ex n m m wc d vc wo G vo (bV n m A) A (dy n m A) z ⟨hw,lW,Q,H⟩ (F.below D) ⟨L,lV,H,H⟩ sW X sV
  rw[Z]at this
  exact this
 ·have:=km n m d G A z (F.below D) X
  rw[Z]at this
  exact this
 ·have h5:=hu.lower t
  rw[show(-2148:Int)-((t:Nat):Int)= -4296 by omega]at h5
  exact rp (W:=8420) (t:=366) (k2:=70) 35 (by decide) (by decide) L h5 bR aa (by decide) (by decide) (by decide) (by decide) Y
theorem qz(r c:Int)(L:Option Addr)(D:Nat)(I:List Int)(w:World)(hI:ak w L D I)(hl:I.length≤17592186043904)(_hr:-9223372036854775808≤r∧r≤9223372036854775807)(_hc:-9223372036854775808≤c∧c≤9223372036854775807)(hT:cr w):
  Calls Tryz.prog 6 #[.agg #[.int .i64 r,.int .i64 c,.slice L I.length D]] w fun e z=>e=.returned (.bool true)∧Below w.heap.size w z:=by
 have C1:=fun z (G:Below w.heap.size w z)=>nz r c L D I 100 z (hI.below G) (by omega) (by decide)
 have CA:=fun z (G:Below w.heap.size w z)=>nD z (hT.all G)
 cases h1:(kl r c I.length&&tn 100 I I.length)
 ·rw[h1]at C1
  exact sJ r c I.length D L w C1 CA
 rw[h1]at C1
 rw[Bool.and_eq_true]at h1
 obtain⟨n,m,rfl,rfl,K,hS⟩:=Mx.of hI h1.1
 have lI:(di I).length=I.length:=gU I
 have r6:=K.2.2.1;have Q:=K.2.2.2
 have hm:=pY K hS h1.2
 have Y:=pX hm
 obtain⟨A,hA⟩:∃A,di I=A:=⟨_,rfl⟩
 rw[hA]at K lI Y hm
 have fm:∀x∈A,ai x=true:=fun x hx=>by
  have:=(hm x hx).2
  unfold tm at this
  rw[Bool.and_eq_true]at this
  exact this.1
 have fA:gC A=true:=mp fm
 have E:jJ n m A:=Y.elim (fun⟨_,h⟩=>h.end19 K.2.1 r6 Q) (fun h=>kn h n m)
 have U:=rq K fA E hT
 rw[lI]at U
 cases st:(gY n m A).still
 ·refine sK n m I.length D L w C1 (fun z G=>(U z G).mono ?_) CA
  rintro e ah ⟨⟨_,h⟩|⟨h,_⟩,Z⟩
  ·exact⟨h,Z⟩
  ·rw[st]at h;cases h
 have fW:=E.finW;have fV:=E.finV
 have sA:=gM fA;have sW:=gM fW;have sV:=gM fV
 have lW:=xZ n m A;have lV:=xY n m A
 have bA:=vC K.2.1 r6 Q sA
 have J:∀p q,(nI n (jn n m A p) (jn n m A q)).natAbs<2^4199:=fun p q=>xu n (by omega) _ _ (fun j _=>dZ m _ j p sW) (fun j _=>dZ m _ j q sW)
 obtain⟨t,ht⟩:∃t:Nat,t=80:=⟨_,rfl⟩
 have am:((2:Int)^t:Int)=1208925819614629174706176:=by rw[ht];decide
 have an:((2:Int)^76:Int)=75557863725914323419136:=by decide
 refine vl n m I.length D (bV n m A).length (dy n m A).length L (bH (bV n m A)) (bH (dy n m A)) (fun k=>bH (yT n m (bV n m A) k)) (-2148) (-2228) (-4296) (tq A)
  (fun p q=>nI n (jn n m A p) (jn n m A q)) (fun p=>nI n (jn n m A p) (jn n m A p)) (fun p=>bD (nI n (jn n m A p) (jn n m A p)*2^t) (tq A)) w Q C1 (fun z G=>(U z G).mono ?_) (fun z wo wc vo vc G hw F=>?_) (fun z G=>?_) (fun z v F=>?_) (fun z wo wc k G hw O=>?_) (fun z p q xo xd yo yd hp H hx hy=>?_) (fun z p xo xd hp hx=>?_) (fun z v u p hp F hu=>?_) (fun z v p q hp H F=>?_) (fun z v u p q hp H F hu=>?_) (fun z v u p q aa H o1 o2 F hu=>?_) CA
 ·rintro e ah ⟨⟨h,_⟩|⟨_,h⟩,Z⟩
  ·rw[st]at h;cases h
  ·exact⟨h,Z⟩
 ·exact Jt n m I.length D wc vc L wo vo (bV n m A) (dy n m A) z ⟨hw,lW,r6,Q⟩ ⟨F,lV,Q,Q⟩ fW fV
 ·have:=km n m D L A z (K.below G) sA
  rw[lI]at this
  exact this
 ·exact yO (-80) F (W:=4202) ⟨bA,by decide,by decide,by decide⟩ (by decide)
 ·refine(uV n m wc k wo (bV n m A) z ⟨hw,lW,r6,Q⟩ O).mono ?_
  rintro e ah ⟨bo,d,h1,h2,h3⟩
  exact⟨⟨bo,d,h1,h2⟩,h3⟩
 ·exact yU xo yo xd yd n (bH (yT n m (bV n m A) p)) (bH (yT n m (bV n m A) q)) (jn n m A p) (jn n m A q) z hx hy (by rw[aG,oo]) (by rw[aG,oo]) (by omega) (fun k O=>oq n m _ p O) (fun k O=>oq n m _ q O) (fun k=>dZ m _ k p sW) (fun k=>dZ m _ k q sW)
 ·have ln:(bH (yT n m (bV n m A) p)).length=n:=by rw[aG,oo]
  have H:=kj xo xd (bH (yT n m (bV n m A) p)) z hx (by rw[ln];omega) ((j5 _).2 fun k O=>by rw[ln]at O;rw[oq n m _ p O];exact dZ m _ k p sW)
  rw[ln,xB]at H
  have e:cY (fun j=>fZ ((yT n m (bV n m A) p).getD j 0)*fZ ((yT n m (bV n m A) p).getD j 0)) n=nI n (jn n m A p) (jn n m A p):=gc n (fun j hj=>by rw[MQ n m _ p j hj];rfl)
  rw[e]at H
  exact H
 ·have h5:=F.lower t
  rw[show(-2148:Int)-((t:Nat):Int)= -2228 by omega]at h5
  exact Cw h5 hu (W:=4300) ⟨LB (V:=4300) (m:=4199) (k:=t) (by omega) (J p p),by decide,by decide,by decide⟩ ⟨vB (V:=4300) (m:=4202) (by decide) bA,by decide,by decide,by decide⟩
 ·have:=D9 (W1:=4199) (W2:=4199) F F ⟨J p q,by decide,by decide,by decide⟩ ⟨J p q,by decide,by decide,by decide⟩ (by decide)
  rw[show(-2148:Int)+-2148= -4296 by decide]at this
  exact this
 ·have:=D9 (W1:=4199) (W2:=4199) F hu ⟨J p p,by decide,by decide,by decide⟩ ⟨J q q,by decide,by decide,by decide⟩ (by decide)
  rw[show(-2148:Int)+-2148= -4296 by decide]at this
  exact this
 ·have ar:=Bp K.2.1 r6 Q Y st (Nat.lt_trans aa H) H (Nat.ne_of_lt aa)
  have ae:∀{x y:Int},0<bD x y→¬x≤y:=fun{x y} h h2=>by have:=Jr h2;omega
  rw[am]at o1 o2
  have X:=(ar.resolve_left (ae o1)).resolve_left (ae o2)
  rw[←an]at X
  exact rp (W:=8420) (t:=372) (k2:=76) 38 (by decide) (by decide) F hu (vB (V:=8420) (m:=8398) (by decide) (zt (m:=4199) (n:=4199) (V:=8398) (by decide) (J p q) (J p q))) (vB (V:=8420) (m:=8398) (by decide) (zt (m:=4199) (n:=4199) (V:=8398) (by decide) (J p p) (J q q))) (by decide) (by decide) (by decide) (by decide) X
end Go.Proofs.YtcbcmlaogehimaaGreatDoor
namespace Go.Proofs.YtcbcmlaogehimaaGreatDoor
open Go.ChangeShapes Go.WideShapes Go.ChangeAt Go.RowKit Go.Joins
theorem Tryz.own:ownKnob Tryz.prog.godebug=none:=by kernel_rfl
theorem Tryz.laidOut:laidOutB Tryz.prog=true:=by kernel_rfl
end Go.Proofs.YtcbcmlaogehimaaGreatDoor
