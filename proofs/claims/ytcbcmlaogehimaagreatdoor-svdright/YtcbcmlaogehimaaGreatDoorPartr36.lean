/- Part 36 of the texts. -/
import Derived.Test.YtcbcmlaogehimaaGreatDoorPartr35
namespace Go.Proofs.YtcbcmlaogehimaaGreatDoor
open Go.RowKit
theorem wI(e:Int)(k:Nat):p2 (e+k)=((2^k:Nat):Rat)*p2 e:=by rw[aT,bu,Rat.mul_comm]
theorem pf(n:Nat):∃K:Nat,2^n=K∧0<K:=⟨2^n,rfl,Nat.pow_pos (by decide)⟩
theorem jt(f:Nat→Int):∀n,((cU f n:Int):Rat)=sm n (fun i=>((f i:Int):Rat))
 |0=>rfl
 |n+1=>by
  show((cU f n+f n:Int):Rat)=sm n _+_
  rw[Rat.intCast_add,jt f n]
theorem lr(n:Nat)(c:Rat)(f:Nat→Rat):sm n (fun i=>f i*c)=sm n f*c:=by
 rw[Rat.mul_comm,←qZ]
 exact eQ (fun i _=>Rat.mul_comm _ _)
theorem uA{n K:Nat}(h:2^n=K):((2:Int)^n:Int)=((K:Nat):Int):=by
 have e:((2^n:Nat):Int)=((K:Nat):Int):=by rw[h]
 rw[Int.natCast_pow]at e
 exact e
theorem uB:p2 (-1074)*p2 (-1074)=p2 (-2148):=by rw[←aT];rfl
theorem Hz{x y:Int}{m n V:Nat}(h:m+n≤V)(d:x.natAbs<2^m)(u:y.natAbs<2^n):(x*y).natAbs<2^V:=by
 refine Nat.lt_of_lt_of_le ?_ (Nat.pow_le_pow_right (by decide) h)
 rw[Int.natAbs_mul,Nat.pow_add]
 exact Nat.mul_lt_mul'' d u
theorem Ly{x:Int}{m k V:Nat}(h:m+k≤V)(d:x.natAbs<2^m):(x*2^k).natAbs<2^V:=by
 refine Nat.lt_of_lt_of_le ?_ (Nat.pow_le_pow_right (by decide) h)
 rw[Int.natAbs_mul,Nat.pow_add]
 have e:((2:Int)^k).natAbs=2^k:=by rw[Int.natAbs_pow];rfl
 rw[e]
 exact Nat.mul_lt_mul_of_pos_right d (Nat.pow_pos (by decide))
theorem Lz{x y:Int}{m V:Nat}(h:m+1≤V)(d:x.natAbs<2^m)(u:y.natAbs<2^m):(x+y).natAbs<2^V:=by
 refine Nat.lt_of_lt_of_le ?_ (Nat.pow_le_pow_right (by decide) h)
 rw[Nat.pow_succ]
 omega
theorem Ec{x:Int}{m V:Nat}(h:m≤V)(d:x.natAbs<2^m):x.natAbs<2^V:=Nat.lt_of_lt_of_le d (Nat.pow_le_pow_right (by decide) h)
theorem LB{x y:Int}(h:x≤y):bt x y≤0:=by
 unfold bt
 repeat' split
 all_goals omega
theorem Ed{r c:Nat}{S:List Nat}(d:S.length=r*c)(h:r≤6)(u:c≤6)(fS:∀x∈S,aj x=true):(zp S).natAbs<2^4202:=by
 rw[tT r c S d]
 exact kZ (W:=4199) (V:=4202) (by decide) r (by omega) (fun i _=>kZ (W:=4196) (V:=4199) (by decide) c (by omega) (fun k _=>Hz (m:=2098) (n:=2098) (V:=4196) (by decide) (eO _ (gK c S i k fS)) (eO _ (gK c S i k fS))))
theorem pg{r c:Nat}{S:List Nat}(d:S.length=r*c)(h:∀i k,i<r→k<c→aj (aS c S i k)=true):gq S=true:=by
 rw[oS,d]
 intro x D
 obtain⟨u,z,A⟩:=kX D
 have:=h _ _ u z
 unfold aS at this
 rwa[A]at this
theorem my{S:List Nat}(h:gq S=true):∀x∈S,aj x=true:=by
 rw[oS]at h
 intro x u
 obtain⟨k,d,e⟩:=List.getElem_of_mem u
 have:=h k d
 rw[List.getD_eq_getElem?_getD,List.getElem?_eq_getElem d]at this
 rw[←e]
 exact this
theorem zQ(I:List Nat):∀i,(ev I i).Nodup
 |0=>List.nodup_nil
 |i+1=>by
  have h:=zQ I i
  have d:=li I i
  have u:ev I (i+1)=(ev I i).take (uj (DC I i) i)++i::(ev I i).drop (uj (DC I i) i):=rfl
  rw[u,List.perm_middle.nodup_iff,List.take_append_drop,List.nodup_cons]
  exact⟨fun e=>Nat.lt_irrefl _ (d i e),h⟩
theorem gN(r c:Nat)(A:List Nat):(ge r c A).length=c:=fH _ _
theorem rH(r c:Nat)(A:List Nat){j:Nat}(d:j<c):(ge r c A).getD j 0<c:=(DJ _ c d).2
theorem H6(r c:Nat)(A:List Nat){i j:Nat}(d:i<c)(u:j<c):aS c (dR r c A) i j=aS c (iF r c A).V i ((ge r c A).getD j 0):=by
 have h:=Du c c (iF r c A).V (ge r c A) d (q:=j) (by rw[gN];exact u)
 rw[gN]at h
 exact h
theorem H7(r c:Nat)(A:List Nat){i j:Nat}(d:i<r)(u:j<c):aS c (cN r c A) i j=xV (aS c (iF r c A).W i ((ge r c A).getD j 0)) (uq A):=by
 have h:=Du r c (iF r c A).W (ge r c A) d (q:=j) (by rw[gN];exact u)
 rw[gN]at h
 rw[←h]
 have z:i*c+j<(uc r c (iF r c A).W (ge r c A)).length:=by rw[iZ,gN];exact cZ d u
 unfold cN fw aS
 rw[List.getD_eq_getElem?_getD,List.getElem?_map,List.getElem?_range z]
 rfl
theorem Ee(r c:Nat)(A:List Nat):(dR r c A).length=c*c:=by unfold dR;rw[iZ,gN]
theorem Ef(r c:Nat)(A:List Nat):(cN r c A).length=r*c:=by unfold cN;rw[jK,iZ,gN]
structure jS (r c:Nat) (A:List Nat):Prop where
 up:-100≤uq A∧uq A<100
 w:cg r c (iF r c A).W 100
 v:cg c c (iF r c A).V 100
 iso:uU c c (cK c (iF r c A).V) (36000/9007199254740992)
theorem jS.finV{r c:Nat}{A:List Nat}(h:jS r c A):gq (dR r c A)=true:=
 pg (Ee r c A) (fun i k d u=>by rw[H6 r c A d u];exact h.v.fin _ _ d (rH r c A u))
theorem jS.back{r c:Nat}{A:List Nat}(h:jS r c A){i k:Nat}(d:i<r)(z:k<c):
  aj (aS c (cN r c A) i k)=true∧ab (fQ (aS c (cN r c A) i k)-fQ (aS c (iF r c A).W i ((ge r c A).getD k 0))*p2 (uq A))≤p2 (-1075):=by
 rw[H7 r c A d z]
 have u:=rH r c A z
 exact DY _ _ (h.w.lt _ _ d u) (h.w.fin _ _ d u) (h.w.small (Rat.le_refl) d u) h.up
theorem jS.finW{r c:Nat}{A:List Nat}(h:jS r c A):gq (cN r c A)=true:=
 pg (Ef r c A) (fun _ _ d u=>(h.back d u).1)
theorem bX.key{A:List Nat}{k:Int}(h:bX A k):uq A=k:=by
 unfold uq
 rw[DP]
 exact h.ek
theorem GX:(((15*60:Nat):Nat):Rat)*(1/1099511627776)≤1:=by
 have:(((15*60:Nat):Nat):Rat)=900:=rfl
 rw[this];grind
theorem Eg:(((15*60:Nat):Nat):Rat)*(40/9007199254740992)=36000/9007199254740992:=by
 have:(((15*60:Nat):Nat):Rat)=900:=rfl
 rw[this];grind
theorem bX.end19{A:List Nat}{k:Int}(h:bX A k){r c:Nat}(D:A.length=r*c)(F:r≤6)(G:c≤6):jS r c A:=by
 have e:=h.endI D F G 60 (Nat.le_refl _)
 have u:=h.key
 have z:=GX
 obtain⟨⟨H,I⟩,d⟩:=e
 unfold D4 at d
 rw[Eg]at d
 refine⟨by rw[u];exact h.up,?_,?_,?_⟩<;>unfold iF<;>rw[u]
 ·exact H.mono (by grind)
 ·exact I.mono (by grind)
 ·exact d
theorem yb{r c low p:Nat}{s:Sd}(h:∀q,ug r c low s.W p q=true):∀t,mT r c low p s t=s
 |0=>rfl
 |t+1=>by
  show qq r c low p (p+1+t) (mT r c low p s t)=s
  rw[yb h t]
  unfold qq
  rw[if_pos (h _)]
theorem yc{r c low:Nat}{s:Sd}(h:∀p q,ug r c low s.W p q=true):∀n,oU r c low s n=s
 |0=>rfl
 |n+1=>by
  show mT r c low n (oU r c low s n) (c-1-n)=s
  rw[yc h n]
  exact yb (h n) _
theorem ye{r c low:Nat}{S V:List Nat}(h:∀p q,ug r c low S p q=true):∀n,gy r c low ⟨S,V,false⟩ (n+1)=⟨S,V,true⟩
 |0=>by
  show(if(⟨S,V,false⟩:Sd).still=true then(⟨S,V,false⟩:Sd)else zW r c low ⟨S,V,false⟩)=_
  rw[if_neg (show¬((⟨S,V,false⟩:Sd).still=true)from Bool.false_ne_true)]
  unfold zW
  exact yc (s:=⟨S,V,true⟩) h c
 |n+1=>by
  show(if(gy r c low ⟨S,V,false⟩ (n+1)).still=true then gy r c low ⟨S,V,false⟩ (n+1)else zW r c low (gy r c low ⟨S,V,false⟩ (n+1)))=_
  rw[ye h n]
  rfl
theorem rI{u:List Nat}(h:∀x∈u,fK x=0):nr (bH u)=0:=by
 have e:bB 0 u=0:=by
  have z:∀(d:List Nat),(∀x∈d,fK x=0)→bB 0 d=0:=by
   intro d
   induction d with
   |nil=>intro _;rfl
   |cons y d ih=>
    intro A
    have F:fR y=0:=(cj y).1 (A y List.mem_cons_self)
    show bB (mx 0 (fR y)) d=0
    rw[F]
    exact ih (fun x D=>A x (List.mem_cons_of_mem _ D))
  exact z u h
 unfold nr
 rw[aH,DP,e,if_pos (.inl rfl)]
theorem wJ{A:List Nat}{k:Int}(h:∀x∈A,fK x=0):fw A k=A:=by
 rw[rB]
 refine List.ext_getElem (by simp) (fun i u d=>?_)
 rw[List.getElem_map]
 exact ip _ _ (h _ (List.getElem_mem d))
theorem wK{A:List Nat}(h:∀x∈A,fK x=0)(r c p:Nat):∀x∈dc r c A p,fK x=0:=by
 intro x d
 unfold dc J8 mj at d
 obtain⟨q,_,rfl⟩:=List.mem_map.1 d
 show fK (A.getD ((0+q/1)*c+(p+q%1)) 0)=0
 rw[List.getD_eq_getElem?_getD]
 cases e:A[(0+q/1)*c+(p+q%1)]? with
 |none=>decide
 |some v=>exact h v (List.mem_of_getElem? e)
theorem mM{A:List Nat}(h:∀x∈A,fK x=0)(r c:Nat):iF r c A=⟨A,iH c,true⟩:=by
 unfold iF GG
 rw[wJ h]
 refine ye (fun p q=>?_) 59
 unfold ug iD
 rw[rI (wK h r c p),rI h,show ku (xV 0 (-44)) 0=false by decide]
 rfl
theorem uC{A:List Nat}(h:∀x∈A,fK x=0):uq A=eX 0:=by
 have e:=rI h
 have u:∀(d:List Nat),(∀x∈d,fK x=0)→bB 0 d=0:=by
  intro d
  induction d with
  |nil=>intro _;rfl
  |cons y d ih=>
   intro z
   have F:fR y=0:=(cj y).1 (z y List.mem_cons_self)
   show bB (mx 0 (fR y)) d=0
   rw[F]
   exact ih (fun x D=>z x (List.mem_cons_of_mem _ D))
 unfold uq
 rw[DP,u A h]
theorem rJ{A:List Nat}(h:∀x∈A,fK x=0∧x<18446744073709551616)(r c:Nat):cg r c A 100:=by
 have d:∀i j,fK (aS c A i j)=0∧aS c A i j<18446744073709551616:=fun i j=>by
  unfold aS
  rw[List.getD_eq_getElem?_getD]
  cases e:A[i*c+j]? with
  |none=>decide
  |some v=>exact h v (List.mem_of_getElem? e)
 refine⟨fun i j _ _=>?_,fun i j _ _=>(d i j).2,fun i _=>?_⟩
 ·have:=(d i j).1
  unfold aj
  refine decide_eq_true (fun e=>?_)
  unfold fK at this
  rw[if_pos e]at this
  split at this<;>omega
 ·rw[o8 c (g:=fun _=>0) (fun j _=>by rw[bm _ (d i j).1];exact Rat.zero_mul _),gY]
  grind
theorem pQ{A:List Nat}(h:∀x∈A,fK x=0∧x<18446744073709551616)(r c:Nat):jS r c A:=by
 have e:=mM (fun x d=>(h x d).1) r c
 have k:=uC (fun x d=>(h x d).1)
 refine⟨by rw[k];decide,by rw[e];exact rJ h r c,by rw[e];exact(pa c).mono (by grind),by rw[e];exact(rD c).mono (by grind)⟩
theorem rK(r:Nat)(x y:Nat→Nat):dt r (fun i=>fQ (x i)) (fun i=>fQ (y i))=((Gb r x y:Int):Rat)*p2 (-2148):=by
 unfold Gb
 rw[jt,←lr,←uB]
 exact eQ (fun i _=>by rw[Rat.intCast_mul];unfold fQ;grind)
theorem uD(A:List Nat):bQ A=((zp A:Int):Rat)*p2 (-2148):=by
 rw[GQ]
 exact rK A.length (fun i=>A.getD i 0) (fun i=>A.getD i 0)
theorem Eh{x s:Int}{u:Rat}{N:Nat}(d:0<u)(h:((N:Nat):Rat)*((x:Rat)*u)≤(s:Rat)*u):x*(N:Int)≤s:=by
 have z:u*(((x*(N:Int):Int)):Rat)≤u*(s:Rat):=by
  rw[Rat.intCast_mul]
  have e:((N:Int):Rat)=((N:Nat):Rat):=rfl
  rw[e]
  rw[show u*((x:Rat)*(N:Rat))=(N:Rat)*((x:Rat)*u) by grind,show u*(s:Rat)=(s:Rat)*u by grind]
  exact h
 exact Rat.intCast_le_intCast.1 (wH d z)
theorem rL{x:Nat}(h:fK x=0):fZ x=0:=by
 have e:=bm x h
 have P:=aE (-1074)
 unfold fQ at e
 have d:((0:Int):Rat)=0:=rfl
 have a:fZ x≤0:=Rat.intCast_le_intCast.1 (wH P (by rw[d];grind))
 have b:0≤fZ x:=Rat.intCast_le_intCast.1 (wH P (by rw[d];grind))
 omega
theorem J0:p2 (-80)*1208925819614629174706176=1:=by
 have e:=wI (-80) 80
 rw[show(-80:Int)+((80:Nat):Int)=0 by rfl,jM]at e
 have d:((2^80:Nat):Rat)=1208925819614629174706176:=rfl
 rw[d]at e
 grind
theorem Ei{x b:Rat}(h:ab x≤b):x*x≤b*b:=by
 have d:=cL x
 have u:=Rat.mul_le_mul_of_nonneg_left h d
 have z:=Rat.mul_le_mul_of_nonneg_right h (Rat.le_trans d h)
 rw[cD]at u
 exact Rat.le_trans u z
theorem rM{n:Nat}(u:n≤6){f:Nat→Rat}{b:Rat}(z:0≤b)(h:∀i,i<n→f i≤b):sm n f≤6*b:=by
 have k:=BK (g:=fun _=>b) h
 rw[uw]at k
 have d:(n:Rat)≤6:=Rat.natCast_le_natCast.2 u
 exact Rat.le_trans k (Rat.mul_le_mul_of_nonneg_right d z)
theorem GY{n m a:Nat}(u:a<m)(R:Nat→Nat→Rat){β:Rat}(h:pj n m R β):Bd n (fun i=>R i a) β:=by
 obtain⟨x,D⟩:∃x:Nat→Rat,x=fun j=>if j=a then 1 else 0:=⟨_,rfl⟩
 have z:x a=1:=by rw[D];exact if_pos rfl
 have A:∀j,j≠a→x j=0:=fun j d=>by rw[D];exact if_neg d
 have e:dt m x x=1:=by
  rw[rC u x x (fun j _ d=>by rw[A j d,Rat.zero_mul]),z,Rat.mul_one]
 have k:=h x 1 (by grind) (by rw[e];grind)
 rw[Rat.mul_one]at k
 refine k.congr (fun i _=>?_)
 rw[rC u (R i) x (fun j _ d=>by rw[A j d,Rat.mul_zero]),z,Rat.mul_one]
theorem yf{m:Nat}{w x:Nat→Rat}(h:∀j,j<m→w j=0):dt m w x=0:=by
 rw[d6 (y:=x) (y':=x) (x':=fun _=>0) h (fun _ _=>rfl)]
 unfold dt
 rw[eQ (g:=fun _=>0) (fun _ _=>Rat.zero_mul _),uw]
 exact Rat.mul_zero _
theorem yg(c:Nat){k j:Nat}(d:k<c)(u:j<c):cK c (iH c) k j=if k=j then 1 else 0:=by
 unfold cK iH aS
 rw[xJ c c _ d u]
 by_cases h:k=j
 ·rw[if_pos h,if_pos h.symm];exact gM
 ·rw[if_neg h,if_neg (fun e=>h e.symm)];exact bm 0 (by decide)
theorem zR(r c:Nat)(S:List Nat):pj r c (zX c (cK c S) (cK c S) (cK c (iH c))) 0:=by
 have e:∀i j,j<c→zX c (cK c S) (cK c S) (cK c (iH c)) i j=0:=fun i j d=>by
  unfold zX
  rw[rC d (cK c S i) (fun k=>cK c (iH c) k j) (fun k u h=>by show _*cK c (iH c) k j=0;rw[yg c u d,if_neg h,Rat.mul_zero])]
  show cK c S i j-cK c S i j*cK c (iH c) j j=0
  rw[yg c d d,if_pos rfl]
  grind
 intro x t z _
 refine⟨by rw[Rat.zero_mul];exact Rat.le_refl,?_⟩
 rw[yf (fun i _=>yf (fun j d=>e i j d)),Rat.zero_mul,Rat.zero_mul]
 exact Rat.le_refl
theorem mN{r c:Nat}{S:List Nat}(d:S.length=r*c):sm r (fun i=>dt c (cK c S i) (cK c S i))=bQ S:=by
 rw[uD,tT r c S d,jt,←lr]
 exact eQ (fun i _=>by
  show dt c (cK c S i) (cK c S i)=_
  exact rK c (aS c S i) (aS c S i))
theorem GZ{r c:Nat}{S:List Nat}(d:S.length=r*c){F:Rat}(hF:0≤F)(h:bQ S≤F*F):pj r c (cK c S) F:=by
 intro x t u z
 refine⟨Rat.mul_nonneg hF u,?_⟩
 have k:dt r (fun i=>dt c (cK c S i) x) (fun i=>dt c (cK c S i) x)≤sm r (fun i=>dt c (cK c S i) (cK c S i)*dt c x x):=BK (fun i _=>Hh c (cK c S i) x)
 rw[lr,mN d]at k
 have a:=Rat.mul_le_mul_of_nonneg_right h (kQ c x)
 have b:=Rat.mul_le_mul_of_nonneg_left z (Rat.mul_nonneg hF hF)
 rw[show F*t*(F*t)=F*F*(t*t) by grind]
 exact Rat.le_trans k (Rat.le_trans a b)
theorem Ej{r c:Nat}{S:List Nat}{B:Rat}(d:S.length=r*c)(u:r≤6)(z:0≤B)(h:cg r c S B):bQ S≤6*B:=by
 rw[←mN d]
 refine rM u z (fun i A=>?_)
 have k:=h.sq i A
 rw[dI]at k
 exact k
theorem uE{s:Rat}(u:1≤s)(z:s≤144):∃F:Rat,1≤F∧s≤F*F∧F*F≤4*s:=by
 rcases Rat.le_total (a:=s) (b:=4)with g|g
 ·exact⟨2,by grind,by grind,by grind⟩
 ·rcases Rat.le_total (a:=s) (b:=16)with d|d
  ·exact⟨4,by grind,by grind,by grind⟩
  ·rcases Rat.le_total (a:=s) (b:=64)with h|h
   ·exact⟨8,by grind,by grind,by grind⟩
   ·exact⟨12,by grind,by grind,by grind⟩
theorem bX.endR{A:List Nat}{k:Int}(h:bX A k){r c:Nat}(D:A.length=r*c)(u:r≤6)(G:c≤6):
  ∃F:Rat,1≤F∧F*F≤4*bQ (fw A (-k))∧pj r c (zX c (cK c (fw A (-k))) (cK c (iF r c A).W) (cK c (iF r c A).V)) (16200/9007199254740992*F):=by
 have K:A.length≤36:=by rw[D];exact Nat.mul_le_mul u G
 obtain⟨O,Q,U,_⟩:=h.low (by omega)
 have H:(fw A (-k)).length=r*c:=by rw[jK];exact D
 have I:=h.rows D G
 obtain⟨F,J,X,Y⟩:=uE O (Rat.le_trans (Ej H u (by grind) I) (by grind))
 refine⟨F,J,Y,?_⟩
 have z:((0:Nat):Rat)*(1/1099511627776)=0:=by
  have:((0:Nat):Rat)=0:=rfl
  rw[this,Rat.zero_mul]
 have z2:((0:Nat):Rat)*(40/9007199254740992)=0:=by
  have:((0:Nat):Rat)=0:=rfl
  rw[this,Rat.zero_mul]
 have L:((0:Nat):Rat)*(18/9007199254740992*F)=0:=by
  have:((0:Nat):Rat)=0:=rfl
  rw[this,Rat.zero_mul]
 have d:mu r c (fw A (-k)) F 24 ⟨fw A (-k),iH c,false⟩ 0:=by
  refine⟨⟨⟨by rw[z,Rat.add_zero];exact I,by rw[z,Rat.add_zero];exact pa c⟩,?_⟩,?_⟩
  ·unfold D4
   rw[z2]
   exact rD c
  ·unfold JX
   rw[L]
   exact zR r c _
 have e:=(mu.rounds J (GZ H (by grind) X) (xY u Q U) d (by grind) u G 60 (Nat.le_refl _)).2
 unfold JX at e
 have N:(((15*60:Nat):Nat):Rat)*(18/9007199254740992*F)=16200/9007199254740992*F:=by
  have:(((15*60:Nat):Nat):Rat)=900:=rfl
  rw[this];grind
 rw[N]at e
 unfold iF
 rw[h.key]
 exact e
theorem uF(a b:Rat):(a+b)*(a+b)≤2*(a*a)+2*(b*b):=by
 have:=aw (a-b)
 grind
theorem wL{A:List Nat}{k:Int}(h:bX A k){r c:Nat}(z:A.length=r*c)(H:r≤6)(I:c≤6){i j:Nat}(D:i<r)(F:j<c):
  ∃δ:Rat,ab δ≤p2 (-1075)∧((rZ c c (cN r c A) A (dR r c A) i j:Int):Rat)*p2 (-2148)=p2 k*zX c (cK c (fw A (-k))) (cK c (iF r c A).W) (cK c (iF r c A).V) i ((ge r c A).getD j 0)+δ:=by
 have E:=h.end19 z H I
 have u:=(E.back D F).2
 rw[h.key]at u
 refine⟨_,u,?_⟩
 obtain⟨K,G,Z⟩:=pf 1074
 have J:((2:Int)^1074:Int)=((K:Nat):Int):=uA G
 have L:(K:Rat)*p2 (-1074)=1:=by
  have e:=wI (-1074) 1074
  rw[G,show(-1074:Int)+((1074:Nat):Int)=0 by rfl,jM]at e
  exact e.symm
 have N:p2 k*p2 (-k)=1:=by rw[←aT,show k+-k=0 by omega];exact jM
 unfold rZ
 rw[Rat.intCast_sub,Rat.intCast_mul,J,Rat.sub_eq_add_neg,Rat.add_mul,Rat.neg_mul,←Rat.sub_eq_add_neg,←rK]
 have O:((fZ (aS c (cN r c A) i j):Int):Rat)*(((K:Nat):Int):Rat)*p2 (-2148)=fQ (aS c (cN r c A) i j):=by
  have Q:(((K:Nat):Int):Rat)=(K:Rat):=rfl
  rw[Q,←uB]
  unfold fQ
  rw[show((fZ (aS c (cN r c A) i j):Int):Rat)*(K:Rat)*(p2 (-1074)*p2 (-1074))=((fZ (aS c (cN r c A) i j):Int):Rat)*p2 (-1074)*((K:Rat)*p2 (-1074)) by grind,L,Rat.mul_one]
 rw[O]
 have U:dt c (fun l=>fQ (aS c A i l)) (fun l=>fQ (aS c (dR r c A) l j))=p2 k*dt c (cK c (fw A (-k)) i) (fun l=>cK c (iF r c A).V l ((ge r c A).getD j 0)):=by
  rw[←jp]
  refine d6 (fun l d=>?_) (fun l d=>?_)
  ·have u:i*c+l<A.length:=by rw[z];exact cZ D d
   have X:aS c (fw A (-k)) i l=xV (aS c A i l) (-k):=by
    unfold aS fw
    rw[List.getD_eq_getElem?_getD,List.getElem?_map,List.getElem?_range u]
    rfl
   have Y:aS c A i l∈A:=by
    unfold aS
    rw[List.getD_eq_getElem?_getD,List.getElem?_eq_getElem u]
    exact List.getElem_mem u
   show fQ (aS c A i l)=p2 k*fQ (aS c (fw A (-k)) i l)
   rw[X,(h.one Y).2.1,show p2 k*(fQ (aS c A i l)*p2 (-k))=fQ (aS c A i l)*(p2 k*p2 (-k)) by grind,N,Rat.mul_one]
  ·rw[H6 r c A d F];rfl
 rw[U]
 show _=p2 k*(fQ (aS c (iF r c A).W i ((ge r c A).getD j 0))-dt c (cK c (fw A (-k)) i) (fun l=>cK c (iF r c A).V l ((ge r c A).getD j 0)))+_
 grind
theorem zS{A:List Nat}{k:Int}(h:bX A k){r c:Nat}(K:A.length=r*c)(F:r≤6)(L:c≤6){β:Rat}(G:pj r c (zX c (cK c (fw A (-k))) (cK c (iF r c A).W) (cK c (iF r c A).V)) β){j:Nat}(H:j<c):
  sm r (fun i=>((rZ c c (cN r c A) A (dR r c A) i j*rZ c c (cN r c A) A (dR r c A) i j:Int):Rat)*p2 (-4296))≤2*(p2 k*p2 k*(β*β))+12*(p2 (-1075)*p2 (-1075)):=by
 have O:p2 (-2148)*p2 (-2148)=p2 (-4296):=by rw[←aT];rfl
 obtain⟨R,I⟩:∃R,zX c (cK c (fw A (-k))) (cK c (iF r c A).W) (cK c (iF r c A).V)=R:=⟨_,rfl⟩
 have D:∀i,i<r→((rZ c c (cN r c A) A (dR r c A) i j*rZ c c (cN r c A) A (dR r c A) i j:Int):Rat)*p2 (-4296)≤2*(p2 k*p2 k*(R i ((ge r c A).getD j 0)*R i ((ge r c A).getD j 0)))+2*(p2 (-1075)*p2 (-1075)):=fun i N=>by
  obtain⟨δ,Z,J⟩:=wL h K F L N H
  rw[I]at J
  have Q:=Ei Z
  rw[Rat.intCast_mul,←O]
  generalize ((rZ c c (cN r c A) A (dR r c A) i j:Int):Rat)=z at*
  generalize p2 (-2148)=u at*
  rw[show z*z*(u*u)=z*u*(z*u) by grind,J]
  generalize R i ((ge r c A).getD j 0)=ρ at*
  have t:=uF (p2 k*ρ) δ
  rw[show p2 k*ρ*(p2 k*ρ)=p2 k*p2 k*(ρ*ρ) by grind]at t
  have s:=Rat.mul_le_mul_of_nonneg_left Q (show(0:Rat)≤2 by grind)
  exact Rat.le_trans t (Rat.add_le_add_left.2 s)
 refine Rat.le_trans (BK D) ?_
 rw[BJ,qZ,qZ]
 rw[I]at G
 have U:=(GY (rH r c A H) R G).2
 have P:=aE k
 have X:=Rat.mul_le_mul_of_nonneg_left (Rat.mul_le_mul_of_nonneg_left U (Rat.le_of_lt (Rat.mul_pos P P))) (show(0:Rat)≤2 by grind)
 have d:=aE (-1075)
 have n0:=Rat.mul_nonneg (Rat.le_of_lt d) (Rat.le_of_lt d)
 have Y:sm r (fun _=>2*(p2 (-1075)*p2 (-1075)))≤12*(p2 (-1075)*p2 (-1075)):=by
  have:=rM F (b:=2*(p2 (-1075)*p2 (-1075))) (f:=fun _=>2*(p2 (-1075)*p2 (-1075))) (by grind) (fun _ _=>Rat.le_refl)
  grind
 exact Rat.le_trans (Rat.add_le_add_right.2 X) (Rat.add_le_add_left.2 Y)
theorem rN{u e f s F2 d:Rat}(z:d=262440000/81129638414606681695789005144064*F2)(hF:F2≤4*s)(A:1≤s)(h:0≤u)(F:e≤f*u)(D:1208925819614629174706176*f≤1):
  1180591620717411303424*(6*(2*(u*d)+12*e))≤u*s:=by
 have a:=Rat.mul_le_mul_of_nonneg_left hF h
 have b:=Rat.mul_le_mul_of_nonneg_left A h
 have c:=Rat.mul_le_mul_of_nonneg_right D h
 subst z
 rw[show u*(262440000/81129638414606681695789005144064*F2)=262440000/81129638414606681695789005144064*(u*F2) by grind]
 rw[show 1208925819614629174706176*f*u=1208925819614629174706176*(f*u) by grind]at c
 rw[show u*(4*s)=4*(u*s) by grind]at a
 generalize u*F2=G at*
 generalize u*s=H at*
 generalize f*u=I at*
 grind
theorem rO{A:List Nat}{r c:Nat}(D:A.length=r*c)(G:r≤6)(u:c≤6)(Z:(∃k,bX A k)∨∀x∈A,fK x=0∧x<18446744073709551616):
  Gc r c c (cN r c A) A (dR r c A)*2^70≤zp A*2^2148:=by
 obtain⟨K,Y,ah⟩:=pf 2148
 have eP:((2:Int)^2148:Int)=((K:Nat):Int):=uA Y
 have I:((2:Int)^70:Int)=((1180591620717411303424:Nat):Int):=by decide
 rw[eP,I]
 rcases Z with⟨k,h⟩|h
 ·have eK:(K:Rat)*p2 (-2148)=1:=by
   have e:=wI (-2148) 2148
   rw[Y,show(-2148:Int)+((2148:Nat):Int)=0 by rfl,jM]at e
   exact e.symm
  have N:p2 (-2148)*p2 (-2148)=p2 (-4296):=by rw[←aT];rfl
  have ae:A.length≤36:=by rw[D];exact Nat.mul_le_mul G u
  obtain⟨s1,_,_,_⟩:=h.low (by omega)
  obtain⟨F,f1,f2,f3⟩:=h.endR D G u
  refine Eh (aE (-4296)) ?_
  have en:((1180591620717411303424:Nat):Rat)=1180591620717411303424:=rfl
  rw[en,Rat.intCast_mul]
  have ec:(((K:Nat):Int):Rat)=(K:Rat):=rfl
  rw[ec,←N,show((zp A:Int):Rat)*(K:Rat)*(p2 (-2148)*p2 (-2148))=((zp A:Int):Rat)*p2 (-2148)*((K:Rat)*p2 (-2148)) by grind,eK,Rat.mul_one,←uD,N]
  have P:=aE k
  have KK:=Rat.mul_pos P P
  have d:=aE (-1075)
  have n0:=Rat.mul_nonneg (Rat.le_of_lt d) (Rat.le_of_lt d)
  have sw:((Gc r c c (cN r c A) A (dR r c A):Int):Rat)*p2 (-4296)≤6*(2*(p2 k*p2 k*(16200/9007199254740992*F*(16200/9007199254740992*F)))+12*(p2 (-1075)*p2 (-1075))):=by
   unfold Gc
   rw[CE,jt,←lr]
   refine rM u ?_ (fun j H=>?_)
   ·have:=Rat.mul_nonneg (Rat.le_of_lt KK) (aw (16200/9007199254740992*F))
    generalize p2 k*p2 k*(16200/9007199254740992*F*(16200/9007199254740992*F))=v1 at*
    grind
   ·rw[jt,←lr]
    exact zS h D G u f3 H
  refine Rat.le_trans (Rat.mul_le_mul_of_nonneg_left sw (show(0:Rat)≤1180591620717411303424 by grind)) ?_
  have kS:p2 k*p2 k*bQ (fw A (-k))=bQ A:=by
   rw[h.sumS]
   have e:p2 k*p2 (-k)=1:=by rw[←aT,show k+-k=0 by omega];exact jM
   rw[show p2 k*p2 k*(bQ A*(p2 (-k)*p2 (-k)))=bQ A*((p2 k*p2 (-k))*(p2 k*p2 (-k))) by grind,e]
   grind
  rw[←kS]
  have O:=aR (show-1075≤-80+k by have:=h.up;omega)
  have Q:=Rat.mul_le_mul_of_nonneg_left O (Rat.le_of_lt d)
  have m3:=Rat.mul_le_mul_of_nonneg_right O (Rat.le_of_lt (aE (-80+k)))
  have m4:=Rat.le_trans Q (by rw[Rat.mul_comm];exact Rat.le_refl (a:=p2 (-80+k)*p2 (-1075)))
  have U:p2 (-1075)*p2 (-1075)≤p2 (-80+k)*p2 (-80+k):=Rat.le_trans Q m3
  rw[show p2 (-80+k)*p2 (-80+k)=(p2 (-80)*p2 (-80))*(p2 k*p2 k) by rw[aT];grind]at U
  refine rN (f:=p2 (-80)*p2 (-80)) (F2:=F*F) (by grind) f2 s1 (Rat.le_of_lt KK) U ?_
  have J:=J0
  have L:p2 (-80)≤1:=by
   have:=aR (show(-80:Int)≤0 by decide)
   rw[jM]at this;exact this
  have q:=aE (-80)
  rw[show 1208925819614629174706176*(p2 (-80)*p2 (-80))=p2 (-80)*(p2 (-80)*1208925819614629174706176) by grind,J,Rat.mul_one]
  exact L
 ·have X:∀i l,fZ (aS c A i l)=0:=fun i l=>by
   refine rL ?_
   unfold aS
   rw[List.getD_eq_getElem?_getD]
   cases e:A[i*c+l]? with
   |none=>decide
   |some v=>exact(h v (List.mem_of_getElem? e)).1
  have e:Gc r c c (cN r c A) A (dR r c A)=0:=by
   unfold Gc
   rw[iA (g:=fun _=>0) r (fun i hi=>?_),gW]
   rw[iA (g:=fun _=>0) c (fun j H=>?_),gW]
   have z:rZ c c (cN r c A) A (dR r c A) i j=0:=by
    unfold rZ Gb
    rw[iA (g:=fun _=>0) c (fun l aa=>by rw[X,Int.zero_mul]),gW,H7 r c A hi H,mM (fun x hx=>(h x hx).1)]
    have z0:fK (aS c A i ((ge r c A).getD j 0))=0:=by
     unfold aS
     rw[List.getD_eq_getElem?_getD (l:=A)]
     cases e:A[i*c+(ge r c A).getD j 0]? with
     |none=>decide
     |some v=>exact(h v (List.mem_of_getElem? e)).1
    show fZ (xV (aS c A i ((ge r c A).getD j 0)) (uq A))*_-0=0
    rw[ip _ _ z0,X,Int.zero_mul]
    rfl
   rw[z]
   rfl
  rw[e,Int.zero_mul]
  have s0:0≤zp A:=by unfold zp;exact vW _ (fun i _=>oK _)
  exact Int.mul_nonneg s0 (Int.natCast_nonneg K)
end Go.Proofs.YtcbcmlaogehimaaGreatDoor
