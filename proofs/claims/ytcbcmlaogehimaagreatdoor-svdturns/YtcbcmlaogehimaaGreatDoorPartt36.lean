/- Part 36 of the texts. -/
import Derived.Test.YtcbcmlaogehimaaGreatDoorPartt35
namespace Go.Proofs.YtcbcmlaogehimaaGreatDoor
open Go.RowKit
theorem pz(e:Int)(k:Nat):p2 (e+k)=((2^k:Nat):Rat)*p2 e:=by rw[aU,bu,Rat.mul_comm]
theorem je(n:Nat):∃K:Nat,2^n=K∧0<K:=⟨2^n,rfl,Nat.pow_pos (by decide)⟩
theorem gR(f:Nat→Int):∀n,((cR f n:Int):Rat)=sm n (fun i=>((f i:Int):Rat))
 |0=>rfl
 |n+1=>by
  show((cR f n+f n:Int):Rat)=sm n _+_
  rw[Rat.intCast_add,gR f n]
theorem jf(n:Nat)(c:Rat)(f:Nat→Rat):sm n (fun i=>f i*c)=sm n f*c:=by
 rw[Rat.mul_comm,←rA]
 exact fg (fun i _=>Rat.mul_comm _ _)
theorem lL{n K:Nat}(h:2^n=K):((2:Int)^n:Int)=((K:Nat):Int):=by
 have e:((2^n:Nat):Int)=((K:Nat):Int):=by rw[h]
 rw[Int.natCast_pow]at e
 exact e
theorem uY:p2 (-1074)*p2 (-1074)=p2 (-2148):=by rw[←aU];rfl
theorem EJ{x y:Int}{m n V:Nat}(h:m+n≤V)(d:x.natAbs<2^m)(u:y.natAbs<2^n):(x*y).natAbs<2^V:=by
 refine Nat.lt_of_lt_of_le ?_ (Nat.pow_le_pow_right (by decide) h)
 rw[Int.natAbs_mul,Nat.pow_add]
 exact Nat.mul_lt_mul'' d u
theorem LZ{x:Int}{m k V:Nat}(h:m+k≤V)(d:x.natAbs<2^m):(x*2^k).natAbs<2^V:=by
 refine Nat.lt_of_lt_of_le ?_ (Nat.pow_le_pow_right (by decide) h)
 rw[Int.natAbs_mul,Nat.pow_add]
 have e:((2:Int)^k).natAbs=2^k:=by rw[Int.natAbs_pow];rfl
 rw[e]
 exact Nat.mul_lt_mul_of_pos_right d (Nat.pow_pos (by decide))
theorem L8{x y:Int}{m V:Nat}(h:m+1≤V)(d:x.natAbs<2^m)(u:y.natAbs<2^m):(x+y).natAbs<2^V:=by
 refine Nat.lt_of_lt_of_le ?_ (Nat.pow_le_pow_right (by decide) h)
 rw[Nat.pow_succ]
 omega
theorem xm{x:Int}{m V:Nat}(h:m≤V)(d:x.natAbs<2^m):x.natAbs<2^V:=Nat.lt_of_lt_of_le d (Nat.pow_le_pow_right (by decide) h)
theorem Ma{x y:Int}(h:x≤y):bt x y≤0:=by
 unfold bt
 repeat' split
 all_goals omega
theorem EK{r c:Nat}{S:List Nat}(d:S.length=r*c)(h:r≤6)(u:c≤6)(fS:∀x∈S,aj x=true):(Ab S).natAbs<2^4202:=by
 rw[uq r c S d]
 exact jb (W:=4199) (V:=4202) (by decide) r (by omega) (fun i _=>jb (W:=4196) (V:=4199) (by decide) c (by omega) (fun k _=>EJ (m:=2098) (n:=2098) (V:=4196) (by decide) (e9 _ (dG c S i k fS)) (e9 _ (dG c S i k fS))))
theorem pA{r c:Nat}{S:List Nat}(d:S.length=r*c)(h:∀i k,i<r→k<c→aj (aQ c S i k)=true):gl S=true:=by
 rw[pb,d]
 intro x D
 obtain⟨u,z,A⟩:=lk D
 have:=h _ _ u z
 unfold aQ at this
 rwa[A]at this
theorem jW{S:List Nat}(h:gl S=true):∀x∈S,aj x=true:=by
 rw[pb]at h
 intro x u
 obtain⟨k,d,e⟩:=List.getElem_of_mem u
 have:=h k d
 rw[List.getD_eq_getElem?_getD,List.getElem?_eq_getElem d]at this
 rw[←e]
 exact this
theorem qP(I:List Nat):∀i,(eH I i).Nodup
 |0=>List.nodup_nil
 |i+1=>by
  have h:=qP I i
  have d:=lE I i
  have u:eH I (i+1)=(eH I i).take (uI (Eb I i) i)++i::(eH I i).drop (uI (Eb I i) i):=rfl
  rw[u,List.perm_middle.nodup_iff,List.take_append_drop,List.nodup_cons]
  exact⟨fun e=>Nat.lt_irrefl _ (d i e),h⟩
theorem Kp(I:List Nat){n i j:Nat}(u:i<n)(z:j<n)(h:i≠j):(eH I n).getD i 0≠(eH I n).getD j 0:=by
 have A:=fr I n
 have d:=List.pairwise_iff_getElem.1 (qP I n)
 intro e
 rw[List.getD_eq_getElem?_getD,List.getD_eq_getElem?_getD,List.getElem?_eq_getElem (by omega),List.getElem?_eq_getElem (by omega)]at e
 rcases Nat.lt_or_gt_of_ne h with g|g
 ·exact d i j (by omega) (by omega) g e
 ·exact d j i (by omega) (by omega) g e.symm
theorem gS(r c:Nat)(A:List Nat):(ef r c A).length=c:=fr _ _
theorem lN(r c:Nat)(A:List Nat){j:Nat}(d:j<c):(ef r c A).getD j 0<c:=(Eh _ c d).2
theorem Hl(r c:Nat)(A:List Nat){i j:Nat}(d:i<c)(u:j<c)(h:i≠j):(ef r c A).getD i 0≠(ef r c A).getD j 0:=Kp _ d u h
theorem yM(r c:Nat)(A:List Nat){i j:Nat}(d:i<c)(u:j<c):aQ c (cj r c A) i j=aQ c (gT r c A).V i ((ef r c A).getD j 0):=by
 have h:=DZ c c (gT r c A).V (ef r c A) d (q:=j) (by rw[gS];exact u)
 rw[gS]at h
 exact h
theorem It(r c:Nat)(A:List Nat){i j:Nat}(d:i<r)(u:j<c):aQ c (cG r c A) i j=xV (aQ c (gT r c A).W i ((ef r c A).getD j 0)) (uM A):=by
 have h:=DZ r c (gT r c A).W (ef r c A) d (q:=j) (by rw[gS];exact u)
 rw[gS]at h
 rw[←h]
 have z:i*c+j<(uA r c (gT r c A).W (ef r c A)).length:=by rw[jd,gS];exact dg d u
 unfold cG fY aQ
 rw[List.getD_eq_getElem?_getD,List.getElem?_map,List.getElem?_range z]
 rfl
theorem xn(r c:Nat)(A:List Nat):(cj r c A).length=c*c:=by unfold cj;rw[jd,gS]
theorem xt(r c:Nat)(A:List Nat):(cG r c A).length=r*c:=by unfold cG;rw[jU,jd,gS]
structure iL (r c:Nat) (A:List Nat):Prop where
 up:-100≤uM A∧uM A<100
 w:cn r c (gT r c A).W 100
 v:cn c c (gT r c A).V 100
 iso:uV c c (cI c (gT r c A).V) (36000/9007199254740992)
theorem iL.finV{r c:Nat}{A:List Nat}(h:iL r c A):gl (cj r c A)=true:=
 pA (xn r c A) (fun i k d u=>by rw[yM r c A d u];exact h.v.fin _ _ d (lN r c A u))
theorem iL.back{r c:Nat}{A:List Nat}(h:iL r c A){i k:Nat}(d:i<r)(z:k<c):
  aj (aQ c (cG r c A) i k)=true∧ab (fQ (aQ c (cG r c A) i k)-fQ (aQ c (gT r c A).W i ((ef r c A).getD k 0))*p2 (uM A))≤p2 (-1075):=by
 rw[It r c A d z]
 have u:=lN r c A z
 exact Ex _ _ (h.w.lt _ _ d u) (h.w.fin _ _ d u) (h.w.small (Rat.le_refl) d u) h.up
theorem iL.finW{r c:Nat}{A:List Nat}(h:iL r c A):gl (cG r c A)=true:=
 pA (xt r c A) (fun _ _ d u=>(h.back d u).1)
theorem bZ.key{A:List Nat}{k:Int}(h:bZ A k):uM A=k:=by
 unfold uM
 rw[En]
 exact h.ek
theorem Hm:(((15*60:Nat):Nat):Rat)*(1/1099511627776)≤1:=by
 have:(((15*60:Nat):Nat):Rat)=900:=rfl
 rw[this];grind
theorem EL:(((15*60:Nat):Nat):Rat)*(40/9007199254740992)=36000/9007199254740992:=by
 have:(((15*60:Nat):Nat):Rat)=900:=rfl
 rw[this];grind
theorem bZ.end19{A:List Nat}{k:Int}(h:bZ A k){r c:Nat}(D:A.length=r*c)(F:r≤6)(G:c≤6):iL r c A:=by
 have e:=h.endI D F G 60 (Nat.le_refl _)
 have u:=h.key
 have z:=Hm
 obtain⟨⟨H,I⟩,d⟩:=e
 unfold EA at d
 rw[EL]at d
 refine⟨by rw[u];exact h.up,?_,?_,?_⟩<;>unfold gT<;>rw[u]
 ·exact H.mono (by grind)
 ·exact I.mono (by grind)
 ·exact d
theorem yN{r c low p:Nat}{s:Sd}(h:∀q,uE r c low s.W p q=true):∀t,nr r c low p s t=s
 |0=>rfl
 |t+1=>by
  show qJ r c low p (p+1+t) (nr r c low p s t)=s
  rw[yN h t]
  unfold qJ
  rw[if_pos (h _)]
theorem yO{r c low:Nat}{s:Sd}(h:∀p q,uE r c low s.W p q=true):∀n,pg r c low s n=s
 |0=>rfl
 |n+1=>by
  show nr r c low n (pg r c low s n) (c-1-n)=s
  rw[yO h n]
  exact yN (h n) _
theorem yP{r c low:Nat}{S V:List Nat}(h:∀p q,uE r c low S p q=true):∀n,gD r c low ⟨S,V,false⟩ (n+1)=⟨S,V,true⟩
 |0=>by
  show(if(⟨S,V,false⟩:Sd).still=true then(⟨S,V,false⟩:Sd)else AK r c low ⟨S,V,false⟩)=_
  rw[if_neg (show¬((⟨S,V,false⟩:Sd).still=true)from Bool.false_ne_true)]
  unfold AK
  exact yO (s:=⟨S,V,true⟩) h c
 |n+1=>by
  show(if(gD r c low ⟨S,V,false⟩ (n+1)).still=true then gD r c low ⟨S,V,false⟩ (n+1)else AK r c low (gD r c low ⟨S,V,false⟩ (n+1)))=_
  rw[yP h n]
  rfl
theorem sj{u:List Nat}(h:∀x∈u,fK x=0):nG (bF u)=0:=by
 have e:bB 0 u=0:=by
  have z:∀(d:List Nat),(∀x∈d,fK x=0)→bB 0 d=0:=by
   intro d
   induction d with
   |nil=>intro _;rfl
   |cons y d ih=>
    intro A
    have F:fR y=0:=(cr y).1 (A y List.mem_cons_self)
    show bB (mx 0 (fR y)) d=0
    rw[F]
    exact ih (fun x D=>A x (List.mem_cons_of_mem _ D))
  exact z u h
 unfold nG
 rw[aH,En,e,if_pos (.inl rfl)]
theorem xu{A:List Nat}{k:Int}(h:∀x∈A,fK x=0):fY A k=A:=by
 rw[rZ]
 refine List.ext_getElem (by simp) (fun i u d=>?_)
 rw[List.getElem_map]
 exact iC _ _ (h _ (List.getElem_mem d))
theorem xw{A:List Nat}(h:∀x∈A,fK x=0)(r c p:Nat):∀x∈di r c A p,fK x=0:=by
 intro x d
 unfold di Ku mz at d
 obtain⟨q,_,rfl⟩:=List.mem_map.1 d
 show fK (A.getD ((0+q/1)*c+(p+q%1)) 0)=0
 rw[List.getD_eq_getElem?_getD]
 cases e:A[(0+q/1)*c+(p+q%1)]? with
 |none=>decide
 |some v=>exact h v (List.mem_of_getElem? e)
theorem nh{A:List Nat}(h:∀x∈A,fK x=0)(r c:Nat):gT r c A=⟨A,iM c,true⟩:=by
 unfold gT G6
 rw[xu h]
 refine yP (fun p q=>?_) 59
 unfold uE iI
 rw[sj (xw h r c p),sj h,show kD (xV 0 (-44)) 0=false by decide]
 rfl
theorem uZ{A:List Nat}(h:∀x∈A,fK x=0):uM A=eX 0:=by
 have e:=sj h
 have u:∀(d:List Nat),(∀x∈d,fK x=0)→bB 0 d=0:=by
  intro d
  induction d with
  |nil=>intro _;rfl
  |cons y d ih=>
   intro z
   have F:fR y=0:=(cr y).1 (z y List.mem_cons_self)
   show bB (mx 0 (fR y)) d=0
   rw[F]
   exact ih (fun x D=>z x (List.mem_cons_of_mem _ D))
 unfold uM
 rw[En,u A h]
theorem sl{A:List Nat}(h:∀x∈A,fK x=0∧x<18446744073709551616)(r c:Nat):cn r c A 100:=by
 have d:∀i j,fK (aQ c A i j)=0∧aQ c A i j<18446744073709551616:=fun i j=>by
  unfold aQ
  rw[List.getD_eq_getElem?_getD]
  cases e:A[i*c+j]? with
  |none=>decide
  |some v=>exact h v (List.mem_of_getElem? e)
 refine⟨fun i j _ _=>?_,fun i j _ _=>(d i j).2,fun i _=>?_⟩
 ·have:=(d i j).1
  unfold aj
  refine decide_eq_true (fun e=>?_)
  unfold fK at this
  rw[if_pos e]at this
  split at this<;>omega
 ·rw[pt c (g:=fun _=>0) (fun j _=>by rw[bm _ (d i j).1];exact Rat.zero_mul _),h9]
  grind
theorem j6{A:List Nat}(h:∀x∈A,fK x=0∧x<18446744073709551616)(r c:Nat):iL r c A:=by
 have e:=nh (fun x d=>(h x d).1) r c
 have k:=uZ (fun x d=>(h x d).1)
 refine⟨by rw[k];decide,by rw[e];exact sl h r c,by rw[e];exact(px c).mono (by grind),by rw[e];exact(sc c).mono (by grind)⟩
theorem nN(r:Nat)(x y:Nat→Nat):dt r (fun i=>fQ (x i)) (fun i=>fQ (y i))=((Ac r x y:Int):Rat)*p2 (-2148):=by
 unfold Ac
 rw[gR,←jf,←uY]
 exact fg (fun i _=>by rw[Rat.intCast_mul];unfold fQ;grind)
theorem u6(A:List Nat):bT A=((Ab A:Int):Rat)*p2 (-2148):=by
 rw[Hf]
 exact nN A.length (fun i=>A.getD i 0) (fun i=>A.getD i 0)
theorem u7{x s:Int}{u:Rat}{N:Nat}(d:0<u)(h:((N:Nat):Rat)*((x:Rat)*u)≤(s:Rat)*u):x*(N:Int)≤s:=by
 have z:u*(((x*(N:Int):Int)):Rat)≤u*(s:Rat):=by
  rw[Rat.intCast_mul]
  have e:((N:Int):Rat)=((N:Nat):Rat):=rfl
  rw[e]
  rw[show u*((x:Rat)*(N:Rat))=(N:Rat)*((x:Rat)*u) by grind,show u*(s:Rat)=(s:Rat)*u by grind]
  exact h
 exact Rat.intCast_le_intCast.1 (xl d z)
theorem sr{x:Nat}(h:fK x=0):fZ x=0:=by
 have e:=bm x h
 have P:=aE (-1074)
 unfold fQ at e
 have d:((0:Int):Rat)=0:=rfl
 have a:fZ x≤0:=Rat.intCast_le_intCast.1 (xl P (by rw[d];grind))
 have b:0≤fZ x:=Rat.intCast_le_intCast.1 (xl P (by rw[d];grind))
 omega
theorem Kq:p2 (-80)*1208925819614629174706176=1:=by
 have e:=pz (-80) 80
 rw[show(-80:Int)+((80:Nat):Int)=0 by rfl,ji]at e
 have d:((2^80:Nat):Rat)=1208925819614629174706176:=rfl
 rw[d]at e
 grind
theorem EM{n m a:Nat}{v:Nat→Nat→Rat}{ε:Rat}(h:uV n m v ε)(z:a<m):ab (dt n (fun i=>v i a) (fun i=>v i a)-1)≤ε:=by
 obtain⟨x,F⟩:∃x:Nat→Rat,x=fun j=>if j=a then 1 else 0:=⟨_,rfl⟩
 have A:x a=1:=by rw[F];exact if_pos rfl
 have D:∀j,j≠a→x j=0:=fun j d=>by rw[F];exact if_neg d
 have e:dt m x x=1:=by
  rw[mJ z x x (fun j _ d=>by rw[D j d,Rat.zero_mul]),A,Rat.mul_one]
 have k:=h x
 rw[e,Rat.mul_one]at k
 have G:dt n (fun i=>dt m (v i) x) (fun i=>dt m (v i) x)=dt n (fun i=>v i a) (fun i=>v i a):=by
  have u:∀i,dt m (v i) x=v i a:=fun i=>by rw[mJ z (v i) x (fun j _ d=>by rw[D j d,Rat.mul_zero]),A,Rat.mul_one]
  exact df (fun i _=>u i) (fun i _=>u i)
 rw[G]at k
 exact k
theorem Mb{r c:Nat}{A:List Nat}(h:iL r c A){i k:Nat}(u:i<c)(z:k<c):ab (((sN c c (cj r c A) i k:Int):Rat)*p2 (-2148))≤36000/9007199254740992:=by
 have e:((sN c c (cj r c A) i k:Int):Rat)*p2 (-2148)=dt c (fun j=>cI c (gT r c A).V j ((ef r c A).getD i 0)) (fun j=>cI c (gT r c A).V j ((ef r c A).getD k 0))-(if i=k then 1 else 0):=by
  obtain⟨K,G,O⟩:=je 2148
  have H:((2:Int)^2148:Int)=((K:Nat):Int):=lL G
  have I:(K:Rat)*p2 (-2148)=1:=by
   have e:=pz (-2148) 2148
   rw[G,show(-2148:Int)+((2148:Nat):Int)=0 by rfl,ji]at e
   exact e.symm
  unfold sN
  rw[Rat.intCast_sub,H,Rat.sub_eq_add_neg,Rat.add_mul,Rat.neg_mul,←Rat.sub_eq_add_neg,←nN]
  have J:dt c (fun j=>fQ (aQ c (cj r c A) j i)) (fun j=>fQ (aQ c (cj r c A) j k))=dt c (fun j=>cI c (gT r c A).V j ((ef r c A).getD i 0)) (fun j=>cI c (gT r c A).V j ((ef r c A).getD k 0)):=
   df (fun j D=>by rw[yM r c A D u];rfl) (fun j D=>by rw[yM r c A D z];rfl)
  have L:(((if i=k then((K:Nat):Int)else 0:Int)):Rat)*p2 (-2148)=if i=k then 1 else 0:=by
   by_cases d:i=k
   ·rw[if_pos d,if_pos d,show(((K:Nat):Int):Rat)=(K:Rat)from rfl]
    exact I
   ·rw[if_neg d,if_neg d]
    exact Rat.zero_mul _
  rw[J,L]
 rw[e]
 have F:=lN r c A u;have N:=lN r c A z
 by_cases d:i=k
 ·subst d
  rw[if_pos rfl]
  exact EM h.iso F
 ·rw[if_neg d,Rat.sub_eq_add_neg,Rat.neg_zero,Rat.add_zero]
  exact(uW h.iso F N (Hl r c A u z d)).1
theorem vd{x b:Rat}(h:ab x≤b):x*x≤b*b:=by
 have d:=cS x
 have u:=Rat.mul_le_mul_of_nonneg_left h d
 have z:=Rat.mul_le_mul_of_nonneg_right h (Rat.le_trans d h)
 rw[cH]at u
 exact Rat.le_trans u z
theorem lO{n:Nat}(u:n≤6){f:Nat→Rat}{b:Rat}(z:0≤b)(h:∀i,i<n→f i≤b):sm n f≤6*b:=by
 have k:=Cu (g:=fun _=>b) h
 rw[uS]at k
 have d:(n:Rat)≤6:=Rat.natCast_le_natCast.2 u
 exact Rat.le_trans k (Rat.mul_le_mul_of_nonneg_right d z)
theorem Az{r c:Nat}{A:List Nat}(h:iL r c A)(D:c≤6):Kv c c (cj r c A)*2^70≤2^4296:=by
 obtain⟨K,F,U⟩:=je 4296
 have I:((2:Int)^4296:Int)=((K:Nat):Int):=lL F
 have J:(K:Rat)*p2 (-4296)=1:=by
  have e:=pz (-4296) 4296
  rw[F,show(-4296:Int)+((4296:Nat):Int)=0 by rfl,ji]at e
  exact e.symm
 have L:p2 (-2148)*p2 (-2148)=p2 (-4296):=by rw[←aU];rfl
 have d:((2:Int)^70:Int)=((1180591620717411303424:Nat):Int):=by decide
 rw[I,d]
 refine u7 (aE (-4296)) ?_
 have N:(((K:Nat):Int):Rat)=(K:Rat):=rfl
 rw[N,J]
 unfold Kv
 rw[gR,←jf]
 have O:(0:Rat)≤36000/9007199254740992*(36000/9007199254740992):=by grind
 have k:=lO D (b:=6*(36000/9007199254740992*(36000/9007199254740992))) (f:=fun i=>((cR (fun k=>sN c c (cj r c A) i k*sN c c (cj r c A) i k) c:Int):Rat)*p2 (-4296)) (by grind) (fun i G=>by
  show((cR (fun k=>sN c c (cj r c A) i k*sN c c (cj r c A) i k) c:Int):Rat)*p2 (-4296)≤_
  rw[gR,←jf]
  refine lO D O (fun k H=>?_)
  have q:=vd (Mb h G H)
  rw[Rat.intCast_mul,←L]
  generalize ((sN c c (cj r c A) i k:Int):Rat)=z at*
  generalize p2 (-2148)=u at*
  rw[show z*z*(u*u)=z*u*(z*u) by grind]
  exact q)
 have Q:((1180591620717411303424:Nat):Rat)=1180591620717411303424:=rfl
 rw[Q]
 have k2:=Rat.mul_le_mul_of_nonneg_left k (show(0:Rat)≤1180591620717411303424 by grind)
 refine Rat.le_trans k2 ?_
 grind
theorem Hn{n m a:Nat}(u:a<m)(R:Nat→Nat→Rat){β:Rat}(h:pF n m R β):Bd n (fun i=>R i a) β:=by
 obtain⟨x,D⟩:∃x:Nat→Rat,x=fun j=>if j=a then 1 else 0:=⟨_,rfl⟩
 have z:x a=1:=by rw[D];exact if_pos rfl
 have A:∀j,j≠a→x j=0:=fun j d=>by rw[D];exact if_neg d
 have e:dt m x x=1:=by
  rw[mJ u x x (fun j _ d=>by rw[A j d,Rat.zero_mul]),z,Rat.mul_one]
 have k:=h x 1 (by grind) (by rw[e];grind)
 rw[Rat.mul_one]at k
 refine k.congr (fun i _=>?_)
 rw[mJ u (R i) x (fun j _ d=>by rw[A j d,Rat.mul_zero]),z,Rat.mul_one]
theorem yQ{m:Nat}{w x:Nat→Rat}(h:∀j,j<m→w j=0):dt m w x=0:=by
 rw[df (y:=x) (y':=x) (x':=fun _=>0) h (fun _ _=>rfl)]
 unfold dt
 rw[fg (g:=fun _=>0) (fun _ _=>Rat.zero_mul _),uS]
 exact Rat.mul_zero _
theorem yR(c:Nat){k j:Nat}(d:k<c)(u:j<c):cI c (iM c) k j=if k=j then 1 else 0:=by
 unfold cI iM aQ
 rw[yk c c _ d u]
 by_cases h:k=j
 ·rw[if_pos h,if_pos h.symm];exact gQ
 ·rw[if_neg h,if_neg (fun e=>h e.symm)];exact bm 0 (by decide)
theorem AH(r c:Nat)(S:List Nat):pF r c (AL c (cI c S) (cI c S) (cI c (iM c))) 0:=by
 have e:∀i j,j<c→AL c (cI c S) (cI c S) (cI c (iM c)) i j=0:=fun i j d=>by
  unfold AL
  rw[mJ d (cI c S i) (fun k=>cI c (iM c) k j) (fun k u h=>by show _*cI c (iM c) k j=0;rw[yR c u d,if_neg h,Rat.mul_zero])]
  show cI c S i j-cI c S i j*cI c (iM c) j j=0
  rw[yR c d d,if_pos rfl]
  grind
 intro x t z _
 refine⟨by rw[Rat.zero_mul];exact Rat.le_refl,?_⟩
 rw[yQ (fun i _=>yQ (fun j d=>e i j d)),Rat.zero_mul,Rat.zero_mul]
 exact Rat.le_refl
theorem ni{r c:Nat}{S:List Nat}(d:S.length=r*c):sm r (fun i=>dt c (cI c S i) (cI c S i))=bT S:=by
 rw[u6,uq r c S d,gR,←jf]
 exact fg (fun i _=>by
  show dt c (cI c S i) (cI c S i)=_
  exact nN c (aQ c S i) (aQ c S i))
theorem Ho{r c:Nat}{S:List Nat}(d:S.length=r*c){F:Rat}(hF:0≤F)(h:bT S≤F*F):pF r c (cI c S) F:=by
 intro x t u z
 refine⟨Rat.mul_nonneg hF u,?_⟩
 have k:dt r (fun i=>dt c (cI c S i) x) (fun i=>dt c (cI c S i) x)≤sm r (fun i=>dt c (cI c S i) (cI c S i)*dt c x x):=Cu (fun i _=>H7 c (cI c S i) x)
 rw[jf,ni d]at k
 have a:=Rat.mul_le_mul_of_nonneg_right h (k7 c x)
 have b:=Rat.mul_le_mul_of_nonneg_left z (Rat.mul_nonneg hF hF)
 rw[show F*t*(F*t)=F*F*(t*t) by grind]
 exact Rat.le_trans k (Rat.le_trans a b)
theorem EN{r c:Nat}{S:List Nat}{B:Rat}(d:S.length=r*c)(u:r≤6)(z:0≤B)(h:cn r c S B):bT S≤6*B:=by
 rw[←ni d]
 refine lO u z (fun i A=>?_)
 have k:=h.sq i A
 rw[dP]at k
 exact k
theorem ve{s:Rat}(u:1≤s)(z:s≤144):∃F:Rat,1≤F∧s≤F*F∧F*F≤4*s:=by
 rcases Rat.le_total (a:=s) (b:=4)with g|g
 ·exact⟨2,by grind,by grind,by grind⟩
 ·rcases Rat.le_total (a:=s) (b:=16)with d|d
  ·exact⟨4,by grind,by grind,by grind⟩
  ·rcases Rat.le_total (a:=s) (b:=64)with h|h
   ·exact⟨8,by grind,by grind,by grind⟩
   ·exact⟨12,by grind,by grind,by grind⟩
theorem bZ.endR{A:List Nat}{k:Int}(h:bZ A k){r c:Nat}(D:A.length=r*c)(u:r≤6)(G:c≤6):
  ∃F:Rat,1≤F∧F*F≤4*bT (fY A (-k))∧pF r c (AL c (cI c (fY A (-k))) (cI c (gT r c A).W) (cI c (gT r c A).V)) (16200/9007199254740992*F):=by
 have K:A.length≤36:=by rw[D];exact Nat.mul_le_mul u G
 obtain⟨O,Q,U,_⟩:=h.low (by omega)
 have H:(fY A (-k)).length=r*c:=by rw[jU];exact D
 have I:=h.rows D G
 obtain⟨F,J,X,Y⟩:=ve O (Rat.le_trans (EN H u (by grind) I) (by grind))
 refine⟨F,J,Y,?_⟩
 have z:((0:Nat):Rat)*(1/1099511627776)=0:=by
  have:((0:Nat):Rat)=0:=rfl
  rw[this,Rat.zero_mul]
 have z2:((0:Nat):Rat)*(40/9007199254740992)=0:=by
  have:((0:Nat):Rat)=0:=rfl
  rw[this,Rat.zero_mul]
 have L:((0:Nat):Rat)*(18/9007199254740992*F)=0:=by
  have:((0:Nat):Rat)=0:=rfl
  rw[this,Rat.zero_mul]
 have d:mK r c (fY A (-k)) F 24 ⟨fY A (-k),iM c,false⟩ 0:=by
  refine⟨⟨⟨by rw[z,Rat.add_zero];exact I,by rw[z,Rat.add_zero];exact px c⟩,?_⟩,?_⟩
  ·unfold EA
   rw[z2]
   exact sc c
  ·unfold Km
   rw[L]
   exact AH r c _
 have e:=(mK.rounds J (Ho H (by grind) X) (yJ u Q U) d (by grind) u G 60 (Nat.le_refl _)).2
 unfold Km at e
 have N:(((15*60:Nat):Nat):Rat)*(18/9007199254740992*F)=16200/9007199254740992*F:=by
  have:(((15*60:Nat):Nat):Rat)=900:=rfl
  rw[this];grind
 rw[N]at e
 unfold gT
 rw[h.key]
 exact e
theorem vf(a b:Rat):(a+b)*(a+b)≤2*(a*a)+2*(b*b):=by
 have:=aw (a-b)
 grind
theorem xy{A:List Nat}{k:Int}(h:bZ A k){r c:Nat}(z:A.length=r*c)(H:r≤6)(I:c≤6){i j:Nat}(D:i<r)(F:j<c):
  ∃δ:Rat,ab δ≤p2 (-1075)∧((sM c c (cG r c A) A (cj r c A) i j:Int):Rat)*p2 (-2148)=p2 k*AL c (cI c (fY A (-k))) (cI c (gT r c A).W) (cI c (gT r c A).V) i ((ef r c A).getD j 0)+δ:=by
 have E:=h.end19 z H I
 have u:=(E.back D F).2
 rw[h.key]at u
 refine⟨_,u,?_⟩
 obtain⟨K,G,Z⟩:=je 1074
 have J:((2:Int)^1074:Int)=((K:Nat):Int):=lL G
 have L:(K:Rat)*p2 (-1074)=1:=by
  have e:=pz (-1074) 1074
  rw[G,show(-1074:Int)+((1074:Nat):Int)=0 by rfl,ji]at e
  exact e.symm
 have N:p2 k*p2 (-k)=1:=by rw[←aU,show k+-k=0 by omega];exact ji
 unfold sM
 rw[Rat.intCast_sub,Rat.intCast_mul,J,Rat.sub_eq_add_neg,Rat.add_mul,Rat.neg_mul,←Rat.sub_eq_add_neg,←nN]
 have O:((fZ (aQ c (cG r c A) i j):Int):Rat)*(((K:Nat):Int):Rat)*p2 (-2148)=fQ (aQ c (cG r c A) i j):=by
  have Q:(((K:Nat):Int):Rat)=(K:Rat):=rfl
  rw[Q,←uY]
  unfold fQ
  rw[show((fZ (aQ c (cG r c A) i j):Int):Rat)*(K:Rat)*(p2 (-1074)*p2 (-1074))=((fZ (aQ c (cG r c A) i j):Int):Rat)*p2 (-1074)*((K:Rat)*p2 (-1074)) by grind,L,Rat.mul_one]
 rw[O]
 have U:dt c (fun l=>fQ (aQ c A i l)) (fun l=>fQ (aQ c (cj r c A) l j))=p2 k*dt c (cI c (fY A (-k)) i) (fun l=>cI c (gT r c A).V l ((ef r c A).getD j 0)):=by
  rw[←jz]
  refine df (fun l d=>?_) (fun l d=>?_)
  ·have u:i*c+l<A.length:=by rw[z];exact dg D d
   have X:aQ c (fY A (-k)) i l=xV (aQ c A i l) (-k):=by
    unfold aQ fY
    rw[List.getD_eq_getElem?_getD,List.getElem?_map,List.getElem?_range u]
    rfl
   have Y:aQ c A i l∈A:=by
    unfold aQ
    rw[List.getD_eq_getElem?_getD,List.getElem?_eq_getElem u]
    exact List.getElem_mem u
   show fQ (aQ c A i l)=p2 k*fQ (aQ c (fY A (-k)) i l)
   rw[X,(h.one Y).2.1,show p2 k*(fQ (aQ c A i l)*p2 (-k))=fQ (aQ c A i l)*(p2 k*p2 (-k)) by grind,N,Rat.mul_one]
  ·rw[yM r c A d F];rfl
 rw[U]
 show _=p2 k*(fQ (aQ c (gT r c A).W i ((ef r c A).getD j 0))-dt c (cI c (fY A (-k)) i) (fun l=>cI c (gT r c A).V l ((ef r c A).getD j 0)))+_
 grind
theorem AJ{A:List Nat}{k:Int}(h:bZ A k){r c:Nat}(K:A.length=r*c)(F:r≤6)(L:c≤6){β:Rat}(G:pF r c (AL c (cI c (fY A (-k))) (cI c (gT r c A).W) (cI c (gT r c A).V)) β){j:Nat}(H:j<c):
  sm r (fun i=>((sM c c (cG r c A) A (cj r c A) i j*sM c c (cG r c A) A (cj r c A) i j:Int):Rat)*p2 (-4296))≤2*(p2 k*p2 k*(β*β))+12*(p2 (-1075)*p2 (-1075)):=by
 have O:p2 (-2148)*p2 (-2148)=p2 (-4296):=by rw[←aU];rfl
 obtain⟨R,I⟩:∃R,AL c (cI c (fY A (-k))) (cI c (gT r c A).W) (cI c (gT r c A).V)=R:=⟨_,rfl⟩
 have D:∀i,i<r→((sM c c (cG r c A) A (cj r c A) i j*sM c c (cG r c A) A (cj r c A) i j:Int):Rat)*p2 (-4296)≤2*(p2 k*p2 k*(R i ((ef r c A).getD j 0)*R i ((ef r c A).getD j 0)))+2*(p2 (-1075)*p2 (-1075)):=fun i N=>by
  obtain⟨δ,Z,J⟩:=xy h K F L N H
  rw[I]at J
  have Q:=vd Z
  rw[Rat.intCast_mul,←O]
  generalize ((sM c c (cG r c A) A (cj r c A) i j:Int):Rat)=z at*
  generalize p2 (-2148)=u at*
  rw[show z*z*(u*u)=z*u*(z*u) by grind,J]
  generalize R i ((ef r c A).getD j 0)=ρ at*
  have t:=vf (p2 k*ρ) δ
  rw[show p2 k*ρ*(p2 k*ρ)=p2 k*p2 k*(ρ*ρ) by grind]at t
  have s:=Rat.mul_le_mul_of_nonneg_left Q (show(0:Rat)≤2 by grind)
  exact Rat.le_trans t (Rat.add_le_add_left.2 s)
 refine Rat.le_trans (Cu D) ?_
 rw[Ct,rA,rA]
 rw[I]at G
 have U:=(Hn (lN r c A H) R G).2
 have P:=aE k
 have X:=Rat.mul_le_mul_of_nonneg_left (Rat.mul_le_mul_of_nonneg_left U (Rat.le_of_lt (Rat.mul_pos P P))) (show(0:Rat)≤2 by grind)
 have d:=aE (-1075)
 have n0:=Rat.mul_nonneg (Rat.le_of_lt d) (Rat.le_of_lt d)
 have Y:sm r (fun _=>2*(p2 (-1075)*p2 (-1075)))≤12*(p2 (-1075)*p2 (-1075)):=by
  have:=lO F (b:=2*(p2 (-1075)*p2 (-1075))) (f:=fun _=>2*(p2 (-1075)*p2 (-1075))) (by grind) (fun _ _=>Rat.le_refl)
  grind
 exact Rat.le_trans (Rat.add_le_add_right.2 X) (Rat.add_le_add_left.2 Y)
theorem su{u e f s F2 d:Rat}(z:d=262440000/81129638414606681695789005144064*F2)(hF:F2≤4*s)(A:1≤s)(h:0≤u)(F:e≤f*u)(D:1208925819614629174706176*f≤1):
  1180591620717411303424*(6*(2*(u*d)+12*e))≤u*s:=by
 have a:=Rat.mul_le_mul_of_nonneg_left hF h
 have b:=Rat.mul_le_mul_of_nonneg_left A h
 have c:=Rat.mul_le_mul_of_nonneg_right D h
 subst z
 rw[show u*(262440000/81129638414606681695789005144064*F2)=262440000/81129638414606681695789005144064*(u*F2) by grind]
 rw[show 1208925819614629174706176*f*u=1208925819614629174706176*(f*u) by grind]at c
 rw[show u*(4*s)=4*(u*s) by grind]at a
 generalize u*F2=G at*
 generalize u*s=H at*
 generalize f*u=I at*
 grind
theorem sv{A:List Nat}{r c:Nat}(D:A.length=r*c)(G:r≤6)(u:c≤6)(Z:(∃k,bZ A k)∨∀x∈A,fK x=0∧x<18446744073709551616):
  GD r c c (cG r c A) A (cj r c A)*2^70≤Ab A*2^2148:=by
 obtain⟨K,Y,ah⟩:=je 2148
 have eP:((2:Int)^2148:Int)=((K:Nat):Int):=lL Y
 have I:((2:Int)^70:Int)=((1180591620717411303424:Nat):Int):=by decide
 rw[eP,I]
 rcases Z with⟨k,h⟩|h
 ·have eK:(K:Rat)*p2 (-2148)=1:=by
   have e:=pz (-2148) 2148
   rw[Y,show(-2148:Int)+((2148:Nat):Int)=0 by rfl,ji]at e
   exact e.symm
  have N:p2 (-2148)*p2 (-2148)=p2 (-4296):=by rw[←aU];rfl
  have ae:A.length≤36:=by rw[D];exact Nat.mul_le_mul G u
  obtain⟨s1,_,_,_⟩:=h.low (by omega)
  obtain⟨F,f1,f2,f3⟩:=h.endR D G u
  refine u7 (aE (-4296)) ?_
  have en:((1180591620717411303424:Nat):Rat)=1180591620717411303424:=rfl
  rw[en,Rat.intCast_mul]
  have ec:(((K:Nat):Int):Rat)=(K:Rat):=rfl
  rw[ec,←N,show((Ab A:Int):Rat)*(K:Rat)*(p2 (-2148)*p2 (-2148))=((Ab A:Int):Rat)*p2 (-2148)*((K:Rat)*p2 (-2148)) by grind,eK,Rat.mul_one,←u6,N]
  have P:=aE k
  have KK:=Rat.mul_pos P P
  have d:=aE (-1075)
  have n0:=Rat.mul_nonneg (Rat.le_of_lt d) (Rat.le_of_lt d)
  have sw:((GD r c c (cG r c A) A (cj r c A):Int):Rat)*p2 (-4296)≤6*(2*(p2 k*p2 k*(16200/9007199254740992*F*(16200/9007199254740992*F)))+12*(p2 (-1075)*p2 (-1075))):=by
   unfold GD
   rw[Dx,gR,←jf]
   refine lO u ?_ (fun j H=>?_)
   ·have:=Rat.mul_nonneg (Rat.le_of_lt KK) (aw (16200/9007199254740992*F))
    generalize p2 k*p2 k*(16200/9007199254740992*F*(16200/9007199254740992*F))=v1 at*
    grind
   ·rw[gR,←jf]
    exact AJ h D G u f3 H
  refine Rat.le_trans (Rat.mul_le_mul_of_nonneg_left sw (show(0:Rat)≤1180591620717411303424 by grind)) ?_
  have kS:p2 k*p2 k*bT (fY A (-k))=bT A:=by
   rw[h.sumS]
   have e:p2 k*p2 (-k)=1:=by rw[←aU,show k+-k=0 by omega];exact ji
   rw[show p2 k*p2 k*(bT A*(p2 (-k)*p2 (-k)))=bT A*((p2 k*p2 (-k))*(p2 k*p2 (-k))) by grind,e]
   grind
  rw[←kS]
  have O:=aS (show-1075≤-80+k by have:=h.up;omega)
  have Q:=Rat.mul_le_mul_of_nonneg_left O (Rat.le_of_lt d)
  have m3:=Rat.mul_le_mul_of_nonneg_right O (Rat.le_of_lt (aE (-80+k)))
  have m4:=Rat.le_trans Q (by rw[Rat.mul_comm];exact Rat.le_refl (a:=p2 (-80+k)*p2 (-1075)))
  have U:p2 (-1075)*p2 (-1075)≤p2 (-80+k)*p2 (-80+k):=Rat.le_trans Q m3
  rw[show p2 (-80+k)*p2 (-80+k)=(p2 (-80)*p2 (-80))*(p2 k*p2 k) by rw[aU];grind]at U
  refine su (f:=p2 (-80)*p2 (-80)) (F2:=F*F) (by grind) f2 s1 (Rat.le_of_lt KK) U ?_
  have J:=Kq
  have L:p2 (-80)≤1:=by
   have:=aS (show(-80:Int)≤0 by decide)
   rw[ji]at this;exact this
  have q:=aE (-80)
  rw[show 1208925819614629174706176*(p2 (-80)*p2 (-80))=p2 (-80)*(p2 (-80)*1208925819614629174706176) by grind,J,Rat.mul_one]
  exact L
 ·have X:∀i l,fZ (aQ c A i l)=0:=fun i l=>by
   refine sr ?_
   unfold aQ
   rw[List.getD_eq_getElem?_getD]
   cases e:A[i*c+l]? with
   |none=>decide
   |some v=>exact(h v (List.mem_of_getElem? e)).1
  have e:GD r c c (cG r c A) A (cj r c A)=0:=by
   unfold GD
   rw[iH (g:=fun _=>0) r (fun i hi=>?_),g8]
   rw[iH (g:=fun _=>0) c (fun j H=>?_),g8]
   have z:sM c c (cG r c A) A (cj r c A) i j=0:=by
    unfold sM Ac
    rw[iH (g:=fun _=>0) c (fun l aa=>by rw[X,Int.zero_mul]),g8,It r c A hi H,nh (fun x hx=>(h x hx).1)]
    have z0:fK (aQ c A i ((ef r c A).getD j 0))=0:=by
     unfold aQ
     rw[List.getD_eq_getElem?_getD (l:=A)]
     cases e:A[i*c+(ef r c A).getD j 0]? with
     |none=>decide
     |some v=>exact(h v (List.mem_of_getElem? e)).1
    show fZ (xV (aQ c A i ((ef r c A).getD j 0)) (uM A))*_-0=0
    rw[iC _ _ z0,X,Int.zero_mul]
    rfl
   rw[z]
   rfl
  rw[e,Int.zero_mul]
  have s0:0≤Ab A:=by unfold Ab;exact wI _ (fun i _=>oZ _)
  exact Int.mul_nonneg s0 (Int.natCast_nonneg K)
end Go.Proofs.YtcbcmlaogehimaaGreatDoor
