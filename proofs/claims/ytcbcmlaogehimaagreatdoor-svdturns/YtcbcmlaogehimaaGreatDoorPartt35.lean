/- Part 35 of the texts. -/
import Derived.Test.YtcbcmlaogehimaaGreatDoorPartt34
namespace Go.Proofs.YtcbcmlaogehimaaGreatDoor
def pF(r c:Nat)(R:Nat→Nat→Rat)(β:Rat):Prop:=∀(x:Nat→Rat) (t:Rat),0≤t→dt c x x≤t*t→Bd r (fun i=>dt c (R i) x) (β*t)
theorem pF.turn{r m p q:Nat}(z:p<m)(A:q<m)(u:p≠q){c s β γ:Rat}{R R':Nat→Nat→Rat}{e f:Nat→Rat}(h:pF r m R β)(H:562949953421312*ab (c*c+s*s-1)≤1)
  (I:Bd r e γ) (J:Bd r f γ) (K:∀i,i<r→R' i p=c*R i p+s*R i q+e i) (L:∀i,i<r→R' i q=c*R i q-s*R i p+f i)
  (N:∀i,i<r→∀j,j<m→j≠p→j≠q→R' i j=R i j):pF r m R' (β+1/562949953421312*β+2*γ):=by
 intro x t ht hx
 have pq:=Ey z A u x
 have x0:=aw (x p);have y0:=aw (x q)
 --the vector turned
 have g:dt m (jh p q c s x) (jh p q c s x)≤(t+1/562949953421312*t)*(t+1/562949953421312*t):=by
  rw[Is z A u c s x]
  have l:=br (c*c+s*s-1)
  have O:0≤x p*x p+x q*x q:=by grind
  have F:=Rat.mul_le_mul_of_nonneg_right (show 562949953421312*(c*c+s*s-1)≤1 by grind) O
  rw[show 562949953421312*(c*c+s*s-1)*(x p*x p+x q*x q)=562949953421312*((c*c+s*s-1)*(x p*x p+x q*x q)) by grind]at F
  have tt:=aw t
  rw[show(t+1/562949953421312*t)*(t+1/562949953421312*t)=t*t+2/562949953421312*(t*t)+1/316912650057057350374175801344*(t*t) by grind]
  generalize (c*c+s*s-1)*(x p*x p+x q*x q)=w1 at*
  generalize t*t=w2 at*
  generalize x p*x p=w3 at*
  generalize x q*x q=w4 at*
  grind
 have Q:=h (jh p q c s x) (t+1/562949953421312*t) (by grind) g
 have d:∀k:Rat,k*k≤t*t→∀y:Nat→Rat,Bd r y γ→Bd r (fun i=>k*y i) (γ*t):=by
  intro k hk y G
  refine⟨Rat.mul_nonneg G.1 ht,?_⟩
  rw[jz,f6]
  have U:=G.2
  have F:=Rat.mul_le_mul_of_nonneg_left U (aw k)
  have X:=Rat.mul_le_mul_of_nonneg_right hk (aw γ)
  rw[show k*(k*dt r y y)=k*k*dt r y y by grind,show γ*t*(γ*t)=t*t*(γ*γ) by grind]
  exact Rat.le_trans F X
 have Y:=d (x p) (by grind) e I
 have Z:=d (x q) (by grind) f J
 have B:=(Q.add Y).add Z
 have E:dt r (fun i=>dt m (R' i) x) (fun i=>dt m (R' i) x)=dt r (fun i=>dt m (R i) (jh p q c s x)+x p*e i+x q*f i) (fun i=>dt m (R i) (jh p q c s x)+x p*e i+x q*f i):=by
  have k:∀i,i<r→dt m (R' i) x=dt m (R i) (jh p q c s x)+x p*e i+x q*f i:=fun i D=>by
   rw[uU z A u c s (e i) (f i) (R i) (R' i) x (K i D) (L i D) (N i D)]
   grind
  exact df k k
 have b:=B.2
 have n:=B.1
 have eq:β*(t+1/562949953421312*t)+γ*t+γ*t=(β+1/562949953421312*β+2*γ)*t:=by grind
 rw[eq]at b n
 exact⟨n,by rw[E];exact b⟩
def AL(m:Nat)(S W V:Nat→Nat→Rat)(i j:Nat):Rat:=W i j-dt m (S i) (fun k=>V k j)
theorem pF.vec{r m:Nat}{S:Nat→Nat→Rat}{F γ:Rat}(h:pF r m S F){y:Nat→Rat}(d:Bd m y γ):Bd r (fun i=>dt m (S i) y) (F*γ):=h y γ d.1 d.2
theorem Ez{r m p q:Nat}(J:p<m)(K:q<m)(D:p≠q){c s β γ δ F:Rat}{S W V u d:Nat→Nat→Rat}{e f g k:Nat→Rat}(L:pF r m S F)(h:pF r m (AL m S W V) β)(G:562949953421312*ab (c*c+s*s-1)≤1)
  (N:Bd r e γ) (O:Bd r f γ) (Q:Bd m g δ) (U:Bd m k δ) (X:∀i,i<r→u i p=c*W i p+s*W i q+e i) (Y:∀i,i<r→u i q=c*W i q-s*W i p+f i)
  (Z:∀i,i<r→∀j,j<m→j≠p→j≠q→u i j=W i j) (v1:∀i,i<m→d i p=c*V i p+s*V i q+g i) (v2:∀i,i<m→d i q=c*V i q-s*V i p+k i)
  (v3:∀i,i<m→∀j,j<m→j≠p→j≠q→d i j=V i j):pF r m (AL m S u d) (β+1/562949953421312*β+2*(γ+F*δ)):=by
 have neg:∀y:Nat→Rat,Bd m y δ→Bd r (fun i=>-1*dt m (S i) y) (F*δ):=fun y hy=>by
  have b:=(L.vec hy).mul (-1)
  rw[show ab (-1:Rat)=1 by unfold ab;grind,Rat.one_mul]at b
  exact b
 refine h.turn J K D G (N.add (neg g Q)) (O.add (neg k U)) (fun i z=>?_) (fun i z=>?_) (fun i z j I a b=>?_)
 ·have H:dt m (S i) (fun l=>d l p)=c*dt m (S i) (fun l=>V l p)+s*dt m (S i) (fun l=>V l q)+dt m (S i) g:=by
   rw[df (x:=S i) (x':=S i) (y:=fun l=>d l p) (y':=fun l=>c*V l p+s*V l q+g l) (fun _ _=>rfl) (fun l A=>v1 l A),ej,ej,f6,f6]
  show u i p-dt m (S i) (fun l=>d l p)=c*(W i p-dt m (S i) (fun l=>V l p))+s*(W i q-dt m (S i) (fun l=>V l q))+(e i+-1*dt m (S i) g)
  rw[H,X i z]
  grind
 ·have H:dt m (S i) (fun l=>d l q)=c*dt m (S i) (fun l=>V l q)+-s*dt m (S i) (fun l=>V l p)+dt m (S i) k:=by
   rw[df (x:=S i) (x':=S i) (y:=fun l=>d l q) (y':=fun l=>c*V l q+-s*V l p+k l) (fun _ _=>rfl) (fun l A=>by rw[v2 l A];grind),ej,ej,f6,f6]
  show u i q-dt m (S i) (fun l=>d l q)=c*(W i q-dt m (S i) (fun l=>V l q))-s*(W i p-dt m (S i) (fun l=>V l p))+(f i+-1*dt m (S i) k)
  rw[H,Y i z]
  grind
 ·show u i j-dt m (S i) (fun l=>d l j)=W i j-dt m (S i) (fun l=>V l j)
  rw[Z i z j I a b,df (x:=S i) (x':=S i) (y:=fun l=>d l j) (y':=fun l=>V l j) (fun _ _=>rfl) (fun l A=>v3 l A j I a b)]
def cI(c:Nat)(S:List Nat)(i j:Nat):Rat:=fQ (aQ c S i j)
theorem uV.mono{n m:Nat}{v:Nat→Nat→Rat}{ε δ:Rat}(h:uV n m v ε)(d:ε≤δ):uV n m v δ:=fun x=>Rat.le_trans (h x) (Rat.mul_le_mul_of_nonneg_right d (k7 m x))
def EA(c:Nat)(s:Sd)(n:Nat):Prop:=uV c c (cI c s.V) ((n:Rat)*(40/9007199254740992))
theorem xk{m n:Nat}(h:m≤n):(m:Rat)*(40/9007199254740992)≤(n:Rat)*(40/9007199254740992):=Rat.mul_le_mul_of_nonneg_right (Rat.natCast_le_natCast.2 h) (by grind)
theorem lK{n:Nat}(h:n≤4000):1000*((n:Rat)*(40/9007199254740992))≤1∧0≤(n:Rat)*(40/9007199254740992):=by
 have:=xk h
 have e:((4000:Nat):Rat)=4000:=rfl
 rw[e]at this
 exact⟨by grind,Rat.mul_nonneg Rat.natCast_nonneg (by grind)⟩
theorem EB{a b B:Rat}(h:a*a+b*b≤B)(d:1000*B≤1001):1000*(ab a+ab b)≤1416:=by
 have z:=aw (ab a-ab b)
 have u:=cH a;have A:=cH b
 have D:=cS a;have F:=cS b
 have k:(ab a+ab b)*(ab a+ab b)≤2002/1000:=by grind
 rcases Rat.le_total (a:=1000*(ab a+ab b)) (b:=1416)with g|g
 ·exact g
 ·have m:=Rat.mul_le_mul_of_nonneg_right g (show 0≤ab a+ab b by grind)
  rw[show 1000*(ab a+ab b)*(ab a+ab b)=1000*((ab a+ab b)*(ab a+ab b)) by grind]at m
  grind
theorem EF{c:Nat}{S:List Nat}{B:Rat}(h:cn c c S B)(K:1000*B≤1001)(L:c≤6){p q C s:Nat}(u:p<c)(z:q<c)(A:p≠q)(fc:aj C=true)(N:aj s=true)
  (D:562949953421312*ab (fQ C*fQ C+fQ s*fQ s-1)≤1) {ε:Rat} (O:uV c c (cI c S) ε) (H:1000*ε≤1) (F:0≤ε):uV c c (cI c (gq c c S p q C s)) (ε+40/9007199254740992):=by
 obtain⟨Y,Z⟩:=lH D
 obtain⟨n1,n2,n3⟩:=dH
 have G:B≤100:=by grind
 have I:=fun i (d:i<c)=>lG C s (aQ c S i p) (aQ c S i q) fc N (h.fin i p d u) (h.fin i q d z) Y Z (by have:=h.small G d u;grind) (by have:=h.small G d z;grind)
 have J:=fun i (d:i<c)=>EB (B:=B) (a:=fQ (aQ c S i p)) (b:=fQ (aQ c S i q)) (by
  have k:=Ey u z A (fun j=>fQ (aQ c S i j))
  have k2:=h.sq i d
  rw[dP]at k2
  exact Rat.le_trans k k2) K
 refine O.turn L u z A H F D (fun i d=>?_) (fun i d=>?_) (fun i d j Q U X=>?_)
 ·obtain⟨_,_,a3,_⟩:=I i d
  have b:=J i d
  show 9007199254740992*ab (fQ (aQ c (gq c c S p q C s) i p)-(fQ C*fQ (aQ c S i p)+fQ s*fQ (aQ c S i q)))≤3
  rw[bV c c S p q C s u z d u,if_pos rfl]
  grind
 ·obtain⟨_,_,_,a4⟩:=I i d
  have b:=J i d
  show 9007199254740992*ab (fQ (aQ c (gq c c S p q C s) i q)-(fQ C*fQ (aQ c S i q)-fQ s*fQ (aQ c S i p)))≤3
  rw[bV c c S p q C s u z d z,if_neg (fun h=>A h.symm),if_pos rfl]
  grind
 ·show fQ (aQ c (gq c c S p q C s) i j)=fQ (aQ c S i j)
  rw[bV c c S p q C s u z d Q,if_neg U,if_neg X]
def py(r c:Nat)(B:Rat)(s:Sd)(n:Nat):Prop:=uP r c B 1 s n∧EA c s n
theorem py.mono{r c:Nat}{B:Rat}{s:Sd}{m n:Nat}(h:py r c B s m)(d:m≤n):py r c B s n:=⟨h.1.mono d,uV.mono h.2 (xk d)⟩
theorem py.step{r c low p q n:Nat}{B:Rat}{s:Sd}(T:ig r c low)(h:py r c B s n)(d:n≤4000)(A:B≤99)(D:c≤6)(F:p<q)(u:q<c):py r c B (qJ r c low p q s) (n+1):=by
 refine⟨h.1.step T d A (by grind) F u,?_⟩
 unfold qJ
 split
 ·exact uV.mono h.2 (xk (by omega))
 next e=>
  have k:=mH d
  have G:B+(n:Rat)*(1/1099511627776)≤100:=by grind
  have k2:1000*(1+(n:Rat)*(1/1099511627776))≤1001:=by
   have:=rX d
   have H:((4000:Nat):Rat)=4000:=rfl
   rw[H]at this
   grind
  obtain⟨L,N⟩:=T s.W p q (h.1.1.mono G) (by omega) u (by cases h2:uE r c low s.W p q with|false=>rfl|true=>exact absurd h2 e)
  obtain⟨O,Q,U⟩:=kA _ L N
  have z:p9 (iJ r c s.W p q)<18446744073709551616:=de _ _
  have I:aj (fN (p9 (iJ r c s.W p q)))=true:=by rw[jO _ z];exact Q
  have J:=rY z U
  have K:((n+1:Nat):Rat)=(n:Rat)+1:=by rw[Rat.natCast_add];rfl
  obtain⟨z1,z2⟩:=lK d
  have w:=EF h.1.2 k2 D (p:=p) (q:=q) (by omega) u (by omega) O I J h.2 z1 z2
  unfold EA
  rw[K,Rat.add_mul,Rat.one_mul]
  exact w
theorem py.inner{r c low p n:Nat}{B:Rat}{s:Sd}(T:ig r c low)(h:py r c B s n)(d:B≤99)(u:c≤6):∀t,p+t<c→n+t≤4000→py r c B (nr r c low p s t) (n+t)
 |0,_,_=>h
 |t+1,ht,hn=>by
  have z:=py.inner (p:=p) T h d u t (by omega) (by omega)
  have e:nr r c low p s (t+1)=qJ r c low p (p+1+t) (nr r c low p s t):=rfl
  rw[e]
  exact py.step (q:=p+1+t) (n:=n+t) T z (by omega) d u (by omega) (by omega)
theorem py.outer{r c low n:Nat}{B:Rat}{s:Sd}(T:ig r c low)(h:py r c B s n)(d:B≤99)(u:c≤6):∀k,k≤c→n+Ep c k≤4000→py r c B (pg r c low s k) (n+Ep c k)
 |0,_,_=>h
 |k+1,hk,hn=>by
  have z:Ep c (k+1)=Ep c k+(c-1-k):=rfl
  rw[z]at hn⊢
  have A:=py.outer T h d u k (by omega) (by omega)
  have e:pg r c low s (k+1)=nr r c low k (pg r c low s k) (c-1-k):=rfl
  rw[e]
  exact(A.inner T d u (c-1-k) (by omega) (by omega)).mono (by omega)
theorem py.rounds{r c low:Nat}{B:Rat}{s:Sd}(T:ig r c low)(h:py r c B s 0)(z:B≤99)(d:c≤6):∀k,k≤60→py r c B (gD r c low s k) (15*k)
 |0,_=>h
 |k+1,hk=>by
  have A:=py.rounds T h z d k (by omega)
  have t:=Er d
  have e:gD r c low s (k+1)=if(gD r c low s k).still=true then gD r c low s k else AK r c low (gD r c low s k):=rfl
  rw[e]
  split
  ·exact A.mono (by omega)
  ·have D:AK r c low (gD r c low s k)=pg r c low ⟨(gD r c low s k).W,(gD r c low s k).V,true⟩ c:=rfl
   rw[D]
   have u:py r c B ⟨(gD r c low s k).W,(gD r c low s k).V,true⟩ (15*k):=A
   exact(u.outer T z d c (Nat.le_refl _) (by omega)).mono (by omega)
theorem h9:∀n,d7 (fun _=>0) n=0
 |0=>rfl
 |n+1=>by
  show d7 (fun _=>0) n+0=0
  rw[h9 n]
  grind
theorem mJ{m a:Nat}(d:a<m)(w x:Nat→Rat)(h:∀j,j<m→j≠a→w j*x j=0):dt m w x=w a*x a:=by
 have k:=gr (f:=fun j=>w j*x j) (g:=fun _=>0) (p:=a) (q:=m) (by omega) m (fun j u z _=>h j u z)
 rw[h9,if_pos d,if_neg (by omega),dP]at k
 show sm m (fun j=>w j*x j)=_
 rw[k]
 grind
theorem nM{m a b:Nat}(u:a<m)(z:b<m)(d:a≠b)(w x:Nat→Rat)(h:∀j,j<m→j≠a→j≠b→w j*x j=0):dt m w x=w a*x a+w b*x b:=by
 have k:=gr (f:=fun j=>w j*x j) (g:=fun _=>0) d m (fun j A D F=>h j A D F)
 rw[h9,if_pos u,if_pos z,dP]at k
 show sm m (fun j=>w j*x j)=_
 rw[k]
 grind
theorem sc(c:Nat):uV c c (cI c (iM c)) 0:=by
 intro x
 have e:∀i,i<c→dt c (cI c (iM c) i) x=x i:=fun i d=>by
  have z:∀j,j<c→cI c (iM c) i j=if j=i then 1 else 0:=fun j u=>by
   unfold cI
   have e:=lm c c (fun i k=>if k=i then 4607182418800017408 else 0) d u
   have A:aQ c (iM c) i j=if j=i then 4607182418800017408 else 0:=e
   rw[A]
   split
   ·exact gQ
   ·exact bm 0 (by decide)
  rw[mJ d _ x (fun j u h=>by rw[z j u,if_neg h];grind),z i d,if_pos rfl]
  grind
 rw[df e e,show dt c x x-dt c x x=0 by grind,jT]
 grind
def se(a b:Nat)(t:Rat)(j:Nat):Rat:=if j=a then 1 else if j=b then t else 0
theorem uW{n m a b:Nat}{v:Nat→Nat→Rat}{ε:Rat}(h:uV n m v ε)(D:a<m)(F:b<m)(d:a≠b):
  ab (dt n (fun i=>v i a) (fun i=>v i b))≤ε∧ab (dt n (fun i=>v i a) (fun i=>v i a)-1)≤ε:=by
 have u:∀t:Rat,ab (dt n (fun i=>v i a) (fun i=>v i a)+2*(t*dt n (fun i=>v i a) (fun i=>v i b))+t*t*dt n (fun i=>v i b) (fun i=>v i b)-(1+t*t))≤ε*(1+t*t):=by
  intro t
  have k:=h (se a b t)
  have G:se a b t a=1:=by unfold se;rw[if_pos rfl]
  have H:se a b t b=t:=by unfold se;rw[if_neg (fun h=>d h.symm),if_pos rfl]
  have I:∀j,j≠a→j≠b→se a b t j=0:=fun j z A=>by unfold se;rw[if_neg z,if_neg A]
  have J:∀i,i<n→dt m (v i) (se a b t)=v i a+t*v i b:=fun i _=>by
   rw[nM D F d _ _ (fun j _ z A=>by rw[I j z A];grind),G,H]
   grind
  have K:dt m (se a b t) (se a b t)=1+t*t:=by
   rw[nM D F d _ _ (fun j _ z A=>by rw[I j z A];grind),G,H]
   grind
  rw[df J J,K,oS,ej,ej,f6,jz n t,f6,jz n t,gz n (fun i=>v i b) (fun i=>v i a)]at k
  rw[show dt n (fun i=>v i a) (fun i=>v i a)+t*dt n (fun i=>v i a) (fun i=>v i b)+(t*dt n (fun i=>v i a) (fun i=>v i b)+t*(t*dt n (fun i=>v i b) (fun i=>v i b)))=dt n (fun i=>v i a) (fun i=>v i a)+2*(t*dt n (fun i=>v i a) (fun i=>v i b))+t*t*dt n (fun i=>v i b) (fun i=>v i b) by grind]at k
  exact k
 have L:=u 1
 have k2:=u (-1)
 have N:=u 0
 have O:=br (dt n (fun i=>v i a) (fun i=>v i a)+2*(1*dt n (fun i=>v i a) (fun i=>v i b))+1*1*dt n (fun i=>v i b) (fun i=>v i b)-(1+1*1))
 have Q:=br (dt n (fun i=>v i a) (fun i=>v i a)+2*(-1*dt n (fun i=>v i a) (fun i=>v i b))+-1* -1*dt n (fun i=>v i b) (fun i=>v i b)-(1+-1* -1))
 have U:=br (dt n (fun i=>v i a) (fun i=>v i a)+2*(0*dt n (fun i=>v i a) (fun i=>v i b))+0*0*dt n (fun i=>v i b) (fun i=>v i b)-(1+0*0))
 generalize dt n (fun i=>v i a) (fun i=>v i a)=X at*
 generalize dt n (fun i=>v i a) (fun i=>v i b)=Y at*
 generalize dt n (fun i=>v i b) (fun i=>v i b)=Z at*
 exact⟨mQ (by grind) (by grind),mQ (by grind) (by grind)⟩
theorem bZ.endI{A:List Nat}{k:Int}(h:bZ A k){r c:Nat}(u:A.length=r*c)(D:r≤6)(d:c≤6)(n:Nat)(F:n≤60):
  py r c 24 (G6 r c (fY A (-k)) n) (15*n):=by
 have G:A.length≤36:=by rw[u];exact Nat.mul_le_mul D d
 obtain⟨_,H,I,_⟩:=h.low (by omega)
 have z:((0:Nat):Rat)*(1/1099511627776)=0:=by
  have:((0:Nat):Rat)=0:=rfl
  rw[this,Rat.zero_mul]
 have z2:((0:Nat):Rat)*(40/9007199254740992)=0:=by
  have:((0:Nat):Rat)=0:=rfl
  rw[this,Rat.zero_mul]
 unfold G6
 refine py.rounds (yJ D H I) ⟨⟨by rw[z,Rat.add_zero];exact h.rows u d,by rw[z,Rat.add_zero];exact px c⟩,?_⟩ (by grind) d n F
 unfold EA
 rw[z2]
 exact sc c
theorem Bd.le19{n:Nat}{e z:Nat→Rat}{γ:Rat}(u:Bd n z γ)(h:∀i,i<n→ab (e i)≤z i):Bd n e γ:=by
 refine⟨u.1,Rat.le_trans ?_ u.2⟩
 have k:=yH (f:=fun i=>e i*e i) (g:=fun i=>z i*z i) n (fun i d=>by
  show e i*e i≤z i*z i
  have a:=Rat.mul_le_mul_of_nonneg_left (h i d) (cS (e i))
  have A:0≤z i:=Rat.le_trans (cS (e i)) (h i d)
  have b:=Rat.mul_le_mul_of_nonneg_right (h i d) A
  rw[cH]at a
  exact Rat.le_trans a b)
 rw[dP,dP]at k
 exact k
theorem Bd.abs20{n:Nat}{x:Nat→Rat}{a:Rat}(h:Bd n x a):Bd n (fun i=>ab (x i)) a:=by
 refine⟨h.1,?_⟩
 have e:dt n (fun i=>ab (x i)) (fun i=>ab (x i))=dt n x x:=fg (fun i _=>cH (x i))
 rw[e]
 exact h.2
theorem Kl{n:Nat}(d:n≤6):Bd n (fun _=>1) 3:=by
 refine⟨by grind,?_⟩
 have k:=mI (f:=fun _=>(1:Rat)*1) (M:=1) n (fun _ _=>by grind)
 rw[dP]at k
 have h:(n:Rat)≤6:=Rat.natCast_le_natCast.2 d
 have:dt n (fun _=>1) (fun _=>1)=sm n (fun _=>(1:Rat)*1):=rfl
 rw[this]
 grind
theorem sf{n:Nat}(D:n≤6){e x y:Nat→Rat}{G:Rat}(F:Bd n x G)(H:Bd n y G)(N:1≤G)
  (I:∀i,i<n→9007199254740992*ab (e i)≤203/100*(ab (x i)+ab (y i))+9007199254740992*(3*p2 (-1075))):Bd n e (41/90071992547409920*G):=by
 obtain⟨O,Q,U⟩:=dH
 have d:=F.abs20.mul (203/900719925474099200)
 have u:=H.abs20.mul (203/900719925474099200)
 have A:=(Kl D).mul (3*p2 (-1075))
 have K:ab (203/900719925474099200:Rat)=203/900719925474099200:=aY (by grind)
 have L:ab (3*p2 (-1075))=3*p2 (-1075):=aY (by grind)
 rw[K]at d u
 rw[L]at A
 have b:=((d.add u).add A).mono (b:=41/90071992547409920*G) (by
  generalize p2 (-1075)=z at*
  grind)
 refine b.le19 (fun i J=>?_)
 have h:=I i J
 show ab (e i)≤203/900719925474099200*ab (x i)+203/900719925474099200*ab (y i)+3*p2 (-1075)*1
 generalize ab (e i)=X at*
 generalize ab (x i)=Y at*
 generalize ab (y i)=Z at*
 generalize p2 (-1075)=w4 at*
 grind
def Km(r c:Nat)(S:List Nat)(F:Rat)(s:Sd)(n:Nat):Prop:=pF r c (AL c (cI c S) (cI c s.W) (cI c s.V)) ((n:Rat)*(18/9007199254740992*F))
theorem Kn{n m a b:Nat}(A:a<m)(D:b<m)(d:a≠b)(R:Nat→Nat→Rat){β:Rat}(h:pF n m R β):Bd n (fun i=>R i a) β:=by
 have F:se a b 0 a=1:=by unfold se;rw[if_pos rfl]
 have G:se a b 0 b=0:=by unfold se;rw[if_neg (fun h=>d h.symm),if_pos rfl]
 have H:∀j,j≠a→j≠b→se a b 0 j=0:=fun j u z=>by unfold se;rw[if_neg u,if_neg z]
 have I:dt m (se a b 0) (se a b 0)=1:=by
  rw[nM A D d _ _ (fun j _ u z=>by rw[H j u z];grind),F,G]
  grind
 have k:=h (se a b 0) 1 (by grind) (by rw[I];grind)
 rw[Rat.mul_one]at k
 refine k.congr (fun i _=>?_)
 rw[nM A D d _ _ (fun j _ u z=>by rw[H j u z];grind),F,G]
 grind
theorem EG{n m a b:Nat}{v:Nat→Nat→Rat}{ε:Rat}(h:uV n m v ε)(u:1000*ε≤1)(z:a<m)(A:b<m)(d:a≠b):Bd n (fun i=>v i a) (1001/1000):=by
 refine⟨by grind,?_⟩
 have k:=(uW h z A d).2
 have l:=br (dt n (fun i=>v i a) (fun i=>v i a)-1)
 grind
theorem Ay{n:Nat}(h:n≤4000){F:Rat}(hF:1≤F):(n:Rat)*(18/9007199254740992*F)≤1/1000000*F∧0≤(n:Rat)*(18/9007199254740992*F):=by
 have d:(n:Rat)≤((4000:Nat):Rat):=Rat.natCast_le_natCast.2 h
 have e:((4000:Nat):Rat)=4000:=rfl
 rw[e]at d
 have u:=Rat.mul_le_mul_of_nonneg_right d (show 0≤18/9007199254740992*F by grind)
 exact⟨by grind,Rat.mul_nonneg Rat.natCast_nonneg (by grind)⟩
theorem uX{F:Rat}(h:1≤F):1≤1002/1000*F:=by grind
theorem yL:(1:Rat)≤1001/1000:=by grind
theorem si(a b:Rat):a=b+(a-b):=by grind
theorem EH{w F:Rat}(h:w≤1/1000000*F)(hF:1≤F):w+F*(1001/1000)≤1002/1000*F:=by grind
theorem Ko{w F:Rat}(h:w≤1/1000000*F)(d:0≤w):w+1/562949953421312*w+2*(41/90071992547409920*(1002/1000*F)+F*(41/90071992547409920*(1001/1000)))≤w+18/9007199254740992*F:=by grind
theorem EI{r c:Nat}{S W V:List Nat}{B D F:Rat}{n:Nat}(hn:n≤4000)(hF:1≤F)(U:pF r c (cI c S) F)(J:cn r c W B)(X:B≤100)(K:cn c c V D)(Y:D≤100)(Z:r≤6)(hc:c≤6){p q C s:Nat}(u:p<c)(z:q<c)(A:p≠q)
  (fc:aj C=true) (fs:aj s=true) (G:562949953421312*ab (fQ C*fQ C+fQ s*fQ s-1)≤1) {ε:Rat} (hI:uV c c (cI c V) ε) (H:1000*ε≤1) (h:pF r c (AL c (cI c S) (cI c W) (cI c V)) ((n:Rat)*(18/9007199254740992*F))):
  pF r c (AL c (cI c S) (cI c (gq r c W p q C s)) (cI c (gq c c V p q C s))) (((n+1:Nat):Rat)*(18/9007199254740992*F)):=by
 obtain⟨c1,s1⟩:=lH G
 obtain⟨b1,b0⟩:=Ay hn hF
 have pw:=fun i (d:i<r)=>lG C s (aQ c W i p) (aQ c W i q) fc fs (J.fin i p d u) (J.fin i q d z) c1 s1 (by have:=J.small X d u;grind) (by have:=J.small X d z;grind)
 have pv:=fun i (d:i<c)=>lG C s (aQ c V i p) (aQ c V i q) fc fs (K.fin i p d u) (K.fin i q d z) c1 s1 (by have:=K.small Y d u;grind) (by have:=K.small Y d z;grind)
 have O:=EG hI H u z A
 have Q:=EG hI H z u (fun h=>A h.symm)
 have I:∀a b,a<c→b<c→a≠b→Bd c (fun k=>cI c V k a) (1001/1000)→Bd r (fun i=>cI c W i a) (1002/1000*F):=fun a b ha hb L hv=>by
  have k1:=Kn ha hb L _ h
  have k2:=U.vec hv
  have k3:=(k1.add k2).mono (b:=1002/1000*F) (EH b1 hF)
  refine k3.congr (fun i _=>?_)
  show cI c W i a-dt c (cI c S i) (fun k=>cI c V k a)+dt c (cI c S i) (fun k=>cI c V k a)=cI c W i a
  grind
 have wp:=I p q u z A O
 have wq:=I q p z u (fun h=>A h.symm) Q
 have aa:∀x y:Rat,203/100*(x+y)+9007199254740992*(3*p2 (-1075))=203/100*(y+x)+9007199254740992*(3*p2 (-1075)):=fun x y=>by grind
 have E1:=sf Z (e:=fun i=>cI c (gq r c W p q C s) i p-(fQ C*cI c W i p+fQ s*cI c W i q)) wp wq (uX hF) (fun i d=>by
  show 9007199254740992*ab (fQ (aQ c (gq r c W p q C s) i p)-(fQ C*fQ (aQ c W i p)+fQ s*fQ (aQ c W i q)))≤_
  rw[bV r c W p q C s u z d u,if_pos rfl]
  exact(pw i d).2.2.1)
 have E2:=sf Z (e:=fun i=>cI c (gq r c W p q C s) i q-(fQ C*cI c W i q-fQ s*cI c W i p)) wp wq (uX hF) (fun i d=>by
  show 9007199254740992*ab (fQ (aQ c (gq r c W p q C s) i q)-(fQ C*fQ (aQ c W i q)-fQ s*fQ (aQ c W i p)))≤_
  rw[bV r c W p q C s u z d z,if_neg (fun h=>A h.symm),if_pos rfl]
  exact(pw i d).2.2.2)
 have E3:=sf hc (e:=fun i=>cI c (gq c c V p q C s) i p-(fQ C*cI c V i p+fQ s*cI c V i q)) O Q yL (fun i d=>by
  show 9007199254740992*ab (fQ (aQ c (gq c c V p q C s) i p)-(fQ C*fQ (aQ c V i p)+fQ s*fQ (aQ c V i q)))≤_
  rw[bV c c V p q C s u z d u,if_pos rfl]
  exact(pv i d).2.2.1)
 have E4:=sf hc (e:=fun i=>cI c (gq c c V p q C s) i q-(fQ C*cI c V i q-fQ s*cI c V i p)) O Q yL (fun i d=>by
  show 9007199254740992*ab (fQ (aQ c (gq c c V p q C s) i q)-(fQ C*fQ (aQ c V i q)-fQ s*fQ (aQ c V i p)))≤_
  rw[bV c c V p q C s u z d z,if_neg (fun h=>A h.symm),if_pos rfl]
  exact(pv i d).2.2.2)
 have R:=Ez u z A U h G E1 E2 E3 E4 (fun i _=>si _ _) (fun i _=>si _ _) (fun i d j N a b=>by
  show fQ (aQ c (gq r c W p q C s) i j)=fQ (aQ c W i j)
  rw[bV r c W p q C s u z d N,if_neg a,if_neg b]) (fun i _=>si _ _) (fun i _=>si _ _) (fun i d j N a b=>by
  show fQ (aQ c (gq c c V p q C s) i j)=fQ (aQ c V i j)
  rw[bV c c V p q C s u z d N,if_neg a,if_neg b])
 have en:((n+1:Nat):Rat)=(n:Rat)+1:=by rw[Rat.natCast_add];rfl
 rw[en,Rat.add_mul,Rat.one_mul]
 intro x t ht hx
 refine(R x t ht hx).mono (Rat.mul_le_mul_of_nonneg_right ?_ ht)
 exact Ko b1 b0
def mK(r c:Nat)(S:List Nat)(F B:Rat)(s:Sd)(n:Nat):Prop:=py r c B s n∧Km r c S F s n
theorem mK.mono{r c:Nat}{S:List Nat}{F B:Rat}{s:Sd}{m n:Nat}(hF:1≤F)(h:mK r c S F B s m)(d:m≤n):mK r c S F B s n:=by
 refine⟨h.1.mono d,fun x t u z=>(h.2 x t u z).mono (Rat.mul_le_mul_of_nonneg_right ?_ u)⟩
 exact Rat.mul_le_mul_of_nonneg_right (Rat.natCast_le_natCast.2 d) (by grind)
theorem mK.step{r c low p q n:Nat}{S:List Nat}{F B:Rat}{s:Sd}(hF:1≤F)(G:pF r c (cI c S) F)(T:ig r c low)(h:mK r c S F B s n)(d:n≤4000)(H:B≤99)(I:r≤6)(z:c≤6)(J:p<q)(u:q<c):mK r c S F B (qJ r c low p q s) (n+1):=by
 refine⟨h.1.step T d H z J u,?_⟩
 unfold qJ
 split
 ·exact(mK.mono hF h (show n≤n+1 by omega)).2
 next e=>
  have k:=mH d
  have A:B+(n:Rat)*(1/1099511627776)≤100:=by grind
  have k2:1+(n:Rat)*(1/1099511627776)≤100:=by grind
  obtain⟨L,N⟩:=T s.W p q (h.1.1.1.mono A) (by omega) u (by cases h2:uE r c low s.W p q with|false=>rfl|true=>exact absurd h2 e)
  obtain⟨O,Q,U⟩:=kA _ L N
  have D:p9 (iJ r c s.W p q)<18446744073709551616:=de _ _
  have K:aj (fN (p9 (iJ r c s.W p q)))=true:=by rw[jO _ D];exact Q
  exact EI d hF G h.1.1.1 A h.1.1.2 k2 I z (by omega) u (by omega) O K (rY D U) h.1.2 (lK d).1 h.2
theorem mK.inner{r c low p n:Nat}{S:List Nat}{F B:Rat}{s:Sd}(hF:1≤F)(d:pF r c (cI c S) F)(T:ig r c low)(h:mK r c S F B s n)(u:B≤99)(z:r≤6)(A:c≤6):∀t,p+t<c→n+t≤4000→mK r c S F B (nr r c low p s t) (n+t)
 |0,_,_=>h
 |t+1,ht,hn=>by
  have D:=mK.inner (p:=p) hF d T h u z A t (by omega) (by omega)
  have e:nr r c low p s (t+1)=qJ r c low p (p+1+t) (nr r c low p s t):=rfl
  rw[e]
  exact mK.step (q:=p+1+t) (n:=n+t) hF d T D (by omega) u z A (by omega) (by omega)
theorem mK.outer{r c low n:Nat}{S:List Nat}{F B:Rat}{s:Sd}(hF:1≤F)(d:pF r c (cI c S) F)(T:ig r c low)(h:mK r c S F B s n)(u:B≤99)(z:r≤6)(A:c≤6):∀k,k≤c→n+Ep c k≤4000→mK r c S F B (pg r c low s k) (n+Ep c k)
 |0,_,_=>h
 |k+1,hk,hn=>by
  have D:Ep c (k+1)=Ep c k+(c-1-k):=rfl
  rw[D]at hn⊢
  have G:=mK.outer hF d T h u z A k (by omega) (by omega)
  have e:pg r c low s (k+1)=nr r c low k (pg r c low s k) (c-1-k):=rfl
  rw[e]
  exact mK.mono hF (mK.inner hF d T G u z A (c-1-k) (by omega) (by omega)) (by omega)
theorem mK.rounds{r c low:Nat}{S:List Nat}{F B:Rat}{s:Sd}(hF:1≤F)(z:pF r c (cI c S) F)(T:ig r c low)(h:mK r c S F B s 0)(A:B≤99)(D:r≤6)(d:c≤6):∀k,k≤60→mK r c S F B (gD r c low s k) (15*k)
 |0,_=>h
 |k+1,hk=>by
  have G:=mK.rounds hF z T h A D d k (by omega)
  have t:=Er d
  have e:gD r c low s (k+1)=if(gD r c low s k).still=true then gD r c low s k else AK r c low (gD r c low s k):=rfl
  rw[e]
  split
  ·exact mK.mono hF G (by omega)
  ·have H:AK r c low (gD r c low s k)=pg r c low ⟨(gD r c low s k).W,(gD r c low s k).V,true⟩ c:=rfl
   rw[H]
   have u:mK r c S F B ⟨(gD r c low s k).W,(gD r c low s k).V,true⟩ (15*k):=G
   exact mK.mono hF (u.outer hF z T A D d c (Nat.le_refl _) (by omega)) (by omega)
theorem xl{f a b:Rat}(d:0<f)(h:f*a≤f*b):a≤b:=by
 rcases Rat.le_total (a:=a) (b:=b)with g|g
 ·exact g
 ·rcases Classical.em (a=b)with e|e
  ·rw[e];exact Rat.le_refl
  ·exfalso
   have u:b<a:=by grind
   have:=Rat.mul_lt_mul_of_pos_left u d
   grind
end Go.Proofs.YtcbcmlaogehimaaGreatDoor
