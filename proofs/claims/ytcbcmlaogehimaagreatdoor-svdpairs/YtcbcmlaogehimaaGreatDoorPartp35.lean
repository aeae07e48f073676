/- Part 35 of the texts. -/
import Derived.Test.YtcbcmlaogehimaaGreatDoorPartp34
namespace Go.Proofs.YtcbcmlaogehimaaGreatDoor
structure bS (A:List Nat) (k:Int):Prop where
 fin:∀x∈A,x<18446744073709551616∧ai x=true∧(fK x=0∨-100≤eX x)
 top:bF 0 A≠0
 ek:eX (bF 0 A)=k
 up:-100≤k∧k<100
theorem bS.one{A:List Nat}{k:Int}(h:bS A k){x:Nat}(z:x∈A):ai (xV x (-k))=true∧fQ (xV x (-k))=fQ x*p2 (-k)∧ab (fQ x*p2 (-k))≤2:=by
 obtain⟨D,u,I⟩:=h.fin x z
 have F:=jg A (fun x d=>⟨(h.fin x d).1,(h.fin x d).2.1⟩)
 obtain⟨Y,J,K,L,Z,b6,O,b8,_⟩:=gd 5000 A F h.top
 have P:=aA (-k)
 by_cases d:fK x=0
 ·rw[gK x _ d,bu x d,Rat.zero_mul,iN]
  exact⟨u,rfl,by grind⟩
 ·obtain⟨t1,t2⟩:=gb x D u d
  obtain⟨u1,u2⟩:=gb (bF 0 A) (by omega) J K
  rw[h.ek]at u1 u2
  have Q:=O x z
  have G:ab (fQ (bF 0 A))=fQ (bF 0 A):=aU (fj _ L)
  have e:ab (fQ x*p2 (-k))=ab (fQ x)*p2 (-k):=by rw[bC,aU (Rat.le_of_lt P)]
  have H:ab (fQ x)*p2 (-k)≤2:=by
   have v:=Rat.mul_le_mul_of_nonneg_right (show ab (fQ x)≤p2 (k+1) by grind) (Rat.le_of_lt P)
   rw[←aL,show k+1+-k=1 by omega,wN]at v
   exact v
  have lo:p2 (-1022)≤ab (fQ x)*p2 (-k):=by
   have U:=aK (show-100≤eX x by exact I.resolve_left d)
   have v:=Rat.mul_le_mul_of_nonneg_right (show p2 (-100)≤ab (fQ x) by grind) (Rat.le_of_lt P)
   rw[←aL]at v
   have X:=aK (show(-1022:Int)≤-100+-k by have:=h.up;omega)
   grind
  have B:=mM
  obtain⟨z1,z2⟩:=ib x (-k) D u (by grind) lo
  exact⟨z1,z2,by rw[e];exact H⟩
theorem Iw{A:List Nat}{k:Int}{y:Nat}(d:y∈d7 A k):∃x∈A,y=xV x k:=by
 unfold d7 at d
 obtain⟨i,h,rfl⟩:=List.mem_map.1 d
 have:=List.mem_range.1 h
 exact⟨A.getD i 0,by rw[List.getD_eq_getElem?_getD,List.getElem?_eq_getElem this];exact List.getElem_mem this,rfl⟩
theorem sN(A:List Nat)(k:Int):d7 A k=A.map (fun x=>xV x k):=by
 unfold d7
 refine List.ext_getElem (by simp) (fun i d u=>?_)
 have h:i<A.length:=by simpa using d
 simp[List.getD_eq_getElem?_getD,List.getElem?_eq_getElem h]
theorem bS.size{A:List Nat}{k:Int}(h:bS A k){y:Nat}(u:y∈d7 A (-k)):y<18446744073709551616∧ai y=true∧ab (fQ y)≤2:=by
 obtain⟨x,d,rfl⟩:=Iw u
 obtain⟨a,b,c⟩:=h.one d
 exact⟨pg _ _ (h.fin x d).1,a,by rw[b];exact c⟩
theorem bS.sum{A:List Nat}{k:Int}(h:bS A k):∀B:List Nat,(∀x∈B,x∈A)→bj (B.map (fun x=>xV x (-k)))=bj B*(p2 (-k)*p2 (-k))
 | [],_=>by
  show(0:Rat)=0*_
  rw[Rat.zero_mul]
 |x::B,hB=>by
  have u:=bS.sum h B (fun y d=>hB y (List.mem_cons_of_mem _ d))
  obtain⟨_,b,_⟩:=h.one (hB x List.mem_cons_self)
  have z:bj ((x::B).map (fun x=>xV x (-k)))=fQ (xV x (-k))*fQ (xV x (-k))+bj (B.map (fun x=>xV x (-k))):=rfl
  have D:bj (x::B)=fQ x*fQ x+bj B:=rfl
  rw[z,D,u,b,Rat.add_mul]
  grind
theorem bS.sumS{A:List Nat}{k:Int}(h:bS A k):bj (d7 A (-k))=bj A*(p2 (-k)*p2 (-k)):=by
 rw[sN]
 exact h.sum A (fun _ h=>h)
theorem Ix{d:List Nat}{x:Nat}(h:x∈d):fQ x*fQ x≤bj d:=by
 induction d with
 |nil=>cases h
 |cons y ys ih=>
  have e:bj (y::ys)=fQ y*fQ y+bj ys:=rfl
  have n:=jB ys
  have s:=av (fQ y)
  rw[e]
  rcases List.mem_cons.1 h with g|g
  ·rw[g];grind
  ·have:=ih g
   grind
theorem Iy{a b c:Rat}(h:a≤b)(e:2*b=1)(n:99/100≤c):a≤c:=by grind
theorem Ls{a:Rat}(h:a≤2):a≤64:=by grind
theorem Fb{N P U M:Rat}(y:N*P≤N*1)(v:N≤U)(m:2*U≤M)(u:0<U):N*P<M:=by grind
theorem vv{N P L:Rat}(y:99/100*P≤N*P)(m:2*L≤P)(p:0<P):L≤N*P:=by grind
theorem bS.low{A:List Nat}{k:Int}(h:bS A k)(hl:A.length≤64):
  1≤bj (d7 A (-k))∧ai (xV (mr (bH (d7 A (-k)))) (-44))=true∧p2 (-50)≤fQ (xV (mr (bH (d7 A (-k)))) (-44))∧
  100*(fQ (xV (mr (bH (d7 A (-k)))) (-44))*fQ (xV (mr (bH (d7 A (-k)))) (-44)))≤101*(p2 (-88)*bj (d7 A (-k))):=by
 have hT:=jg A (fun x u=>⟨(h.fin x u).1,(h.fin x u).2.1⟩)
 obtain⟨b1,b2,b3,b4,b5,b6,b7,b8,y,hy,b9,ao⟩:=gd 5000 A hT h.top
 obtain⟨u1,u2⟩:=gb (bF 0 A) (by omega) b2 b3
 rw[h.ek]at u1
 have ae:ab (fQ (bF 0 A))=fQ (bF 0 A):=aU (fj _ b4)
 obtain⟨z1,z2,z3⟩:=h.one hy
 have P:=aA (-k)
 have O:1≤ab (fQ (xV y (-k))):=by
  rw[z2,bC,aU (Rat.le_of_lt P)]
  have v:=Rat.mul_le_mul_of_nonneg_right (show p2 k≤ab (fQ y) by grind) (Rat.le_of_lt P)
  rw[←aL,show k+-k=0 by omega,jk]at v
  exact v
 have D:=fun z (hz:z∈d7 A (-k))=>h.size hz
 have F:xV y (-k)∈d7 A (-k):=by rw[sN];exact List.mem_map.2 ⟨y,hy,rfl⟩
 have G:(d7 A (-k)).length≤64:=by rw[j6];exact hl
 generalize d7 A (-k)=S at*
 generalize xV y (-k)=t at*
 have s1:1≤bj S:=by
  have v:=Ix F
  have w:=Rat.mul_le_mul_of_nonneg_left O (cE (fQ t))
  rw[cq]at w
  grind
 have J:=jg S (fun x u=>⟨(D x u).1,(D x u).2.1⟩)
 obtain⟨d1,d2,d3,d4⟩:=jZ S 0 (by decide) (fun x I=>(D x I).2.1)
 have u:bF 0 S≠0:=fun e=>by
  have h1:=d3 t F
  rw[e]at h1
  rw[fL,show fR t=0 by omega,dn]at O
  have:((0:Nat):Rat)=0:=rfl
  rw[this]at O
  grind
 obtain⟨c1,c2,c3,c4,c5,c6,c7,c8,q,hq,c9,ar⟩:=gd 5000 S J u
 obtain⟨w1,w2⟩:=gb (bF 0 S) (by omega) c2 c3
 have ah:ab (fQ (bF 0 S))=fQ (bF 0 S):=aU (fj _ c4)
 have P1:=aK (show(10:Int)≤901 by decide)
 have P2:p2 10=1024:=by rw[show(10:Int)=((10:Nat):Int) by rfl,br];rfl
 have am:eX (bF 0 S)<901:=jA (by have:=(D q hq).2.2;grind)
 have g:=vn 5000 S G J u (by omega)
 have Q:=aK (show(-50:Int)≤-1 by decide)
 have U:2*p2 (-1)=1:=by have:=cW (-1);rw[show(-1:Int)+1=0 by rfl,jk]at this;exact this.symm
 have t1:=c7 t F
 have n1:99/100≤fQ (cX S):=by grind
 obtain⟨T,_⟩:=vr S G (fun x I=>⟨(D x I).1,(D x I).2.1⟩) (fun x I=>Ls (D x I).2.2) (Iy Q U n1)
 obtain⟨v1,v2,v3,v4,v5,v6,v7⟩:=uz S G T u
 have en:mr (bH S)=cX S:=by rw[si,j4]
 have ln:cX S<18446744073709551616:=by rw[←en];exact xm _
 rw[en]
 have an:ab (fQ (cX S))=fQ (cX S):=aU (by grind)
 have H:=aA (-44)
 have d:=aK (show(-44:Int)≤0 by decide)
 rw[jk]at d
 have y2:=Rat.mul_le_mul_of_nonneg_left d (show 0≤fQ (cX S) by grind)
 have X:=Rat.mul_le_mul_of_nonneg_right n1 (Rat.le_of_lt H)
 have Y:=aK (show(1+-1022:Int)≤-44 by decide)
 have Z:=aK (show(1+-50:Int)≤-44 by decide)
 have m6:=aK (show(1+204:Int)≤1023 by decide)
 rw[aL,wN]at Y Z m6
 have K:=aA 204
 obtain⟨f1,f2⟩:=ib (cX S) (-44) ln v2 (by rw[an];exact Fb y2 v5 m6 K) (by rw[an];exact vv X Y H)
 refine⟨s1,f1,by rw[f2];exact vv X Z H,?_⟩
 rw[f2]
 have aa:p2 (-44)*p2 (-44)=p2 (-88):=by rw[←aL];rfl
 rw[show fQ (cX S)*p2 (-44)*(fQ (cX S)*p2 (-44))=fQ (cX S)*fQ (cX S)*(p2 (-44)*p2 (-44)) by grind,aa]
 have l:=bh (fQ (cX S)*fQ (cX S)-bj S)
 have L:=Rat.mul_le_mul_of_nonneg_right (show 100*(fQ (cX S)*fQ (cX S))≤101*bj S by clear v1 y2 X Y Z m6;generalize fQ (cX S)*fQ (cX S)=a at*;generalize ab (a-bj S)=b at*;grind) (Rat.le_of_lt (aA (-88)))
 have U:100*(fQ (cX S)*fQ (cX S))*p2 (-88)=100*(fQ (cX S)*fQ (cX S)*p2 (-88)):=by rw[Rat.mul_assoc]
 have e2:101*bj S*p2 (-88)=101*(p2 (-88)*bj S):=by rw[Rat.mul_assoc,Rat.mul_comm (bj S)]
 rw[U,e2]at L
 exact L
theorem zp{f:Nat→Rat}{M:Rat}:∀n,(∀j,j<n→f j≤M)→d6 f n≤(n:Rat)*M
 |0,_=>by
  show(0:Rat)≤((0:Nat):Rat)*M
  have:((0:Nat):Rat)=0:=rfl
  rw[this];grind
 |n+1,h=>by
  have z:=zp n (fun j u=>h j (by omega))
  have d:((n+1:Nat):Rat)=(n:Rat)+1:=by rw[Rat.natCast_add];rfl
  have:=h n (by omega)
  show d6 f n+f n≤_
  rw[d,Rat.add_mul,Rat.one_mul]
  grind
theorem bS.rows{A:List Nat}{k:Int}(h:bS A k){r c:Nat}(G:A.length=r*c)(H:c≤6):bO r c (d7 A (-k)) 24:=by
 have D:∀i j,i<r→j<c→aP c (d7 A (-k)) i j∈d7 A (-k):=fun i j d z=>by
  have F:i*c+j<(d7 A (-k)).length:=by rw[j6,G];exact dh d z
  unfold aP
  rw[List.getD_eq_getElem?_getD,List.getElem?_eq_getElem F]
  exact List.getElem_mem F
 refine⟨fun i j d z=>(h.size (D i j d z)).2.1,fun i j d z=>(h.size (D i j d z)).1,fun i d=>?_⟩
 have u:=zp (f:=fun j=>fQ (aP c (d7 A (-k)) i j)*fQ (aP c (d7 A (-k)) i j)) (M:=4) c (fun j z=>by
  have v:=(h.size (D i j d z)).2.2
  have w:=Rat.mul_le_mul_of_nonneg_left v (cE (fQ (aP c (d7 A (-k)) i j)))
  show fQ (aP c (d7 A (-k)) i j)*fQ (aP c (d7 A (-k)) i j)≤4
  rw[cq]at w
  grind)
 have I:(c:Rat)≤6:=Rat.natCast_le_natCast.2 H
 grind
theorem pR(c:Nat):bO c c (iL c) 1:=by
 have e:∀i j,i<c→j<c→aP c (iL c) i j=if j=i then 4607182418800017408 else 0:=fun i j d h=>lP c c _ d h
 refine⟨fun i j d h=>?_,fun i j d h=>?_,fun i d=>?_⟩
 ·rw[e i j d h];split<;>decide+kernel
 ·rw[e i j d h];split<;>decide
 ·have z:=gE (f:=fun j=>fQ (aP c (iL c) i j)*fQ (aP c (iL c) i j)) (g:=fun _=>0) (p:=i) (q:=c) (by omega) c (fun j h u _=>by
   show fQ (aP c (iL c) i j)*fQ (aP c (iL c) i j)=0
   rw[e i j d h,if_neg u,bu 0 (by decide)]
   grind)
  have A:∀n,d6 (fun _=>0) n=0:=fun n=>by
   induction n with
   |zero=>rfl
   |succ n ih=>show d6 (fun _=>0) n+0=0;rw[ih];grind
  rw[z,A,if_pos d,if_neg (by omega)]
  show 0+(fQ (aP c (iL c) i i)*fQ (aP c (iL c) i i)-0)+0≤1
  rw[e i i d d,if_pos rfl,gW]
  grind
theorem Iz{a P Q M:Rat}(v:a*P≤10*P)(m:1024*P≤Q)(d:2*Q≤M)(p:0<P):a*P<M:=by
 generalize a*P=z at*
 grind
theorem Fc{a b:Rat}(h:2*a≤2*b):a≤b:=by grind
theorem Fd{a b c d e:Rat}(h:a≤b+c)(u:b≤d)(z:c≤e):a≤d+e:=by grind
theorem zq{A u d z ε:Rat}(m:100*d≤101*u)(l:-(A-u)≤z)(h:z≤ε)(e:1000*ε≤d)(p:0≤d):98*d≤100*A:=by grind
theorem Lt{G u d z ε:Rat}(t:G≤z+u)(h:z≤ε)(m:8796093022208*u≤d)(e:8796093022208*ε≤d):4398046511104*G≤d:=by grind
theorem Fe{h u d A z1 z2:Rat}(D:4398046511104*A≤u)(F:4398046511104*u≤d)(G:9604*d≤z1)(H:z2≤10000*h)(z:z1=z2)(p:0≤d):75557863725914323419136*A≤h:=by grind
theorem Bl(x y X Y κ η:Rat)(h:0≤κ)(u:0≤η)(z:η≤κ)(J:ab x≤10)(K:ab y≤10)(D:ab (X-x*κ)≤η)(F:ab (Y-y*κ)≤η):ab (X*Y-κ*κ*(x*y))≤21*(κ*η):=by
 obtain⟨d,H⟩:∃d,d=X-x*κ:=⟨_,rfl⟩
 obtain⟨f,I⟩:∃f,f=Y-y*κ:=⟨_,rfl⟩
 rw[←H]at D;rw[←I]at F
 have e:X*Y-κ*κ*(x*y)=κ*(x*f)+κ*(y*d)+d*f:=by
  have:X=d+x*κ:=by grind
  have:Y=f+y*κ:=by grind
  subst X Y
  grind
 have L:=cF (κ*(x*f)+κ*(y*d)) (d*f)
 have O:=cF (κ*(x*f)) (κ*(y*d))
 rw[bC κ,bC κ,bC x,bC y,aU h]at O
 rw[bC d f]at L
 rw[e]
 have G:=cE f;have Q:=cE d
 have U:=Rat.mul_le_mul_of_nonneg_right J G
 have A:=Rat.mul_le_mul_of_nonneg_right K Q
 have p3:=Rat.mul_le_mul_of_nonneg_right D G
 have p4:=Rat.mul_le_mul_of_nonneg_left F u
 have p5:=Rat.mul_le_mul_of_nonneg_right z u
 have Z:=Rat.mul_le_mul_of_nonneg_left (show ab x*ab f≤10*η by grind) h
 have q2:=Rat.mul_le_mul_of_nonneg_left (show ab y*ab d≤10*η by grind) h
 rw[show κ*(10*η)=10*(κ*η) by grind]at Z q2
 generalize ab (κ*(x*f)+κ*(y*d)+d*f)=w1 at*
 generalize ab (κ*(x*f)+κ*(y*d))=w2 at*
 generalize κ*(ab x*ab f)=w3 at*
 generalize κ*(ab y*ab d)=w4 at*
 generalize ab d*ab f=w5 at*
 generalize κ*η=w6 at*
 generalize η*η=w7 at*
 generalize η*ab f=w8 at*
 clear U A e H I
 grind
theorem vw(x:Nat)(k:Int)(u:x<18446744073709551616)(z:ai x=true)(D:ab (fQ x)≤10)(F:-100≤k∧k<100):
  ai (xV x k)=true∧ab (fQ (xV x k)-fQ x*p2 k)≤p2 (-1075):=by
 have P:=aA k
 have m:=aK (show 10+k≤120 by omega)
 have d:p2 10=1024:=by rw[show(10:Int)=((10:Nat):Int) by rfl,br];rfl
 have v:=Rat.mul_le_mul_of_nonneg_right D (Rat.le_of_lt P)
 have e:p2 (10+k)=1024*p2 k:=by rw[aL,d]
 have A:=aK (show(1+120:Int)≤1023 by decide)
 rw[aL,wN]at A
 have f:=jX x k u z (Iz v (by rw[←e];exact m) A P)
 refine⟨f,?_⟩
 rcases jY x k u z f with g|⟨_,_,g⟩
 ·rw[g,show fQ x*p2 k-fQ x*p2 k=0 by grind,iN]
  exact Rat.le_of_lt (aA _)
 ·have h:=cW (-1075)
  rw[show(-1075:Int)+1= -1074 by rfl]at h
  rw[h]at g
  exact Fc g
theorem IC(n:Nat)(G:n≤6)(x y X Y:Nat→Rat)(κ η:Rat)(d:0≤κ)(h:0≤η)(A:η≤κ)
  (H:∀i,i<n→ab (x i)≤10) (I:∀i,i<n→ab (y i)≤10) (J:∀i,i<n→ab (X i-x i*κ)≤η) (K:∀i,i<n→ab (Y i-y i*κ)≤η):
  ab (dt n X Y-κ*κ*dt n x y)≤126*(κ*η):=by
 have D:∀m,m≤n→ab (dt m X Y-κ*κ*dt m x y)≤(m:Rat)*(21*(κ*η)):=by
  intro m
  induction m with
  |zero=>
   intro _
   show ab (0-κ*κ*0)≤((0:Nat):Rat)*(21*(κ*η))
   have:((0:Nat):Rat)=0:=rfl
   rw[this,show(0:Rat)-κ*κ*0=0 by grind,iN]
   grind
  |succ m ih=>
   intro Z
   have L:=ih (by omega)
   have O:dt (m+1) X Y=dt m X Y+X m*Y m:=rfl
   have Q:dt (m+1) x y=dt m x y+x m*y m:=rfl
   have U:((m+1:Nat):Rat)=(m:Rat)+1:=by rw[Rat.natCast_add];rfl
   rw[O,Q,U,Rat.add_mul,Rat.one_mul]
   have s:=Bl (x m) (y m) (X m) (Y m) κ η d h A (H m (by omega)) (I m (by omega)) (J m (by omega)) (K m (by omega))
   have a:=cF (dt m X Y-κ*κ*dt m x y) (X m*Y m-κ*κ*(x m*y m))
   rw[show dt m X Y-κ*κ*dt m x y+(X m*Y m-κ*κ*(x m*y m))=dt m X Y+X m*Y m-κ*κ*(dt m x y+x m*y m) by grind]at a
   exact Fd a L s
 have k:=D n (Nat.le_refl _)
 have F:(n:Rat)≤6:=Rat.natCast_le_natCast.2 G
 have z:=Rat.mul_nonneg d h
 have u:=Rat.mul_le_mul_of_nonneg_right F (show 0≤21*(κ*η) by grind)
 have e:6*(21*(κ*η))=126*(κ*η):=by grind
 rw[e]at u
 exact Rat.le_trans k u
theorem Ff(a b g A B G N M κ ε:Rat)(h:0<κ)(Z:0<N)(hM:0<M)(hε:0≤ε)(hA:ab (A-κ*κ*a)≤ε)(hB:ab (B-κ*κ*b)≤ε)(hG:ab (G-κ*κ*g)≤ε)
  (h1:100*(N*N)≤101*a) (h2:100*(M*M)≤101*b) (h3:8796093022208*ab g≤N*M)
  (e1:1000*ε≤κ*κ*(N*N)) (e2:1000*ε≤κ*κ*(M*M)) (e3:8796093022208*ε≤κ*κ*(N*M)):75557863725914323419136*(G*G)≤A*B:=by
 have K:=Rat.mul_pos h h
 have A0:0≤κ*κ*(N*N):=Rat.mul_nonneg (Rat.le_of_lt K) (av N)
 have B0:0≤κ*κ*(M*M):=Rat.mul_nonneg (Rat.le_of_lt K) (av M)
 have lA:=bh (A-κ*κ*a);have lB:=bh (B-κ*κ*b)
 have J:=Rat.mul_le_mul_of_nonneg_left h1 (Rat.le_of_lt K)
 have L:=Rat.mul_le_mul_of_nonneg_left h2 (Rat.le_of_lt K)
 have O:=Rat.mul_le_mul_of_nonneg_left h3 (Rat.le_of_lt K)
 have a1:98*(κ*κ*(N*N))≤100*A:=by
  rw[show κ*κ*(100*(N*N))=100*(κ*κ*(N*N)) by grind,show κ*κ*(101*a)=101*(κ*κ*a) by grind]at J
  generalize κ*κ*a=d at*
  generalize κ*κ*(N*N)=u at*
  generalize ab (A-d)=I at*
  exact zq J lA.2 hA e1 A0
 have a2:98*(κ*κ*(M*M))≤100*B:=by
  rw[show κ*κ*(100*(M*M))=100*(κ*κ*(M*M)) by grind,show κ*κ*(101*b)=101*(κ*κ*b) by grind]at L
  generalize κ*κ*b=d at*
  generalize κ*κ*(M*M)=u at*
  generalize ab (B-d)=I at*
  exact zq L lB.2 hB e2 B0
 have z:4398046511104*ab G≤κ*κ*(N*M):=by
  have t:=cF (G-κ*κ*g) (κ*κ*g)
  rw[show G-κ*κ*g+κ*κ*g=G by grind,bC (κ*κ),aU (Rat.le_of_lt K)]at t
  rw[show κ*κ*(8796093022208*ab g)=8796093022208*(κ*κ*ab g) by grind]at O
  generalize κ*κ*ab g=d at*
  generalize κ*κ*(N*M)=u at*
  generalize ab (G-κ*κ*g)=I at*
  exact Lt t hG O e3
 obtain⟨T,H⟩:∃T,T=κ*κ*(N*M):=⟨_,rfl⟩
 rw[←H]at z
 have D:0≤T:=by rw[H];exact Rat.mul_nonneg (Rat.le_of_lt K) (Rat.mul_nonneg (Rat.le_of_lt Z) (Rat.le_of_lt hM))
 have Q:=Rat.mul_le_mul_of_nonneg_left z (cE G)
 have U:=Rat.mul_le_mul_of_nonneg_right z D
 have q3:4398046511104*(G*G)≤ab G*T:=by
  rw[show ab G*(4398046511104*ab G)=4398046511104*(ab G*ab G) by grind,cq]at Q
  exact Q
 rw[show 4398046511104*ab G*T=4398046511104*(ab G*T) by grind]at U
 have F:=Rat.mul_nonneg D D
 have eT:T*T=κ*κ*(N*N)*(κ*κ*(M*M)):=by rw[H];grind
 have X:=Rat.mul_le_mul_of_nonneg_right a1 (show 0≤98*(κ*κ*(M*M)) by grind)
 have A1:0≤100*A:=by grind
 have Y:=Rat.mul_le_mul_of_nonneg_left a2 A1
 generalize κ*κ*(N*N)=d at*
 generalize κ*κ*(M*M)=u at*
 rw[show 98*d*(98*u)=9604*(d*u) by grind,←eT]at X
 rw[show 100*A*(100*B)=10000*(A*B) by grind]at Y
 generalize A*B=I at*
 generalize ab G*T=v4 at*
 generalize T*T=v5 at*
 generalize G*G=v6 at*
 exact Fe q3 U X Y (by grind) F
def rm(c:Nat)(S:List Nat)(p i:Nat):Rat:=fQ (aP c S i p)
theorem sO(r c:Nat)(S:List Nat)(p i:Nat)(d:i<r):fc (bX r c S p) i=rm c S p i:=by
 unfold fc rm bX KH
 have e:=sj r 1 (fun x y=>aP c S (0+x) (p+y)) (i:=i) (k:=0) d (by omega)
 rw[Nat.mul_one,Nat.add_zero]at e
 rw[e,Nat.zero_add,Nat.add_zero]
theorem Fg(r c:Nat)(S:List Nat)(p q:Nat):kG (bX r c S p) (bX r c S q)=dt r (rm c S p) (rm c S q):=by
 rw[←I9 _ _ (by rw[bt,bt]),bt]
 exact dg (fun i d=>sO r c S p i d) (fun i d=>sO r c S q i d)
theorem oz(r c:Nat)(S:List Nat)(p:Nat):bj (bX r c S p)=dt r (rm c S p) (rm c S p):=by
 rw[j7,bt]
 exact dg (fun i d=>sO r c S p i d) (fun i d=>sO r c S p i d)
theorem Fh{r c low:Nat}{S:List Nat}{B:Rat}(h:bO r c S B)(z:B≤100)(A:r≤6)(D:ai low=true)(F:p2 (-50)≤fQ low)(G:∀p q,p<q→q<c→nA r c low S p q=true){p q:Nat}(d:p<c)(u:q<c)(H:p≠q):
  dt r (rm c S p) (rm c S p)≤7*(fQ low*fQ low)∨dt r (rm c S q) (rm c S q)≤7*(fQ low*fQ low)∨
  ∃N M:Rat,p2 (-50)≤N∧p2 (-50)≤M∧100*(N*N)≤101*dt r (rm c S p) (rm c S p)∧100*(M*M)≤101*dt r (rm c S q) (rm c S q)∧8796093022208*ab (dt r (rm c S p) (rm c S q))≤N*M:=by
 rcases Nat.lt_or_ge p q with g|g
 ·have:=zo h z A d u D F (G p q g u)
  rw[oz,oz,Fg]at this
  exact this
 ·have:=zo h z A u d D F (G q p (by omega) d)
  rw[oz,oz,Fg]at this
  rcases this with a|a|⟨N,M,I,J,K,L,O⟩
  ·exact .inr (.inl a)
  ·exact .inl a
  ·exact .inr (.inr ⟨M,N,J,I,L,K,by rw[ge,Rat.mul_comm M];exact O⟩)
theorem IE{ε a b c:Rat}(h:8796093022208*ε≤a)(d:0≤ε)(u:a≤b)(z:b≤c):ε≤c:=by grind
theorem Fi{a b:Rat}(h:0<a)(d:a≤b):0<b:=by grind
theorem M9{ε a:Rat}(h:8796093022208*ε≤a)(d:0≤ε):1000*ε≤a:=by grind
theorem Bm{X a L A ε d w:Rat}(h:X-d*a≤ε)(u:d*a≤7*L)(z:100*L≤101*w)(D:ε≤w)(F:256*w=A)(p:0≤w):X≤A:=by grind
theorem Bn{A W:List Nat}{k:Int}(h:bS A k){r c:Nat}(hl:A.length=r*c)(hr:r≤6)(hc:c≤6){B:Rat}(Q:bO r c W B)(hB:B≤100)
  (hs:∀p q,p<q→q<c→nA r c (xV (mr (bH (d7 A (-k)))) (-44)) W p q=true) {p q:Nat} (hp:p<c) (hq:q<c) (am:p≠q) (X Y:Nat→Rat)
  (hX:∀i,i<r→X i=fQ (xV (aP c W i p) k)) (hY:∀i,i<r→Y i=fQ (xV (aP c W i q) k)):
  dt r X X≤p2 (-80)*bj A∨dt r Y Y≤p2 (-80)*bj A∨75557863725914323419136*(dt r X Y*dt r X Y)≤dt r X X*dt r Y Y:=by
 have az:A.length≤36:=by rw[hl];exact Nat.mul_le_mul hr hc
 obtain⟨s1,l1,l2,l3⟩:=h.low (by omega)
 have sS:=h.sumS
 have E:∀j,j<c→∀i,i<r→ab (fQ (xV (aP c W i j) k)-rm c W j i*p2 k)≤p2 (-1075):=fun j K i F=>(vw (aP c W i j) k (Q.lt i j F K) (Q.fin i j F K) (Q.small hB F K) h.up).2
 have C:∀j,j<c→∀i,i<r→ab (rm c W j i)≤10:=fun j K i F=>Q.small hB F K
 have P:=aA k
 have O:=aA (-1075)
 have m1:=aK (show-1075≤k by have:=h.up;omega)
 have DX:=fun(j:Nat) (K:j<c) (j':Nat) (aa:j'<c) (Z Z':Nat→Rat) (hZ:∀i,i<r→Z i=fQ (xV (aP c W i j) k)) (an:∀i,i<r→Z' i=fQ (xV (aP c W i j') k))=>
  IC r hr (rm c W j) (rm c W j') Z Z' (p2 k) (p2 (-1075)) (Rat.le_of_lt P) (Rat.le_of_lt O) m1 (C j K) (C j' aa) (fun i F=>by rw[hZ i F];exact E j K i F) (fun i F=>by rw[an i F];exact E j' aa i F)
 have A1:=DX p hp p hp X X hX hX
 have A2:=DX q hq q hq Y Y hY hY
 have A3:=DX p hp q hq X Y hX hY
 --how u the error is
 have m2:=aK (show 100+-1075≤-500+k by have:=h.up;omega)
 have ae:p2 100=1267650600228229401496703205376:=by rw[show(100:Int)=((100:Nat):Int) by rfl,br];rfl
 rw[aL,aL,ae]at m2
 have z:=Rat.mul_le_mul_of_nonneg_left m2 (Rat.le_of_lt P)
 have ax:=aA (-500)
 obtain⟨ε,J⟩:∃ε,ε=126*(p2 k*p2 (-1075)):=⟨_,rfl⟩
 rw[←J]at A1 A2 A3
 have H:0≤ε:=by rw[J];have:=Rat.mul_nonneg (Rat.le_of_lt P) (Rat.le_of_lt O);grind
 have εs:8796093022208*ε≤p2 k*p2 k*p2 (-500):=by
  have nn:=Rat.mul_nonneg (Rat.le_of_lt P) (Rat.le_of_lt O)
  rw[show p2 k*(1267650600228229401496703205376*p2 (-1075))=1267650600228229401496703205376*(p2 k*p2 (-1075)) by grind,show p2 k*(p2 (-500)*p2 k)=p2 k*p2 k*p2 (-500) by grind]at z
  rw[J]
  generalize p2 k*p2 (-1075)=v at*
  grind
 clear z m2 J DX E C hX hY
 have KK:=Rat.mul_pos P P
 have ao:p2 (-80)=256*p2 (-88):=by rw[show(-80:Int)=8+-88 by rfl,aL,show p2 8=256 by rw[show(8:Int)=((8:Nat):Int) by rfl,br];rfl]
 have ar:=aA (-88)
 have kS:p2 k*p2 k*bj (d7 A (-k))=bj A:=by
  rw[sS]
  have e:p2 k*p2 (-k)=1:=by rw[←aL,show k+-k=0 by omega];exact jk
  rw[show p2 k*p2 k*(bj A*(p2 (-k)*p2 (-k)))=bj A*((p2 k*p2 (-k))*(p2 k*p2 (-k))) by grind,e]
  grind
 have hw:ε≤p2 (-88)*bj A:=by
  rw[←kS]
  have m3:=aK (show(-500:Int)≤-88 by decide)
  have v1:=Rat.mul_le_mul_of_nonneg_left m3 (Rat.le_of_lt KK)
  have v2:=Rat.mul_le_mul_of_nonneg_left s1 (show 0≤p2 k*p2 k*p2 (-88)from Rat.mul_nonneg (Rat.le_of_lt KK) (Rat.le_of_lt ar))
  rw[show p2 (-88)*(p2 k*p2 k*bj (d7 A (-k)))=p2 k*p2 k*p2 (-88)*bj (d7 A (-k)) by grind]
  rw[Rat.mul_one]at v2
  generalize p2 k*p2 k*p2 (-88)*bj (d7 A (-k))=y1 at*
  generalize p2 k*p2 k*p2 (-88)=y2 at*
  generalize p2 k*p2 k*p2 (-500)=y3 at*
  exact IE εs H v1 v2
 have w0:0≤p2 (-88)*bj A:=Rat.le_trans H hw
 have G:=Rat.mul_le_mul_of_nonneg_left l3 (Rat.le_of_lt KK)
 rw[show p2 k*p2 k*(101*(p2 (-88)*bj (d7 A (-k))))=101*(p2 (-88)*(p2 k*p2 k*bj (d7 A (-k)))) by grind,kS]at G
 generalize xV (mr (bH (d7 A (-k)))) (-44)=low at*
 rw[show p2 k*p2 k*(100*(fQ low*fQ low))=100*(p2 k*p2 k*(fQ low*fQ low)) by grind]at G
 have u:∀(d D:Rat),ab (D-p2 k*p2 k*d)≤ε→d≤7*(fQ low*fQ low)→D≤p2 (-80)*bj A:=by
  intro d D h1 h2
  have t:=bh (D-p2 k*p2 k*d)
  have h3:=Rat.mul_le_mul_of_nonneg_left h2 (Rat.le_of_lt KK)
  rw[show p2 k*p2 k*(7*(fQ low*fQ low))=7*(p2 k*p2 k*(fQ low*fQ low)) by grind]at h3
  refine Bm (Rat.le_trans t.1 h1) h3 G hw ?_ w0
  rw[ao,Rat.mul_assoc]
 rcases Fh Q hB hr l1 l2 hs hp hq am with g|g|⟨N,M,a1,a2,a3,a4,a5⟩
 ·exact .inl (u _ _ A1 g)
 ·exact .inr (.inl (u _ _ A2 g))
 ·refine .inr (.inr ?_)
  have I:=aA (-50)
  have N0:0<N:=Fi I a1
  have M0:0<M:=Fi I a2
  have e5:p2 (-50)*p2 (-50)=p2 (-100):=by rw[←aL];rfl
  have m3:=aK (show(-500:Int)≤-100 by decide)
  have L:∀U V:Rat,p2 (-50)≤U→p2 (-50)≤V→8796093022208*ε≤p2 k*p2 k*(U*V):=by
   intro U V hU hV
   have U0:0≤U:=Rat.le_of_lt (Fi I hU)
   have y1:=Rat.mul_le_mul_of_nonneg_left hV U0
   have y2:=Rat.mul_le_mul_of_nonneg_right hU (Rat.le_of_lt I)
   rw[e5]at y2
   have y3:=Rat.mul_le_mul_of_nonneg_left (Rat.le_trans m3 (Rat.le_trans y2 y1)) (Rat.le_of_lt KK)
   exact Rat.le_trans εs y3
  have ah:∀U V:Rat,p2 (-50)≤U→p2 (-50)≤V→1000*ε≤p2 k*p2 k*(U*V):=fun U V hU hV=>M9 (L U V hU hV) H
  exact Ff _ _ _ _ _ _ N M (p2 k) ε P N0 M0 H A1 A2 A3 a3 a4 a5 (ah N N a1 a1) (ah M M a2 a2) (L N M a1 a2)
theorem dO(f:Nat→Rat):∀n,d6 f n=sm n f
 |0=>rfl
 |n+1=>by
  show d6 f n+f n=sm n f+f n
  rw[dO f n]
def jj(p q:Nat)(c s:Rat)(x:Nat→Rat)(j:Nat):Rat:=if j=p then c*x p-s*x q else if j=q then s*x p+c*x q else x j
theorem vx{m p q:Nat}(z:p<m)(A:q<m)(u:p≠q)(c s e f:Rat)(v d x:Nat→Rat)(D:d p=c*v p+s*v q+e)(F:d q=c*v q-s*v p+f)(G:∀j,j<m→j≠p→j≠q→d j=v j):
  dt m d x=dt m v (jj p q c s x)+(e*x p+f*x q):=by
 have k:=gE (f:=fun j=>d j*x j) (g:=fun j=>v j*jj p q c s x j) u m (fun j H a b=>by
  show d j*x j=v j*jj p q c s x j
  unfold jj
  rw[G j H a b,if_neg a,if_neg b])
 rw[if_pos z,if_pos A,dO,dO]at k
 have I:jj p q c s x p=c*x p-s*x q:=by unfold jj;rw[if_pos rfl]
 have J:jj p q c s x q=s*x p+c*x q:=by unfold jj;rw[if_neg (fun h=>u h.symm),if_pos rfl]
 show sm m (fun j=>d j*x j)=sm m (fun j=>v j*jj p q c s x j)+_
 rw[k]
 show _+(d p*x p-v p*jj p q c s x p)+(d q*x q-v q*jj p q c s x q)=_
 rw[I,J,D,F]
 grind
theorem Jq{m p q:Nat}(u:p<m)(z:q<m)(d:p≠q)(c s:Rat)(x:Nat→Rat):dt m (jj p q c s x) (jj p q c s x)=dt m x x+(c*c+s*s-1)*(x p*x p+x q*x q):=by
 have k:=gE (f:=fun j=>jj p q c s x j*jj p q c s x j) (g:=fun j=>x j*x j) d m (fun j _ a b=>by
  show jj p q c s x j*jj p q c s x j=x j*x j
  unfold jj
  rw[if_neg a,if_neg b])
 rw[if_pos u,if_pos z,dO,dO]at k
 have A:jj p q c s x p=c*x p-s*x q:=by unfold jj;rw[if_pos rfl]
 have D:jj p q c s x q=s*x p+c*x q:=by unfold jj;rw[if_neg (fun h=>d h.symm),if_pos rfl]
 show sm m (fun j=>jj p q c s x j*jj p q c s x j)=sm m (fun j=>x j*x j)+_
 rw[k]
 show _+(jj p q c s x p*jj p q c s x p-x p*x p)+(jj p q c s x q*jj p q c s x q-x q*x q)=_
 rw[A,D]
 grind
theorem Fj{m p q:Nat}(u:p<m)(A:q<m)(d:p≠q)(x:Nat→Rat):x p*x p+x q*x q≤dt m x x:=by
 have k:=gE (f:=fun j=>x j*x j) (g:=fun j=>if j=p∨j=q then 0 else x j*x j) d m (fun j _ a b=>by
  show x j*x j=if j=p∨j=q then 0 else x j*x j
  rw[if_neg (fun h=>h.elim a b)])
 rw[if_pos u,if_pos A]at k
 have z:=xT (f:=fun j=>if j=p∨j=q then 0 else x j*x j) m (fun j _=>by
  show 0≤if j=p∨j=q then 0 else x j*x j
  split
  ·exact Rat.le_refl
  ·exact av _)
 have e:d6 (fun j=>x j*x j) m=dt m x x:=dO _ m
 rw[←e,k]
 show _≤_+(x p*x p-if p=p∨p=q then 0 else x p*x p)+(x q*x q-if q=p∨q=q then 0 else x q*x q)
 rw[if_pos (.inl rfl),if_pos (.inr rfl)]
 grind
theorem Lu(n:Nat)(l:Rat)(u d:Nat→Rat):l*(2*ab (dt n u d))≤l*l*dt n u u+dt n d d:=by
 have h:∀t:Rat,t*t=l*l→-(2*(t*dt n u d))≤l*l*dt n u u+dt n d d:=by
  intro t A
  have z:=jE n (fun i=>t*u i+d i)
  rw[pk,ej,ej,jD,jD,gf,gf,ge n d u]at z
  rw[show t*(t*dt n u u)=t*t*dt n u u by grind,A]at z
  grind
 have a:=h l rfl
 have b:=h (-l) (by grind)
 unfold ab
 split<;>grind
def vU(n m:Nat)(v:Nat→Nat→Rat)(ε:Rat):Prop:=∀x:Nat→Rat,ab (dt n (fun i=>dt m (v i) x) (fun i=>dt m (v i) x)-dt m x x)≤ε*dt m x x
theorem IF{U D G X Z θ ε:Rat}(h:ab (U-G)≤ε*G)(z:G=X+Z)(F:562949953421312*ab Z≤X)(hD:81129638414606681695789005144064*D≤108*X)(H:0≤D)(I:0≤X)(u:1000*ε≤1)(d:0≤ε)
  (J:11*(2*ab θ)≤11*(11/9007199254740992)*U+9007199254740992*D):ab (U+(2*θ+D)-X)≤(ε+40/9007199254740992)*X:=by
 have A:=bh Z
 have lU:=bh (U-G)
 have K:=bh θ
 have L:ε*G=ε*X+ε*Z:=by rw[z];grind
 have O:=Rat.mul_le_mul_of_nonneg_right u I
 have Q:=Rat.mul_le_mul_of_nonneg_left F d
 have e4:=Rat.mul_le_mul_of_nonneg_left A.1 d
 have Y:=Rat.mul_le_mul_of_nonneg_left A.2 d
 rw[L]at h
 rw[Rat.add_mul]
 have ez:ε* -Z= -(ε*Z):=by grind
 rw[ez]at Y
 rw[show ε*(562949953421312*ab Z)=562949953421312*(ε*ab Z) by grind]at Q
 rw[show 1000*ε*X=1000*(ε*X) by grind]at O
 subst z
 generalize ε*ab Z=w1 at*
 generalize ε*Z=w2 at*
 generalize ε*X=w3 at*
 generalize ab (U-(X+Z))=w4 at*
 generalize ab Z=w5 at*
 generalize ab θ=w6 at*
 refine nr ?_ ?_ <;>grind
theorem nf{f:Nat→Rat}{M:Rat}:∀n,(∀j,j<n→f j≤M)→d6 f n≤(n:Rat)*M
 |0,_=>by
  show(0:Rat)≤((0:Nat):Rat)*M
  have:((0:Nat):Rat)=0:=rfl
  rw[this];grind
 |n+1,h=>by
  have z:=nf n (fun j u=>h j (by omega))
  have d:((n+1:Nat):Rat)=(n:Rat)+1:=by rw[Rat.natCast_add];rfl
  have:=h n (by omega)
  show d6 f n+f n≤_
  rw[d,Rat.add_mul,Rat.one_mul]
  grind
theorem Lv{e f a b X:Rat}(d:9007199254740992*ab e≤3)(u:9007199254740992*ab f≤3)(h:a*a+b*b≤X):81129638414606681695789005144064*((e*a+f*b)*(e*a+f*b))≤18*X:=by
 have A:=cE e;have D:=cE f
 have F:=Rat.mul_le_mul_of_nonneg_left d A
 have G:=Rat.mul_le_mul_of_nonneg_left u D
 have I:81129638414606681695789005144064*(e*e)≤9:=by
  rw[←cq e]
  rw[show ab e*(9007199254740992*ab e)=9007199254740992*(ab e*ab e) by grind]at F
  generalize ab e*ab e=w at*
  grind
 have J:81129638414606681695789005144064*(f*f)≤9:=by
  rw[←cq f]
  rw[show ab f*(9007199254740992*ab f)=9007199254740992*(ab f*ab f) by grind]at G
  generalize ab f*ab f=w at*
  grind
 have z:=av (e*b-f*a)
 have H:0≤a*a+b*b:=by have:=av a;have:=av b;grind
 have k:(e*a+f*b)*(e*a+f*b)+(e*b-f*a)*(e*b-f*a)=(e*e+f*f)*(a*a+b*b):=by grind
 have m:=Rat.mul_le_mul_of_nonneg_right (show 81129638414606681695789005144064*(e*e+f*f)≤18 by grind) H
 rw[show 81129638414606681695789005144064*(e*e+f*f)*(a*a+b*b)=81129638414606681695789005144064*((e*e+f*f)*(a*a+b*b)) by grind,←k]at m
 generalize (e*a+f*b)*(e*a+f*b)=K at*
 generalize (e*b-f*a)*(e*b-f*a)=L at*
 generalize a*a+b*b=O at*
 grind
theorem vU.turn{n m p q:Nat}(hn:n≤6)(G:p<m)(H:q<m)(A:p≠q){c s ε:Rat}{v z:Nat→Nat→Rat}(h:vU n m v ε)(I:1000*ε≤1)(D:0≤ε)(J:562949953421312*ab (c*c+s*s-1)≤1)
  (he:∀i,i<n→9007199254740992*ab (z i p-(c*v i p+s*v i q))≤3) (hf:∀i,i<n→9007199254740992*ab (z i q-(c*v i q-s*v i p))≤3)
  (h3:∀i,i<n→∀j,j<m→j≠p→j≠q→z i j=v i j):vU n m z (ε+40/9007199254740992):=by
 intro x
 obtain⟨u,hu⟩:∃u:Nat→Rat,u=fun i=>dt m (v i) (jj p q c s x):=⟨_,rfl⟩
 obtain⟨d,hd⟩:∃d:Nat→Rat,d=fun i=>(z i p-(c*v i p+s*v i q))*x p+(z i q-(c*v i q-s*v i p))*x q:=⟨_,rfl⟩
 have O:∀i,i<n→dt m (z i) x=u i+d i:=fun i F=>by
  rw[hu,hd]
  exact vx G H A c s (z i p-(c*v i p+s*v i q)) (z i q-(c*v i q-s*v i p)) (v i) (z i) x (by grind) (by grind) (h3 i F)
 have Q:dt n (fun i=>dt m (z i) x) (fun i=>dt m (z i) x)=dt n u u+(2*dt n u d+dt n d d):=by
  rw[dg O O,pk,ej,ej,ge n d u]
  grind
 have X0:=jE m x
 have U:=Fj G H A x
 have D0:=jE n d
 have X:81129638414606681695789005144064*dt n d d≤108*dt m x x:=by
  have k:=nf (f:=fun i=>81129638414606681695789005144064*(d i*d i)) (M:=18*dt m x x) n (fun i F=>by
   show 81129638414606681695789005144064*(d i*d i)≤18*dt m x x
   rw[hd]
   exact Lv (he i F) (hf i F) U)
  have e:d6 (fun i=>81129638414606681695789005144064*(d i*d i)) n=81129638414606681695789005144064*dt n d d:=by
   have g:∀k,d6 (fun i=>81129638414606681695789005144064*(d i*d i)) k=81129638414606681695789005144064*dt k d d:=by
    intro k
    induction k with
    |zero=>show(0:Rat)=_*0;grind
    |succ k ih=>
     show d6 (fun i=>81129638414606681695789005144064*(d i*d i)) k+81129638414606681695789005144064*(d k*d k)=81129638414606681695789005144064*(dt k d d+d k*d k)
     rw[ih]
     grind
   exact g n
  rw[e]at k
  have K:(n:Rat)≤6:=Rat.natCast_le_natCast.2 hn
  have u:=Rat.mul_le_mul_of_nonneg_right K (show 0≤18*dt m x x by grind)
  rw[show 6*(18*dt m x x)=108*dt m x x by grind]at u
  exact Rat.le_trans k u
 have T:=Lu n (11/9007199254740992) u d
 have L:=h (jj p q c s x)
 rw[Q]
 have eu:dt n (fun i=>dt m (v i) (jj p q c s x)) (fun i=>dt m (v i) (jj p q c s x))=dt n u u:=by rw[hu]
 rw[eu]at L
 refine IF L (Jq G H A c s x) ?_ X D0 X0 I D ?_
 ·have Y:0≤x p*x p+x q*x q:=by have:=av (x p);have:=av (x q);grind
  rw[bC,aU Y]
  have Z:=Rat.mul_le_mul_of_nonneg_right J Y
  rw[Rat.mul_assoc,Rat.one_mul]at Z
  exact Rat.le_trans Z U
 ·generalize dt n u u=w1 at*
  generalize dt n d d=w2 at*
  generalize ab (dt n u d)=w3 at*
  clear Q X L
  grind
def p7(r c:Nat)(R:Nat→Nat→Rat)(β:Rat):Prop:=∀(x:Nat→Rat) (t:Rat),0≤t→dt c x x≤t*t→Bd r (fun i=>dt c (R i) x) (β*t)
theorem p7.turn{r m p q:Nat}(z:p<m)(A:q<m)(u:p≠q){c s β γ:Rat}{R R':Nat→Nat→Rat}{e f:Nat→Rat}(h:p7 r m R β)(H:562949953421312*ab (c*c+s*s-1)≤1)
  (I:Bd r e γ) (J:Bd r f γ) (K:∀i,i<r→R' i p=c*R i p+s*R i q+e i) (L:∀i,i<r→R' i q=c*R i q-s*R i p+f i)
  (O:∀i,i<r→∀j,j<m→j≠p→j≠q→R' i j=R i j):p7 r m R' (β+1/562949953421312*β+2*γ):=by
 intro x t ht hx
 have pq:=Fj z A u x
 have x0:=av (x p);have y0:=av (x q)
 --the vector turned
 have g:dt m (jj p q c s x) (jj p q c s x)≤(t+1/562949953421312*t)*(t+1/562949953421312*t):=by
  rw[Jq z A u c s x]
  have l:=bh (c*c+s*s-1)
  have Q:0≤x p*x p+x q*x q:=by grind
  have F:=Rat.mul_le_mul_of_nonneg_right (show 562949953421312*(c*c+s*s-1)≤1 by grind) Q
  rw[show 562949953421312*(c*c+s*s-1)*(x p*x p+x q*x q)=562949953421312*((c*c+s*s-1)*(x p*x p+x q*x q)) by grind]at F
  have tt:=av t
  rw[show(t+1/562949953421312*t)*(t+1/562949953421312*t)=t*t+2/562949953421312*(t*t)+1/316912650057057350374175801344*(t*t) by grind]
  generalize (c*c+s*s-1)*(x p*x p+x q*x q)=w1 at*
  generalize t*t=w2 at*
  generalize x p*x p=w3 at*
  generalize x q*x q=w4 at*
  grind
 have U:=h (jj p q c s x) (t+1/562949953421312*t) (by grind) g
 have d:∀k:Rat,k*k≤t*t→∀y:Nat→Rat,Bd r y γ→Bd r (fun i=>k*y i) (γ*t):=by
  intro k hk y G
  refine⟨Rat.mul_nonneg G.1 ht,?_⟩
  rw[jD,gf]
  have X:=G.2
  have F:=Rat.mul_le_mul_of_nonneg_left X (av k)
  have Y:=Rat.mul_le_mul_of_nonneg_right hk (av γ)
  rw[show k*(k*dt r y y)=k*k*dt r y y by grind,show γ*t*(γ*t)=t*t*(γ*γ) by grind]
  exact Rat.le_trans F Y
 have Z:=d (x p) (by grind) e I
 have B3:=d (x q) (by grind) f J
 have B:=(U.add Z).add B3
 have E:dt r (fun i=>dt m (R' i) x) (fun i=>dt m (R' i) x)=dt r (fun i=>dt m (R i) (jj p q c s x)+x p*e i+x q*f i) (fun i=>dt m (R i) (jj p q c s x)+x p*e i+x q*f i):=by
  have k:∀i,i<r→dt m (R' i) x=dt m (R i) (jj p q c s x)+x p*e i+x q*f i:=fun i D=>by
   rw[vx z A u c s (e i) (f i) (R i) (R' i) x (K i D) (L i D) (O i D)]
   grind
  exact dg k k
 have b:=B.2
 have n:=B.1
 have eq:β*(t+1/562949953421312*t)+γ*t+γ*t=(β+1/562949953421312*β+2*γ)*t:=by grind
 rw[eq]at b n
 exact⟨n,by rw[E];exact b⟩
def Bt(m:Nat)(S W V:Nat→Nat→Rat)(i j:Nat):Rat:=W i j-dt m (S i) (fun k=>V k j)
theorem p7.vec{r m:Nat}{S:Nat→Nat→Rat}{F γ:Rat}(h:p7 r m S F){y:Nat→Rat}(d:Bd m y γ):Bd r (fun i=>dt m (S i) y) (F*γ):=h y γ d.1 d.2
theorem Fk{r m p q:Nat}(J:p<m)(K:q<m)(D:p≠q){c s β γ δ F:Rat}{S W V u d:Nat→Nat→Rat}{e f g k:Nat→Rat}(L:p7 r m S F)(h:p7 r m (Bt m S W V) β)(G:562949953421312*ab (c*c+s*s-1)≤1)
  (O:Bd r e γ) (Q:Bd r f γ) (U:Bd m g δ) (X:Bd m k δ) (Y:∀i,i<r→u i p=c*W i p+s*W i q+e i) (Z:∀i,i<r→u i q=c*W i q-s*W i p+f i)
  (h3:∀i,i<r→∀j,j<m→j≠p→j≠q→u i j=W i j) (v1:∀i,i<m→d i p=c*V i p+s*V i q+g i) (v2:∀i,i<m→d i q=c*V i q-s*V i p+k i)
  (v3:∀i,i<m→∀j,j<m→j≠p→j≠q→d i j=V i j):p7 r m (Bt m S u d) (β+1/562949953421312*β+2*(γ+F*δ)):=by
 have neg:∀y:Nat→Rat,Bd m y δ→Bd r (fun i=>-1*dt m (S i) y) (F*δ):=fun y hy=>by
  have b:=(L.vec hy).mul (-1)
  rw[show ab (-1:Rat)=1 by unfold ab;grind,Rat.one_mul]at b
  exact b
 refine h.turn J K D G (O.add (neg g U)) (Q.add (neg k X)) (fun i z=>?_) (fun i z=>?_) (fun i z j I a b=>?_)
 ·have H:dt m (S i) (fun l=>d l p)=c*dt m (S i) (fun l=>V l p)+s*dt m (S i) (fun l=>V l q)+dt m (S i) g:=by
   rw[dg (x:=S i) (x':=S i) (y:=fun l=>d l p) (y':=fun l=>c*V l p+s*V l q+g l) (fun _ _=>rfl) (fun l A=>v1 l A),ej,ej,gf,gf]
  show u i p-dt m (S i) (fun l=>d l p)=c*(W i p-dt m (S i) (fun l=>V l p))+s*(W i q-dt m (S i) (fun l=>V l q))+(e i+-1*dt m (S i) g)
  rw[H,Y i z]
  grind
 ·have H:dt m (S i) (fun l=>d l q)=c*dt m (S i) (fun l=>V l q)+-s*dt m (S i) (fun l=>V l p)+dt m (S i) k:=by
   rw[dg (x:=S i) (x':=S i) (y:=fun l=>d l q) (y':=fun l=>c*V l q+-s*V l p+k l) (fun _ _=>rfl) (fun l A=>by rw[v2 l A];grind),ej,ej,gf,gf]
  show u i q-dt m (S i) (fun l=>d l q)=c*(W i q-dt m (S i) (fun l=>V l q))-s*(W i p-dt m (S i) (fun l=>V l p))+(f i+-1*dt m (S i) k)
  rw[H,Z i z]
  grind
 ·show u i j-dt m (S i) (fun l=>d l j)=W i j-dt m (S i) (fun l=>V l j)
  rw[h3 i z j I a b,dg (x:=S i) (x':=S i) (y:=fun l=>d l j) (y':=fun l=>V l j) (fun _ _=>rfl) (fun l A=>v3 l A j I a b)]
def cR(c:Nat)(S:List Nat)(i j:Nat):Rat:=fQ (aP c S i j)
theorem vU.mono{n m:Nat}{v:Nat→Nat→Rat}{ε δ:Rat}(h:vU n m v ε)(d:ε≤δ):vU n m v δ:=fun x=>Rat.le_trans (h x) (Rat.mul_le_mul_of_nonneg_right d (jE m x))
def Fl(c:Nat)(s:Sd)(n:Nat):Prop:=vU c c (cR c s.V) ((n:Rat)*(40/9007199254740992))
theorem xU{m n:Nat}(h:m≤n):(m:Rat)*(40/9007199254740992)≤(n:Rat)*(40/9007199254740992):=Rat.mul_le_mul_of_nonneg_right (Rat.natCast_le_natCast.2 h) (by grind)
theorem mi{n:Nat}(h:n≤4000):1000*((n:Rat)*(40/9007199254740992))≤1∧0≤(n:Rat)*(40/9007199254740992):=by
 have:=xU h
 have e:((4000:Nat):Rat)=4000:=rfl
 rw[e]at this
 exact⟨by grind,Rat.mul_nonneg Rat.natCast_nonneg (by grind)⟩
theorem Fm{a b B:Rat}(h:a*a+b*b≤B)(d:1000*B≤1001):1000*(ab a+ab b)≤1416:=by
 have z:=av (ab a-ab b)
 have u:=cq a;have A:=cq b
 have D:=cE a;have F:=cE b
 have k:(ab a+ab b)*(ab a+ab b)≤2002/1000:=by grind
 rcases Rat.le_total (a:=1000*(ab a+ab b)) (b:=1416)with g|g
 ·exact g
 ·have m:=Rat.mul_le_mul_of_nonneg_right g (show 0≤ab a+ab b by grind)
  rw[show 1000*(ab a+ab b)*(ab a+ab b)=1000*((ab a+ab b)*(ab a+ab b)) by grind]at m
  grind
theorem Fn{c:Nat}{S:List Nat}{B:Rat}(h:bO c c S B)(K:1000*B≤1001)(L:c≤6){p q C s:Nat}(u:p<c)(z:q<c)(A:p≠q)(fc:ai C=true)(O:ai s=true)
  (D:562949953421312*ab (fQ C*fQ C+fQ s*fQ s-1)≤1) {ε:Rat} (Q:vU c c (cR c S) ε) (H:1000*ε≤1) (F:0≤ε):vU c c (cR c (gD c c S p q C s)) (ε+40/9007199254740992):=by
 obtain⟨Z,s1⟩:=mf D
 obtain⟨n1,n2,n3⟩:=dI
 have G:B≤100:=by grind
 have I:=fun i (d:i<c)=>me C s (aP c S i p) (aP c S i q) fc O (h.fin i p d u) (h.fin i q d z) Z s1 (by have:=h.small G d u;grind) (by have:=h.small G d z;grind)
 have J:=fun i (d:i<c)=>Fm (B:=B) (a:=fQ (aP c S i p)) (b:=fQ (aP c S i q)) (by
  have k:=Fj u z A (fun j=>fQ (aP c S i j))
  have k2:=h.sq i d
  rw[dO]at k2
  exact Rat.le_trans k k2) K
 refine Q.turn L u z A H F D (fun i d=>?_) (fun i d=>?_) (fun i d j U X Y=>?_)
 ·obtain⟨_,_,a3,_⟩:=I i d
  have b:=J i d
  show 9007199254740992*ab (fQ (aP c (gD c c S p q C s) i p)-(fQ C*fQ (aP c S i p)+fQ s*fQ (aP c S i q)))≤3
  rw[bY c c S p q C s u z d u,if_pos rfl]
  grind
 ·obtain⟨_,_,_,a4⟩:=I i d
  have b:=J i d
  show 9007199254740992*ab (fQ (aP c (gD c c S p q C s) i q)-(fQ C*fQ (aP c S i q)-fQ s*fQ (aP c S i p)))≤3
  rw[bY c c S p q C s u z d z,if_neg (fun h=>A h.symm),if_pos rfl]
  grind
 ·show fQ (aP c (gD c c S p q C s) i j)=fQ (aP c S i j)
  rw[bY c c S p q C s u z d U,if_neg X,if_neg Y]
def pT(r c:Nat)(B:Rat)(s:Sd)(n:Nat):Prop:=vm r c B 1 s n∧Fl c s n
theorem pT.mono{r c:Nat}{B:Rat}{s:Sd}{m n:Nat}(h:pT r c B s m)(d:m≤n):pT r c B s n:=⟨h.1.mono d,vU.mono h.2 (xU d)⟩
theorem pT.step{r c low p q n:Nat}{B:Rat}{s:Sd}(T:im r c low)(h:pT r c B s n)(d:n≤4000)(A:B≤99)(D:c≤6)(F:p<q)(u:q<c):pT r c B (ou r c low p q s) (n+1):=by
 refine⟨h.1.step T d A (by grind) F u,?_⟩
 unfold ou
 split
 ·exact vU.mono h.2 (xU (by omega))
 next e=>
  have k:=mZ d
  have G:B+(n:Rat)*(1/1099511627776)≤100:=by grind
  have k2:1000*(1+(n:Rat)*(1/1099511627776))≤1001:=by
   have:=sL d
   have H:((4000:Nat):Rat)=4000:=rfl
   rw[H]at this
   grind
  obtain⟨L,O⟩:=T s.W p q (h.1.1.mono G) (by omega) u (by cases h2:nA r c low s.W p q with|false=>rfl|true=>exact absurd h2 e)
  obtain⟨Q,U,X⟩:=kP _ L O
  have z:qu (iO r c s.W p q)<18446744073709551616:=df _ _
  have I:ai (fN (qu (iO r c s.W p q)))=true:=by rw[jW _ z];exact U
  have J:=sM z X
  have K:((n+1:Nat):Rat)=(n:Rat)+1:=by rw[Rat.natCast_add];rfl
  obtain⟨z1,z2⟩:=mi d
  have w:=Fn h.1.2 k2 D (p:=p) (q:=q) (by omega) u (by omega) Q I J h.2 z1 z2
  unfold Fl
  rw[K,Rat.add_mul,Rat.one_mul]
  exact w
theorem pT.inner{r c low p n:Nat}{B:Rat}{s:Sd}(T:im r c low)(h:pT r c B s n)(d:B≤99)(u:c≤6):∀t,p+t<c→n+t≤4000→pT r c B (kR r c low p s t) (n+t)
 |0,_,_=>h
 |t+1,ht,hn=>by
  have z:=pT.inner (p:=p) T h d u t (by omega) (by omega)
  have e:kR r c low p s (t+1)=ou r c low p (p+1+t) (kR r c low p s t):=rfl
  rw[e]
  exact pT.step (q:=p+1+t) (n:=n+t) T z (by omega) d u (by omega) (by omega)
theorem pT.outer{r c low n:Nat}{B:Rat}{s:Sd}(T:im r c low)(h:pT r c B s n)(d:B≤99)(u:c≤6):∀k,k≤c→n+E8 c k≤4000→pT r c B (ms r c low s k) (n+E8 c k)
 |0,_,_=>h
 |k+1,hk,hn=>by
  have z:E8 c (k+1)=E8 c k+(c-1-k):=rfl
  rw[z]at hn⊢
  have A:=pT.outer T h d u k (by omega) (by omega)
  have e:ms r c low s (k+1)=kR r c low k (ms r c low s k) (c-1-k):=rfl
  rw[e]
  exact(A.inner T d u (c-1-k) (by omega) (by omega)).mono (by omega)
theorem pT.rounds{r c low:Nat}{B:Rat}{s:Sd}(T:im r c low)(h:pT r c B s 0)(z:B≤99)(d:c≤6):∀k,k≤60→pT r c B (eM r c low s k) (15*k)
 |0,_=>h
 |k+1,hk=>by
  have A:=pT.rounds T h z d k (by omega)
  have t:=E9 d
  have e:eM r c low s (k+1)=if(eM r c low s k).still=true then eM r c low s k else yX r c low (eM r c low s k):=rfl
  rw[e]
  split
  ·exact A.mono (by omega)
  ·have D:yX r c low (eM r c low s k)=ms r c low ⟨(eM r c low s k).W,(eM r c low s k).V,true⟩ c:=rfl
   rw[D]
   have u:pT r c B ⟨(eM r c low s k).W,(eM r c low s k).V,true⟩ (15*k):=A
   exact(u.outer T z d c (Nat.le_refl _) (by omega)).mono (by omega)
theorem ig:∀n,d6 (fun _=>0) n=0
 |0=>rfl
 |n+1=>by
  show d6 (fun _=>0) n+0=0
  rw[ig n]
  grind
theorem sP{m a:Nat}(d:a<m)(w x:Nat→Rat)(h:∀j,j<m→j≠a→w j*x j=0):dt m w x=w a*x a:=by
 have k:=gE (f:=fun j=>w j*x j) (g:=fun _=>0) (p:=a) (q:=m) (by omega) m (fun j u z _=>h j u z)
 rw[ig,if_pos d,if_neg (by omega),dO]at k
 show sm m (fun j=>w j*x j)=_
 rw[k]
 grind
theorem oA{m a b:Nat}(u:a<m)(z:b<m)(d:a≠b)(w x:Nat→Rat)(h:∀j,j<m→j≠a→j≠b→w j*x j=0):dt m w x=w a*x a+w b*x b:=by
 have k:=gE (f:=fun j=>w j*x j) (g:=fun _=>0) d m (fun j A D F=>h j A D F)
 rw[ig,if_pos u,if_pos z,dO]at k
 show sm m (fun j=>w j*x j)=_
 rw[k]
 grind
theorem sQ(c:Nat):vU c c (cR c (iL c)) 0:=by
 intro x
 have e:∀i,i<c→dt c (cR c (iL c) i) x=x i:=fun i d=>by
  have z:∀j,j<c→cR c (iL c) i j=if j=i then 1 else 0:=fun j u=>by
   unfold cR
   have e:=lP c c (fun i k=>if k=i then 4607182418800017408 else 0) d u
   have A:aP c (iL c) i j=if j=i then 4607182418800017408 else 0:=e
   rw[A]
   split
   ·exact gW
   ·exact bu 0 (by decide)
  rw[sP d _ x (fun j u h=>by rw[z j u,if_neg h];grind),z i d,if_pos rfl]
  grind
 rw[dg e e,show dt c x x-dt c x x=0 by grind,iN]
 grind
def sR(a b:Nat)(t:Rat)(j:Nat):Rat:=if j=a then 1 else if j=b then t else 0
theorem Fo{n m a b:Nat}{v:Nat→Nat→Rat}{ε:Rat}(h:vU n m v ε)(D:a<m)(F:b<m)(d:a≠b):
  ab (dt n (fun i=>v i a) (fun i=>v i b))≤ε∧ab (dt n (fun i=>v i a) (fun i=>v i a)-1)≤ε:=by
 have u:∀t:Rat,ab (dt n (fun i=>v i a) (fun i=>v i a)+2*(t*dt n (fun i=>v i a) (fun i=>v i b))+t*t*dt n (fun i=>v i b) (fun i=>v i b)-(1+t*t))≤ε*(1+t*t):=by
  intro t
  have k:=h (sR a b t)
  have G:sR a b t a=1:=by unfold sR;rw[if_pos rfl]
  have H:sR a b t b=t:=by unfold sR;rw[if_neg (fun h=>d h.symm),if_pos rfl]
  have I:∀j,j≠a→j≠b→sR a b t j=0:=fun j z A=>by unfold sR;rw[if_neg z,if_neg A]
  have J:∀i,i<n→dt m (v i) (sR a b t)=v i a+t*v i b:=fun i _=>by
   rw[oA D F d _ _ (fun j _ z A=>by rw[I j z A];grind),G,H]
   grind
  have K:dt m (sR a b t) (sR a b t)=1+t*t:=by
   rw[oA D F d _ _ (fun j _ z A=>by rw[I j z A];grind),G,H]
   grind
  rw[dg J J,K,pk,ej,ej,gf,jD n t,gf,jD n t,ge n (fun i=>v i b) (fun i=>v i a)]at k
  rw[show dt n (fun i=>v i a) (fun i=>v i a)+t*dt n (fun i=>v i a) (fun i=>v i b)+(t*dt n (fun i=>v i a) (fun i=>v i b)+t*(t*dt n (fun i=>v i b) (fun i=>v i b)))=dt n (fun i=>v i a) (fun i=>v i a)+2*(t*dt n (fun i=>v i a) (fun i=>v i b))+t*t*dt n (fun i=>v i b) (fun i=>v i b) by grind]at k
  exact k
 have L:=u 1
 have k2:=u (-1)
 have O:=u 0
 have Q:=bh (dt n (fun i=>v i a) (fun i=>v i a)+2*(1*dt n (fun i=>v i a) (fun i=>v i b))+1*1*dt n (fun i=>v i b) (fun i=>v i b)-(1+1*1))
 have U:=bh (dt n (fun i=>v i a) (fun i=>v i a)+2*(-1*dt n (fun i=>v i a) (fun i=>v i b))+-1* -1*dt n (fun i=>v i b) (fun i=>v i b)-(1+-1* -1))
 have X:=bh (dt n (fun i=>v i a) (fun i=>v i a)+2*(0*dt n (fun i=>v i a) (fun i=>v i b))+0*0*dt n (fun i=>v i b) (fun i=>v i b)-(1+0*0))
 generalize dt n (fun i=>v i a) (fun i=>v i a)=Y at*
 generalize dt n (fun i=>v i a) (fun i=>v i b)=Z at*
 generalize dt n (fun i=>v i b) (fun i=>v i b)=w3 at*
 exact⟨nr (by grind) (by grind),nr (by grind) (by grind)⟩
theorem bS.endI{A:List Nat}{k:Int}(h:bS A k){r c:Nat}(u:A.length=r*c)(D:r≤6)(d:c≤6)(n:Nat)(F:n≤60):
  pT r c 24 (Fz r c (d7 A (-k)) n) (15*n):=by
 have G:A.length≤36:=by rw[u];exact Nat.mul_le_mul D d
 obtain⟨_,H,I,_⟩:=h.low (by omega)
 have z:((0:Nat):Rat)*(1/1099511627776)=0:=by
  have:((0:Nat):Rat)=0:=rfl
  rw[this,Rat.zero_mul]
 have z2:((0:Nat):Rat)*(40/9007199254740992)=0:=by
  have:((0:Nat):Rat)=0:=rfl
  rw[this,Rat.zero_mul]
 unfold Fz
 refine pT.rounds (zk D H I) ⟨⟨by rw[z,Rat.add_zero];exact h.rows u d,by rw[z,Rat.add_zero];exact pR c⟩,?_⟩ (by grind) d n F
 unfold Fl
 rw[z2]
 exact sQ c
end Go.Proofs.YtcbcmlaogehimaaGreatDoor
