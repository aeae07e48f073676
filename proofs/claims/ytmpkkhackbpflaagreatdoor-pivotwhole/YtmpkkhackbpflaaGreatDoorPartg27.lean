/- Part 27 of the texts. -/
import Derived.Test.YtmpkkhackbpflaaGreatDoorPartg26
namespace Go.Proofs.YtmpkkhackbpflaaGreatDoor
open Go.RowKit
theorem jy(K:Int)(d:List Nat)(Y:d.length≤64)(h:jV K d)(I:bS 0 d≠0)(Z:eX (bS 0 d)≤900):
  ah (aX d)=true∧ab (fQ (aX d))≤17*p2 (eX (bS 0 d))+p2 (-1074):=by
 obtain⟨k,M⟩:∃k,eX (bS 0 d)=k:=⟨_,rfl⟩
 obtain⟨s,N⟩:∃s,oK k 0 d=s:=⟨_,rfl⟩
 obtain⟨b1,b2,b3,b4,b5,b6,b7,G,y,hy,b9,H⟩:=gz K d h I
 rw[M]at G H Z⊢
 have hn:aX d=xV (sV s) k:=by
  unfold aX
  rw[if_neg (by rw[b2];simp[I]),M,N]
 have T1:1≤eO k d:=by have:=oL k d y hy;grind
 have aa:(d.length:Rat)≤64:=Rat.natCast_le_natCast.2 Y
 have T2:eO k d≤256:=by have:=s9 k d G;grind
 have ad:=Rat.mul_nonneg (show 0≤64-(d.length:Rat) by grind) (show 0≤eO k d by grind)
 have z0:fQ 0=0:=bu 0 (by decide)
 obtain⟨O,Q,T⟩:=s8 k (eO k d) T1 T2 d 0 0 0 (fun x F=>⟨(h.1 x F).1,(h.1 x F).2,G x F⟩) (by decide) (by decide) (by grind) (by grind) (by rw[z0];unfold ab;grind)
 rw[N]at O Q T
 have e4:9007199254740992*ab (fQ s-eO k d)≤130*eO k d:=by
  have:(0:Rat)+eO k d=eO k d:=Rat.zero_add _
  rw[this]at T
  grind
 have l:=au (fQ s-eO k d)
 have s1:1≤2*fQ s:=by grind
 have k0:fK s≠0:=fun e=>by
  have:=bu s e
  grind
 obtain⟨U,r2,V,r4,X,r6,r7⟩:=iX s O k0 Q
 have r8:1≤2*fQ (sV s):=by
  rcases Rat.le_total (a:=1) (b:=2*fQ (sV s))with g|g
  ·exact g
  ·have:=Rat.mul_nonneg (show 0≤1-2*fQ (sV s) by grind) (show 0≤1+2*fQ (sV s) by grind)
   grind
 have J:fQ (sV s)≤17:=by
  rcases Rat.le_total (a:=fQ (sV s)) (b:=17)with g|g
  ·exact g
  ·have:=Rat.mul_nonneg (show 0≤fQ (sV s)-17 by grind) (show 0≤fQ (sV s)+17 by grind)
   grind
 have D:=aw k
 have x1:ab (fQ (sV s))*p2 k<p2 1023:=by
  rw[aQ X]
  have m1:=Rat.mul_le_mul_of_nonneg_left J (Rat.le_of_lt D)
  have m2:=aA (show k+1+1+1+1+1≤1023 by omega)
  simp only[bR]at m2
  grind
 have L:=kn (sV s) k V U x1
 rw[hn]
 refine⟨L,?_⟩
 have hp:=aw (-1074)
 have m1:=Rat.mul_le_mul_of_nonneg_left J (Rat.le_of_lt D)
 have q0:=Rat.mul_nonneg X (Rat.le_of_lt D)
 rcases ko (sV s) k V U L with e|⟨_,_,e⟩
 ·rw[e,aQ q0]
  grind
 ·have l1:=au (fQ (xV (sV s) k)-fQ (sV s)*p2 k)
  have t:=bU (x:=fQ (xV (sV s) k)) (y:=ab (fQ (xV (sV s) k)-fQ (sV s)*p2 k)+fQ (sV s)*p2 k) (by grind) (by grind)
  generalize ab (fQ (xV (sV s) k)-fQ (sV s)*p2 k)=z at*
  grind
theorem mz{a b:Int}(h:p2 a≤p2 b):a≤b:=by
 rcases Int.lt_or_le b a with g|g
 ·exfalso
  have k:=aA (show b+1≤a by omega)
  rw[bR]at k
  have:=aw b
  grind
 ·exact g
def mU(t:Nat):List Nat→List Nat→List Nat
 |v::vs,y::ys=>aV y (fN (mV t v))::mU t vs ys
 |_,_=>[]
def dU(c E:Rat):List Nat→List Nat→List Nat→Prop
 |v::vs,y::ys,u::us=>(ah u=true∧9007199254740992*ab (fQ u-(fQ y-c*fQ v))≤E)∧dU c E vs ys us
 | [],[],[]=>True
 |_,_,_=>False
theorem M4:∀(l d:List Nat),(∀v∈l,1000*ab (fQ v)≤1001)→1000*zw l d≤1001*mT d:=by
 intro l
 induction l with
 |nil=>
  intro d _
  have t:zw [] d=0:=by cases d<;>rfl
  have:=zA d
  rw[t]
  grind
 |cons v l ih=>
  intro d h
  cases d with
  |nil=>
   have t:zw (v::l) []=0:=rfl
   have z:mT []=0:=rfl
   rw[t,z]
   grind
  |cons y d=>
   have i:=ih d (fun w D=>h w (List.mem_cons_of_mem _ D))
   have t:zw (v::l) (y::d)=ab (fQ v*fQ y)+zw l d:=rfl
   have z:mT (y::d)=ab (fQ y)+mT d:=rfl
   have m:=Rat.mul_le_mul_of_nonneg_left (h v List.mem_cons_self) (bK (fQ y))
   rw[t,z,aK]
   grind
theorem Kz(t v y:Nat)(c Y:Rat)(T:ah t=true)(U:ah v=true)(l:ah y=true)(D:1000*ab (fQ v)≤1001)(hy:ab (fQ y)≤Y)(hY:Y≤p2 900)(V:1267650600228229401496703205376*p2 (-1075)≤Y)
  (hc:100*ab c≤201*Y) (he:9007199254740992*ab (fQ t-c)≤39*Y):
  ah (aV y (fN (mV t v)))=true∧9007199254740992*ab (fQ (aV y (fN (mV t v)))-(fQ y-c*fQ v))≤46*Y:=by
 have hp:=aw (-1075)
 have Y0:0≤Y:=by grind
 have y0:=bK (fQ y);have v0:=bK (fQ v)
 have F:=au (fQ t-c);have G:=au c
 have X:1000*ab (fQ t)≤2011*Y:=by
  have:=bU (x:=fQ t) (y:=ab (fQ t-c)+ab c) (by grind) (by grind)
  grind
 have Z:16*p2 900≤p2 1023∧0<p2 900:=by
  have h1:=aA (show(900+1+1+1+1:Int)≤1023 by decide)
  simp only[bR]at h1
  exact⟨by grind,aw _⟩
 have t0:=bK (fQ t)
 have m1:=Rat.mul_le_mul_of_nonneg_left D t0
 have d:ab (fQ t*fQ v)=ab (fQ t)*ab (fQ v):=aK _ _
 have aa:1000*ab (fQ t*fQ v)≤2014*Y:=by rw[d];grind
 obtain⟨f1,e1⟩:=pQ t v T U (by grind)
 have pl:=kL t v
 have H:ah (fN (mV t v))=true:=by rw[gY _ pl];exact f1
 have I:=mv _ pl
 have J:=au (fQ (mV t v)-fQ t*fQ v);have L:=au (fQ t*fQ v);have M:=au (fQ y)
 have ad:=bU (x:=fQ y+-fQ (mV t v)) (y:=ab (fQ y)+ab (fQ (mV t v)-fQ t*fQ v)+ab (fQ t*fQ v)) (by grind) (by grind)
 have N:=iD y (fN (mV t v)) l H (by rw[I];grind)
 have ea:=iC y (fN (mV t v)) l H N
 rw[I]at ea
 refine⟨N,?_⟩
 have O:=au (fQ (aV y (fN (mV t v)))-(fQ y+-fQ (mV t v)))
 have h:9007199254740992*ab ((fQ t-c)*fQ v)≤40*Y:=by
  rw[aK]
  have m2:=Rat.mul_le_mul_of_nonneg_left D (bK (fQ t-c))
  rw[show ab (fQ t-c)*(1000*ab (fQ v))=1000*(ab (fQ t-c)*ab (fQ v)) by grind]at m2
  generalize ab (fQ t-c)*ab (fQ v)=z at*
  clear J L M O F G
  grind
 have Q:=au ((fQ t-c)*fQ v)
 have w:(fQ t-c)*fQ v=fQ t*fQ v-c*fQ v:=by grind
 rw[w]at Q h
 have ae:=bU (x:=fQ (aV y (fN (mV t v)))-(fQ y-c*fQ v)) (y:=ab (fQ (aV y (fN (mV t v)))-(fQ y+-fQ (mV t v)))+ab (fQ (mV t v)-fQ t*fQ v)+ab (fQ t*fQ v-c*fQ v)) (by grind) (by grind)
 clear J L M O Q F G w m1 d
 generalize ab (fQ (aV y (fN (mV t v)))-(fQ y-c*fQ v))=z0 at*
 generalize ab (fQ (aV y (fN (mV t v)))-(fQ y+-fQ (mV t v)))=z1 at*
 generalize ab (fQ (mV t v)-fQ t*fQ v)=z2 at*
 generalize ab (fQ t*fQ v-c*fQ v)=z3 at*
 generalize ab (fQ y+-fQ (mV t v))=z4 at*
 generalize ab (fQ t*fQ v)=z5 at*
 generalize ab (fQ y)=z6 at*
 generalize p2 (-1075)=η at*
 grind
theorem KD(t:Nat)(c Y:Rat)(H:ah t=true)(I:Y≤p2 900)(z:1267650600228229401496703205376*p2 (-1075)≤Y)(J:100*ab c≤201*Y)(L:9007199254740992*ab (fQ t-c)≤39*Y):
  ∀(h d:List Nat),h.length=d.length→(∀v∈h,ah v=true∧1000*ab (fQ v)≤1001)→(∀y∈d,ah y=true∧ab (fQ y)≤Y)→dU c (46*Y) h d (mU t h d):=by
 intro h
 induction h with
 |nil=>
  intro d l _ _
  cases d with
  |nil=>exact trivial
  |cons y d=>simp at l
 |cons v h ih=>
  intro d l F G
  cases d with
  |nil=>simp at l
  |cons y d=>
   obtain⟨M,N⟩:=F v List.mem_cons_self
   obtain⟨O,Q⟩:=G y List.mem_cons_self
   show dU c (46*Y) (v::h) (y::d) (aV y (fN (mV t v))::mU t h d)
   unfold dU
   exact⟨Kz t v y c Y H M O N Q I z J L,ih d (by simpa using l) (fun w D=>F w (List.mem_cons_of_mem _ D)) (fun w D=>G w (List.mem_cons_of_mem _ D))⟩
theorem KG:∀(h:List Nat) (x:Nat),x∈h→ab (fQ x)≤mT h:=by
 intro h
 induction h with
 |nil=>intro x d;cases d
 |cons y ys ih=>
  intro x d
  have l:=zA ys
  have t:=bK (fQ y)
  have e:mT (y::ys)=ab (fQ y)+mT ys:=rfl
  rw[e]
  rcases List.mem_cons.1 d with rfl|d
  ·grind
  ·have:=ih x d
   grind
theorem k7:fQ 4607182418800017408=1:=by
 have d:fS 4607182418800017408=false:=by decide
 have h:fR 4607182418800017408=4607182418800017408:=by decide
 obtain⟨K,z⟩:∃K:Nat,K=1022:=⟨_,rfl⟩
 have l:rv 4607182418800017408=4503599627370496*2^K:=by
  have:=MI 4607182418800017408 (by decide)
  rw[this,show gM 4607182418800017408=4503599627370496 by decide,show 4607182418800017408/4503599627370496-1=K by omega]
 rw[df,d,if_neg (by decide),h,l,Rat.natCast_mul,←cR]
 have e:p2 ((K:Nat):Int)=4503599627370496*p2 970:=by
  rw[show((K:Nat):Int)=970+52 by omega,zk]
 have t:4503599627370496*(4503599627370496*p2 970)=p2 1074:=by
  rw[←zk,←zk];rfl
 have k:((4503599627370496:Nat):Rat)=4503599627370496:=rfl
 rw[k,e,t,Rat.mul_comm]
 exact pz 1074
def gJ(d κ:Rat):List Nat→List Nat→Prop
 |v::vs,x::xs=>9007199254740992*ab (fQ v*d-fQ x)≤2*ab (fQ x)+κ∧gJ d κ vs xs
 | [],[]=>True
 |_,_=>False
theorem Eb(d κ E:Rat)(D:0≤κ):∀(t l:List Nat),gJ d κ t l→(∀x∈l,4*(ab (fQ x)*κ)+4*(κ*κ)≤E)→9007199254740992*ab (aJ t*(d*d)-aJ l)≤5*aJ l+(l.length:Rat)*E∧9007199254740992*ab (dC t l*d-aJ l)≤2*aJ l+(l.length:Rat)*E:=by
 intro t
 induction t with
 |nil=>
  intro l h _
  cases l with
  |nil=>
   have G:aJ []=0:=rfl
   have H:dC [] []=0:=rfl
   have I:(([]:List Nat).length:Rat)=0:=rfl
   rw[G,H,I,Rat.zero_mul,Rat.zero_mul]
   unfold ab
   grind
  |cons x l=>exact absurd h (by unfold gJ;exact id)
 |cons v t ih=>
  intro l h O
  cases l with
  |nil=>exact absurd h (by unfold gJ;exact id)
  |cons x l=>
   unfold gJ at h
   obtain⟨F,h2⟩:=h
   obtain⟨i1,i2⟩:=ih l h2 (fun y hy=>O y (List.mem_cons_of_mem _ hy))
   have aa:=O x List.mem_cons_self
   have G:aJ (v::t)=fQ v*fQ v+aJ t:=rfl
   have H:aJ (x::l)=fQ x*fQ x+aJ l:=rfl
   have I:dC (v::t) (x::l)=fQ v*fQ x+dC t l:=rfl
   have Q:((x::l).length:Rat)*E=(l.length:Rat)*E+E:=by
    rw[List.length_cons,Rat.natCast_add]
    have:((1:Nat):Rat)=1:=rfl
    rw[this]
    grind
   rw[G,H,I,Q]
   obtain⟨z,N⟩:∃z,fQ v*d=fQ x+z:=⟨fQ v*d-fQ x,by grind⟩
   have k:fQ v*d-fQ x=z:=by grind
   rw[k]at F
   have T:=bK (fQ x);have z0:=bK z
   have qx:=al (fQ x);have qz:=al z
   have ex:ab (fQ x)*ab (fQ x)=fQ x*fQ x:=by rw[←aK];exact aQ qx
   have ez:ab z*ab z=z*z:=by rw[←aK];exact aQ qz
   have xκ:=Rat.mul_nonneg T D
   have U:=Rat.mul_nonneg D D
   have p1:=Rat.mul_le_mul_of_nonneg_left F T
   have J:=Rat.mul_le_mul_of_nonneg_left F z0
   have p3:=Rat.mul_le_mul_of_nonneg_left F D
   have M:ab (fQ x*z)=ab (fQ x)*ab z:=aK _ _
   have v1:9007199254740992*ab (fQ x*z)≤2*(fQ x*fQ x)+ab (fQ x)*κ:=by grind
   have v2:9007199254740992*(z*z)≤2*ab (fQ x*z)+κ*ab z:=by grind
   have v3:9007199254740992*(κ*ab z)≤2*(ab (fQ x)*κ)+κ*κ:=by grind
   have l1:=au (fQ x*z)
   have V:(fQ v*fQ v+aJ t)*(d*d)-(fQ x*fQ x+aJ l)=2*(fQ x*z)+z*z+(aJ t*(d*d)-aJ l):=by
    have:fQ v*fQ v*(d*d)=(fQ x+z)*(fQ x+z):=by rw[←N];grind
    grind
   have Y:(fQ v*fQ x+dC t l)*d-(fQ x*fQ x+aJ l)=fQ x*z+(dC t l*d-aJ l):=by
    have:fQ v*fQ x*d=(fQ x+z)*fQ x:=by rw[←N];grind
    grind
   rw[V,Y]
   have l2:=au (aJ t*(d*d)-aJ l);have l3:=au (dC t l*d-aJ l)
   clear V Y p1 J p3 ex ez M N k F h2 Q O
   generalize aJ t*(d*d)-aJ l=A at*
   generalize dC t l*d-aJ l=B at*
   generalize fQ x*z=C at*
   generalize z*z=Z at*
   generalize fQ x*fQ x=X at*
   generalize ab (fQ x)*κ=XK at*
   generalize κ*ab z=KZ at*
   generalize κ*κ=KK at*
   generalize (l.length:Rat)*E=L at*
   constructor
   ·refine Rat.le_trans (Rat.mul_le_mul_of_nonneg_left (bU (y:=2*ab C+Z+ab A) (by grind) (by grind)) (by decide)) ?_
    grind
   ·refine Rat.le_trans (Rat.mul_le_mul_of_nonneg_left (bU (y:=ab C+ab B) (by grind) (by grind)) (by decide)) ?_
    grind
theorem vp(r ε ρ τ V:Rat)(L:-1≤r)(M:100*r≤-49)(O:9007199254740992*ab ε≤1)(D:9007199254740992*ab (ρ+1+2*r)≤137)
  (F:9007199254740992*ab (τ*r+1)≤4) (Q:9007199254740992*ab (V*((1+ε)*(1+ε))-ρ)≤5*ρ+3):8796093022208*ab (τ*(1+V)-2)≤1:=by
 obtain⟨θ,d⟩:∃θ,τ*r+1=θ:=⟨_,rfl⟩
 obtain⟨φ,h⟩:∃φ,V*((1+ε)*(1+ε))-ρ=φ:=⟨_,rfl⟩
 obtain⟨ψ,t⟩:∃ψ,ρ+1+2*r=ψ:=⟨_,rfl⟩
 obtain⟨E,J⟩:∃E,2*ε+ε*ε=E:=⟨_,rfl⟩
 obtain⟨N,G⟩:∃N,τ*(1+V)-2=N:=⟨_,rfl⟩
 rw[d]at F
 rw[h]at Q
 rw[t]at D
 rw[G]
 have T:=au ε;have U:=au ψ;have X:=au θ;have Y:=au φ
 have e1:9007199254740992*ab E≤3:=by
  have h1:=iY (x:=ε) (y:=ε) (by grind)
  have l:=au (ε*ε)
  refine Rat.le_trans (Rat.mul_le_mul_of_nonneg_left (bU (y:=2*ab ε+ab (ε*ε)) (by grind) (by grind)) (by decide)) ?_
  grind
 have lE:=au E
 have H:ab r≤1:=bU (by grind) (by grind)
 have b1:=iY (y:=θ) H
 have b2:=iY (y:=E) H
 have b3:=iY (x:=θ) (y:=ψ+E+φ) (by grind)
 have b4:ab (ψ+E+φ)≤ab ψ+ab E+ab φ:=bU (by grind) (by grind)
 have c1:=au (r*θ);have c2:=au (r*E);have c3:=au (θ*(ψ+E+φ))
 have z:N*(r*(1+E))= -(2*(r*θ))+θ*(ψ+E+φ)-ψ-E-φ-2*(r*E):=by
  rw[←G,←d,←h,←t,←J]
  grind
 have k2:9007199254740992*ab (N*(r*(1+E)))≤322:=by
  rw[z]
  refine Rat.le_trans (Rat.mul_le_mul_of_nonneg_left (bU (y:=2*ab (r*θ)+ab (θ*(ψ+E+φ))+ab ψ+ab E+ab φ+2*ab (r*E)) (by grind) (by grind)) (by decide)) ?_
  grind
 rw[aK]at k2
 have I:48≤100*ab (r*(1+E)):=by
  have l:=au (r*(1+E))
  have e2:r*(1+E)=r+r*E:=by grind
  rw[e2]at l⊢
  grind
 have N0:=bK N
 have m:=Rat.mul_le_mul_of_nonneg_left I N0
 have m2:48*ab N≤100*(ab N*ab (r*(1+E))):=by
  rw[show 48*ab N=ab N*48 by grind,show 100*(ab N*ab (r*(1+E)))=ab N*(100*ab (r*(1+E))) by grind]
  exact m
 clear m I z c1 c2 c3 b1 b2 b3 b4 G J t h d
 generalize ab N*ab (r*(1+E))=Z at*
 grind
theorem tg(a b R d t V:Rat)(hR:0≤R)(L:(0<b∧a≤0)∨(b<0∧0≤a))(h1:9007199254740992*ab (b*b-(a*a+R))≤135*(a*a+R))
  (h2:9007199254740992*ab (d-(a-b))≤ab (a-b)) (h3:9007199254740992*ab (t*b+(a-b))≤4*ab (a-b)) (h4:4503599627370496*ab a≤4503599627370496*ab b+70*ab b) (h5:9007199254740992*ab (V*(d*d)-R)≤5*R+(a*a+R)):
  8796093022208*ab (t*(1+V)-2)≤1∧9007199254740992*t≤18014398509481984+200∧9007199254740992≤9007199254740992*t+5:=by
 obtain⟨D,T⟩:∃D,a-b=D:=⟨_,rfl⟩
 have D0:D≠0:=by intro e;grind
 obtain⟨I,H⟩:∃I,D*I=1:=⟨D⁻¹,Rat.mul_inv_cancel D D0⟩
 rw[T]at h2 h3
 have U:ab D*ab I=1:=by rw[←aK,H];exact aQ (by decide)
 have X:=bK I
 have G:=al I
 have ae:ab I*ab I=I*I:=by rw[←aK];exact aQ G
 --r and α
 obtain⟨r,J⟩:∃r,b*I=r:=⟨_,rfl⟩
 obtain⟨α,h⟩:∃α,a*I=α:=⟨_,rfl⟩
 have ai:α-r=1:=by rw[←h,←J,←H,←T];grind
 have qa:=al a;have qb:=al b
 have M:0≤α:=by
  have e:α=a*D*(I*I):=by
   rw[←h]
   have:I=D*I*I:=by rw[H,Rat.one_mul]
   grind
  rw[e]
  refine Rat.mul_nonneg ?_ G
  rw[←T]
  rcases L with⟨O,Q⟩|⟨O,Q⟩
  ·have:=Rat.mul_nonneg (show 0≤-a by grind) (Rat.le_of_lt O)
   grind
  ·have:=Rat.mul_nonneg Q (show 0≤-b by grind)
   grind
 have am:r≤0:=by
  have e:-r= -(b*D)*(I*I):=by
   rw[←J]
   have:I=D*I*I:=by rw[H,Rat.one_mul]
   grind
  have:0≤-r:=by
   rw[e]
   refine Rat.mul_nonneg ?_ G
   rw[←T]
   rcases L with⟨O,Q⟩|⟨O,Q⟩
   ·have:=Rat.mul_nonneg (show 0≤-a by grind) (Rat.le_of_lt O)
    grind
   ·have:=Rat.mul_nonneg Q (show 0≤-b by grind)
    grind
  grind
 have ea:ab a*ab I=α:=by rw[←aK,h];exact aQ M
 have eb:ab b*ab I= -r:=by rw[←aK,J];unfold ab;grind
 have ad:4503599627370496*α≤4503599627370496* -r+70* -r:=by
  have:=Rat.mul_le_mul_of_nonneg_left h4 X
  rw[←ea,←eb]
  grind
 have Y:-1≤r:=by grind
 have Z:100*r≤-49:=by grind
 --ε
 obtain⟨ε,N⟩:∃ε,(d-D)*I=ε:=⟨_,rfl⟩
 have aa:d*I=1+ε:=by rw[←N,←H];grind
 have bε:9007199254740992*ab ε≤1:=by
  rw[←N,aK,←U]
  have:=Rat.mul_le_mul_of_nonneg_left h2 X
  grind
 --ρ
 obtain⟨ρ,F⟩:∃ρ,R*(I*I)=ρ:=⟨_,rfl⟩
 have bρ:9007199254740992*ab (ρ+1+2*r)≤137:=by
  have e:ρ+1+2*r= -((b*b-(a*a+R))*(I*I)):=by
   have e1:b*b*(I*I)=r*r:=by rw[←J];grind
   have e2:a*a*(I*I)=α*α:=by rw[←h];grind
   have e3:-((b*b-(a*a+R))*(I*I))=a*a*(I*I)+R*(I*I)-b*b*(I*I):=by grind
   rw[e3,e1,e2,F,show α=1+r by grind]
   grind
  rw[e,ik,aK,aQ (x:=I*I) G]
  have l:=au (b*b-(a*a+R))
  have h6:9007199254740992*ab (b*b-(a*a+R))≤136*(b*b):=by
   generalize ab (b*b-(a*a+R))=z at*
   grind
  have m:=Rat.mul_le_mul_of_nonneg_left h6 G
  have e1:I*I*(136*(b*b))=136*(r*r):=by rw[←J];grind
  rw[e1]at m
  have rr:=Rat.mul_nonneg (show 0≤1+r by grind) (show 0≤1-r by grind)
  have ao:=al r
  grind
 have bτ:9007199254740992*ab (t*r+1)≤4:=by
  have e:t*r+1=(t*b+D)*I:=by rw[←J,←H];grind
  rw[e,aK]
  have m:=Rat.mul_le_mul_of_nonneg_left h3 X
  grind
 have bV:9007199254740992*ab (V*((1+ε)*(1+ε))-ρ)≤5*ρ+3:=by
  have e:V*((1+ε)*(1+ε))-ρ=(V*(d*d)-R)*(I*I):=by rw[←aa,←F];grind
  rw[e,aK,aQ (x:=I*I) G,←F]
  have m:=Rat.mul_le_mul_of_nonneg_left h5 G
  have e2:a*a*(I*I)=α*α:=by rw[←h];grind
  have lρ:=au (ρ+1+2*r)
  have α1:=Rat.mul_nonneg (show 0≤1-α by grind) (show 0≤1+α by grind)
  have e3:I*I*(5*R+(a*a+R))=6*(R*(I*I))+α*α:=by rw[←e2];grind
  rw[e3,F]at m
  rw[F]
  grind
 refine⟨vp r ε ρ t V Y Z bε bρ bτ bV,?_,?_⟩
 ·have l:=au (t*r+1)
  --t (-r)<=1+4u,-r>=1/(2+70/2^52)
  rcases Rat.le_total (a:=9007199254740992*t) (b:=18014398509481984+200)with g|g
  ·exact g
  ·exfalso
   have m:=Rat.mul_nonneg (show 0≤9007199254740992*t-(18014398509481984+200) by grind) (show 0≤-r by grind)
   have e:(9007199254740992*t-(18014398509481984+200))* -r= -(9007199254740992*(t*r))+(18014398509481984+200)*r:=by grind
   rw[e]at m
   generalize t*r=z at*
   grind
 ·have l:=au (t*r+1)
  rcases Rat.le_total (a:=9007199254740992) (b:=9007199254740992*t+5)with g|g
  ·exact g
  ·exfalso
   have m:=Rat.mul_nonneg (show 0≤9007199254740992-(9007199254740992*t+5) by grind) (show 0≤-r by grind)
   have e:(9007199254740992-(9007199254740992*t+5))* -r=9007199254740992*(t*r)-9007199254740992*r+5*r:=by grind
   rw[e]at m
   generalize t*r=z at*
   grind
theorem vq(a b R d t G:Rat)(hR:0≤R)(N:(0<b∧a≤0)∨(b<0∧0≤a))(h1:9007199254740992*ab (b*b-(a*a+R))≤135*(a*a+R))
  (h2:9007199254740992*ab (d-(a-b))≤ab (a-b)) (h3:9007199254740992*ab (t*b+(a-b))≤4*ab (a-b)) (h4:4503599627370496*ab a≤4503599627370496*ab b+70*ab b) (h5:9007199254740992*ab (G*d-R)≤2*R+(a*a+R)) (ht:1000*ab t≤2001):
  9007199254740992*ab (t*(a+G)-(a-b))≤300*ab (a-b):=by
 obtain⟨D,V⟩:∃D,a-b=D:=⟨_,rfl⟩
 have D0:D≠0:=by intro e;grind
 obtain⟨I,J⟩:∃I,D*I=1:=⟨D⁻¹,Rat.mul_inv_cancel D D0⟩
 rw[V]at h2 h3
 have aa:ab D*ab I=1:=by rw[←aK,J];exact aQ (by decide)
 have I0:=bK I
 have H:=al I
 have am:ab I*ab I=I*I:=by rw[←aK];exact aQ H
 --r and α
 obtain⟨r,M⟩:∃r,b*I=r:=⟨_,rfl⟩
 obtain⟨α,h⟩:∃α,a*I=α:=⟨_,rfl⟩
 have ao:α-r=1:=by rw[←h,←M,←J,←V];grind
 have qa:=al a;have qb:=al b
 have O:0≤α:=by
  have e:α=a*D*(I*I):=by
   rw[←h]
   have:I=D*I*I:=by rw[J,Rat.one_mul]
   grind
  rw[e]
  refine Rat.mul_nonneg ?_ H
  rw[←V]
  rcases N with⟨Y,Z⟩|⟨Y,Z⟩
  ·have:=Rat.mul_nonneg (show 0≤-a by grind) (Rat.le_of_lt Y)
   grind
  ·have:=Rat.mul_nonneg Z (show 0≤-b by grind)
   grind
 have ap:r≤0:=by
  have e:-r= -(b*D)*(I*I):=by
   rw[←M]
   have:I=D*I*I:=by rw[J,Rat.one_mul]
   grind
  have:0≤-r:=by
   rw[e]
   refine Rat.mul_nonneg ?_ H
   rw[←V]
   rcases N with⟨Y,Z⟩|⟨Y,Z⟩
   ·have:=Rat.mul_nonneg (show 0≤-a by grind) (Rat.le_of_lt Y)
    grind
   ·have:=Rat.mul_nonneg Z (show 0≤-b by grind)
    grind
  grind
 have ea:ab a*ab I=α:=by rw[←aK,h];exact aQ O
 have eb:ab b*ab I= -r:=by rw[←aK,M];unfold ab;grind
 have ai:4503599627370496*α≤4503599627370496* -r+70* -r:=by
  have:=Rat.mul_le_mul_of_nonneg_left h4 I0
  rw[←ea,←eb]
  grind
 have aq:-1≤r:=by grind
 have ax:100*r≤-49:=by grind
 --ε
 obtain⟨ε,X⟩:∃ε,(d-D)*I=ε:=⟨_,rfl⟩
 have ad:d*I=1+ε:=by rw[←X,←J];grind
 have bε:9007199254740992*ab ε≤1:=by
  rw[←X,aK,←aa]
  have:=Rat.mul_le_mul_of_nonneg_left h2 I0
  grind
 --ρ
 obtain⟨ρ,F⟩:∃ρ,R*(I*I)=ρ:=⟨_,rfl⟩
 have bρ:9007199254740992*ab (ρ+1+2*r)≤137:=by
  have e:ρ+1+2*r= -((b*b-(a*a+R))*(I*I)):=by
   have Q:b*b*(I*I)=r*r:=by rw[←M];grind
   have T:a*a*(I*I)=α*α:=by rw[←h];grind
   have U:-((b*b-(a*a+R))*(I*I))=a*a*(I*I)+R*(I*I)-b*b*(I*I):=by grind
   rw[U,Q,T,F,show α=1+r by grind]
   grind
  rw[e,ik,aK,aQ (x:=I*I) H]
  have l:=au (b*b-(a*a+R))
  have h6:9007199254740992*ab (b*b-(a*a+R))≤136*(b*b):=by
   generalize ab (b*b-(a*a+R))=z at*
   grind
  have m:=Rat.mul_le_mul_of_nonneg_left h6 H
  have Q:I*I*(136*(b*b))=136*(r*r):=by rw[←M];grind
  rw[Q]at m
  have rr:=Rat.mul_nonneg (show 0≤1+r by grind) (show 0≤1-r by grind)
  have ay:=al r
  grind
 have bτ:9007199254740992*ab (t*r+1)≤4:=by
  have e:t*r+1=(t*b+D)*I:=by rw[←M,←J];grind
  rw[e,aK]
  have m:=Rat.mul_le_mul_of_nonneg_left h3 I0
  grind
 obtain⟨g,hg⟩:∃g,G*I=g:=⟨_,rfl⟩
 have bG:9007199254740992*ab (g*(1+ε)-ρ)≤2*ρ+3:=by
  have e:g*(1+ε)-ρ=(G*d-R)*(I*I):=by rw[←ad,←F,←hg];grind
  rw[e,aK,aQ (x:=I*I) H,←F]
  have m:=Rat.mul_le_mul_of_nonneg_left h5 H
  have T:a*a*(I*I)=α*α:=by rw[←h];grind
  have lρ:=au (ρ+1+2*r)
  have α1:=Rat.mul_nonneg (show 0≤1-α by grind) (show 0≤1+α by grind)
  have U:I*I*(2*R+(a*a+R))=3*(R*(I*I))+α*α:=by rw[←T];grind
  rw[U,F]at m
  rw[F]
  grind
 have ρ0:0≤ρ:=by rw[←F];exact Rat.mul_nonneg hR H
 have lρ:=au (ρ+1+2*r)
 have ρ1:10*ρ≤11:=by grind
 --(α+g) (1+ε)= -r+small
 obtain⟨k,hk⟩:∃k,(α+g)*(1+ε)+r=k:=⟨_,rfl⟩
 have bk:9007199254740992*ab k≤144:=by
  have aε:=iY (x:=α) (y:=ε) (bU (by grind) (by grind))
  have l1:=au (α*ε);have l2:=au (g*(1+ε)-ρ)
  have e:k=(ρ+1+2*r)+α*ε+(g*(1+ε)-ρ):=by rw[←hk,show α=1+r by grind];grind
  rw[e]
  refine Rat.le_trans (Rat.mul_le_mul_of_nonneg_left (bU (y:=ab (ρ+1+2*r)+ab (α*ε)+ab (g*(1+ε)-ρ)) (by grind) (by grind)) (by decide)) ?_
  generalize ab (ρ+1+2*r)=z1 at*
  generalize ab (g*(1+ε)-ρ)=z2 at*
  generalize ab (α*ε)=z3 at*
  grind
 obtain⟨θ,L⟩:∃θ,t*r+1=θ:=⟨_,rfl⟩
 rw[L]at bτ
 have tk:9007199254740992*ab (t*k)≤289:=by
  rw[aK]
  have m:=Rat.mul_le_mul_of_nonneg_left ht (bK k)
  rw[show ab k*(1000*ab t)=1000*(ab t*ab k) by grind]at m
  generalize ab t*ab k=z at*
  grind
 obtain⟨m,hm⟩:∃m,t*(α+g)-1=m:=⟨_,rfl⟩
 have lε:=au ε;have lθ:=au θ;have ae:=au (t*k);have lm:=au m
 have Q:m+(1+m)*ε=t*k-θ:=by rw[←hm,←hk,←L];grind
 have mε:=aK (ε) m
 have bm:9007199254740992*ab m≤296:=by
  have q:9007199254740992*ab (ε*m)≤ab m:=by
   rw[aK]
   have:=Rat.mul_le_mul_of_nonneg_left bε (bK m)
   grind
  have lq:=au (ε*m)
  have T:m=t*k-θ-ε-ε*m:=by grind
  have:=bU (x:=m) (y:=ab (t*k)+ab θ+ab ε+ab (ε*m)) (by grind) (by grind)
  generalize ab (ε*m)=z1 at*
  generalize ab m=z2 at*
  generalize ab (t*k)=z3 at*
  generalize ab θ=z4 at*
  generalize ab ε=z5 at*
  clear T Q lm ae lθ lε lq hm hk L mε
  grind
 --back:times D
 rw[V]
 have U:t*(a+G)-D=m*D:=by
  rw[←hm]
  have e4:(t*(α+g)-1)*D=t*((a*I)*D+(G*I)*D)-D:=by rw[←h,←hg];grind
  rw[e4,show a*I*D=a*(D*I) by grind,show G*I*D=G*(D*I) by grind,J]
  grind
 rw[U,aK]
 have mm:=Rat.mul_le_mul_of_nonneg_left bm (bK D)
 rw[show ab D*(9007199254740992*ab m)=9007199254740992*(ab m*ab D) by grind]at mm
 have D1:=bK D
 generalize ab m*ab D=z at*
 grind
theorem Ec(d:Nat)(G:d<18446744073709551616)(F:ah d=true)(H:fK d≠0):∀(l:List Nat),(∀x∈l,x<18446744073709551616∧ah x=true∧ab (fQ x)≤1024*ab (fQ d))→
  gJ (fQ d) (18014398509481984*(p2 (-1075)*ab (fQ d))) (l.map (fun x=>dV x d)) l∧∀v∈l.map (fun x=>dV x d),ah v=true:=by
 have V:0≤p2 (-1075)*ab (fQ d):=Rat.mul_nonneg (Rat.le_of_lt (aw _)) (bK _)
 intro l
 induction l with
 |nil=>intro _;exact⟨trivial,fun v z=>(by cases z)⟩
 |cons x l ih=>
  intro h
  obtain⟨Q,T⟩:=ih (fun y M=>h y (List.mem_cons_of_mem _ M))
  obtain⟨J,L,U⟩:=h x List.mem_cons_self
  have t:ah (dV x d)=true∧9007199254740992*ab (fQ (dV x d)*fQ d-fQ x)≤2*ab (fQ x)+18014398509481984*(p2 (-1075)*ab (fQ d)):=by
   by_cases D:fK x=0
   ·obtain⟨Z,c2⟩:=bY F
    have e:dV x d=gc (fS x^^fS d) 0:=by
     unfold dV
     rw[if_neg (by omega),if_neg (by omega),if_neg (by omega),if_pos (.inr D)]
    have N:fK (gc (fS x^^fS d) 0)=0:=(cP _).2 (gu _ _ (by decide))
    have O:ah (gc (fS x^^fS d) 0)=true:=(cF _).2.2.2 (by rw[gu _ _ (by decide)];decide)
    rw[e,bu _ N,bu x D,Rat.zero_mul]
    refine⟨O,?_⟩
    generalize p2 (-1075)*ab (fQ d)=K at*
    unfold ab
    grind
   ·have I:=zv x d J G L F D H U
    refine⟨I,?_⟩
    have X:=bK (fQ x)
    have Y:=bK (fQ (dV x d)*fQ d-fQ x)
    rcases tc x d J G L F D H I with e|⟨_,e⟩
    ·generalize p2 (-1075)*ab (fQ d)=K at*
     grind
    ·generalize p2 (-1075)*ab (fQ d)=K at*
     grind
  refine⟨?_,?_⟩
  ·show gJ (fQ d) _ (dV x d::l.map (fun x=>dV x d)) (x::l)
   unfold gJ
   exact⟨t.2,Q⟩
  ·intro v z
   rcases List.mem_cons.1 z with rfl|z
   ·exact t.1
   ·exact T v z
end Go.Proofs.YtmpkkhackbpflaaGreatDoor
