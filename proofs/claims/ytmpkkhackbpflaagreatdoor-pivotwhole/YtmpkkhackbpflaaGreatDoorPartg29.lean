/- Part 29 of the texts. -/
import Derived.Test.YtmpkkhackbpflaaGreatDoorPartg28
set_option maxHeartbeats 4000000
set_option maxRecDepth 20000
namespace Go.Proofs.YtmpkkhackbpflaaGreatDoor
open Go.RowKit
theorem xM(K:Int)(d:List Nat)(Y:d.length≤64)(h:jV K d)(L:bS 0 d≠0)(Z:eX (bS 0 d)≤900):
  ∃s,oK (eX (bS 0 d)) 0 d=s∧aX d=xV (sV s) (eX (bS 0 d))∧ah s=true∧fS s=false∧fK s≠0∧1≤eO (eX (bS 0 d)) d∧eO (eX (bS 0 d)) d≤256∧ah (aX d)=true∧
  (fQ (aX d)=fQ (sV s)*p2 (eX (bS 0 d))∨2*ab (fQ (aX d)-fQ (sV s)*p2 (eX (bS 0 d)))≤p2 (-1074)):=by
 obtain⟨k,T⟩:∃k,eX (bS 0 d)=k:=⟨_,rfl⟩
 obtain⟨s,F⟩:∃s,oK k 0 d=s:=⟨_,rfl⟩
 obtain⟨b1,b2,b3,b4,b5,b6,b7,G,y,hy,b9,H⟩:=gz K d h L
 rw[T]at G H Z⊢
 have z:aX d=xV (sV s) k:=by
  unfold aX
  rw[if_neg (by rw[b2];simp[L]),T,F]
 have M:1≤eO k d:=by have:=oL k d y hy;grind
 have aa:(d.length:Rat)≤64:=Rat.natCast_le_natCast.2 Y
 have N:eO k d≤256:=by have:=s9 k d G;grind
 have ad:=Rat.mul_nonneg (show 0≤64-(d.length:Rat) by grind) (show 0≤eO k d by grind)
 have z0:fQ 0=0:=bu 0 (by decide)
 obtain⟨I,J,U⟩:=s8 k (eO k d) M N d 0 0 0 (fun x t=>⟨(h.1 x t).1,(h.1 x t).2,G x t⟩) (by decide) (by decide) (by grind) (by grind) (by rw[z0];unfold ab;grind)
 rw[F]at I J U
 have e4:9007199254740992*ab (fQ s-eO k d)≤130*eO k d:=by
  have:(0:Rat)+eO k d=eO k d:=Rat.zero_add _
  rw[this]at U
  grind
 have l:=au (fQ s-eO k d)
 have s1:1≤2*fQ s:=by grind
 have O:fK s≠0:=fun e=>by
  have:=bu s e
  grind
 obtain⟨V,r2,X,r4,r5,r6,r7⟩:=iX s I O J
 have r8:1≤2*fQ (sV s):=by
  rcases Rat.le_total (a:=1) (b:=2*fQ (sV s))with g|g
  ·exact g
  ·have:=Rat.mul_nonneg (show 0≤1-2*fQ (sV s) by grind) (show 0≤1+2*fQ (sV s) by grind)
   grind
 have r9:fQ (sV s)≤17:=by
  rcases Rat.le_total (a:=fQ (sV s)) (b:=17)with g|g
  ·exact g
  ·have:=Rat.mul_nonneg (show 0≤fQ (sV s)-17 by grind) (show 0≤fQ (sV s)+17 by grind)
   grind
 have D:=aw k
 have x1:ab (fQ (sV s))*p2 k<p2 1023:=by
  rw[aQ r5]
  have m1:=Rat.mul_le_mul_of_nonneg_left r9 (Rat.le_of_lt D)
  have m2:=aA (show k+1+1+1+1+1≤1023 by omega)
  simp only[bR]at m2
  grind
 have Q:=kn (sV s) k X V x1
 refine⟨s,F,z,I,J,O,M,N,by rw[z];exact Q,?_⟩
 rw[z]
 rcases ko (sV s) k X V Q with e|⟨_,_,e⟩
 ·exact .inl e
 ·exact .inr e
theorem vB(K:Int)(t:List Nat)(L:t.length≤64)(h:jV K t)(O:bS 0 t≠0)(U:eX (bS 0 t)≤900):1125899906842624*(fQ (bS 0 t)-fQ (aX t))≤3*fQ (bS 0 t):=by
 obtain⟨s,es,hn,n2,n3,n4,n5,T2,hf,H⟩:=xM K t L h O U
 obtain⟨b1,b2,b3,b4,b5,b6,b7,I,y,z,b9,J⟩:=gz K t h O
 obtain⟨r1,r2,r3,r4,r5,r6,r7⟩:=iX _ n2 n4 n3
 clear hn
 have V:(t.length:Rat)≤64:=Rat.natCast_le_natCast.2 L
 have X:=Rat.mul_nonneg (show 0≤64-(t.length:Rat) by grind) (show 0≤eO (eX (bS 0 t)) t by grind)
 have Y:fQ 0=0:=bu 0 (by decide)
 obtain⟨g1,T⟩:=MX (eX (bS 0 t)) _ n5 T2 t 0 0 0 (fun x F=>⟨(h.1 x F).1,(h.1 x F).2,I x F⟩) (by decide) (by decide) (by decide) (by grind) (by grind) (by rw[Y];unfold ab;grind)
 have Z:=T y z
 obtain⟨p1,aa,p3⟩:=xz _ y (h.1 y z).1 (h.1 y z).2 (I y z)
 obtain⟨t1,t2,t3⟩:=fm
 have hp:=aw (eX (bS 0 t))
 have G:=pz (eX (bS 0 t))
 have eB:fQ (bS 0 t)=ab (dQ (eX (bS 0 t)) y)*p2 (eX (bS 0 t)):=by
  unfold dQ
  rw[aK,aQ (Rat.le_of_lt (aw _)),b9,Rat.mul_assoc,G,Rat.mul_one]
 have eD:dQ (eX (bS 0 t)) y*dQ (eX (bS 0 t)) y=ab (dQ (eX (bS 0 t)) y)*ab (dQ (eX (bS 0 t)) y):=by
  rw[←aK];exact(aQ (al _)).symm
 have m0:=bK (dQ (eX (bS 0 t)) y)
 have l:=au (fQ (mV (xV y (-eX (bS 0 t))) (xV y (-eX (bS 0 t))))-dQ (eX (bS 0 t)) y*dQ (eX (bS 0 t)) y)
 rw[eD]at p3 l J
 generalize fQ (mV (xV y (-eX (bS 0 t))) (xV y (-eX (bS 0 t))))=P at*
 rw[es]at Z
 generalize fQ s=S at*
 generalize fQ (sV s)=R at*
 generalize ab (dQ (eX (bS 0 t)) y)=d at*
 clear g1 T b7 I
 generalize p2 (-1075)=η at*
 --R^2 is at least d^2 but for five parts in 2^53
 have e1:9007199254740992*(d*d)≤9007199254740992*(R*R)+6*(d*d):=by
  generalize ab (P-d*d)=A at*
  generalize d*d=D at*
  generalize R*R=RR at*
  grind
 have e2:1125899906842624*(d-R)≤d:=by
  rcases Rat.le_total (a:=1125899906842624*(d-R)) (b:=d)with g|g
  ·exact g
  ·have c1:=Rat.mul_nonneg (show 0≤1125899906842624*(d-R)-d by grind) m0
   have c2:=Rat.mul_nonneg (show 0≤1125899906842624*(d-R)-d by grind) r5
   grind
 have e3:=Rat.mul_le_mul_of_nonneg_left e2 (Rat.le_of_lt hp)
 have e4:1125899906842624*(fQ (bS 0 t)-R*p2 (eX (bS 0 t)))≤fQ (bS 0 t):=by rw[eB];grind
 have B0:=ju _ b4
 rcases H with e|e
 ·rw[e]
  grind
 ·have q:=aw (-1074)
  have l2:=au (fQ (aX t)-R*p2 (eX (bS 0 t)))
  have e5:1125899906842624*(fQ (bS 0 t)-fQ (aX t))≤fQ (bS 0 t)+562949953421312*p2 (-1074):=by grind
  clear e4 e3 e l2
  unfold fQ at e5 B0⊢
  generalize fZ (bS 0 t)=M at*
  generalize fZ (aX t)=N at*
  have k1:1125899906842624*((M:Rat)-(N:Rat))≤(M:Rat)+562949953421312:=by
   refine Rat.le_of_mul_le_mul_right (c:=p2 (-1074)) ?_ q
   grind
  have k2:(((1125899906842624*(M-N):Int)):Rat)≤((M+562949953421312:Int):Rat):=by
   rw[Rat.intCast_mul,Rat.intCast_sub,Rat.intCast_add]
   exact k1
  have k3:=Rat.intCast_le_intCast.1 k2
  have M0:0≤M:=by
   rcases Int.lt_or_le M 0 with g|g
   ·exfalso
    have k:((M:Int):Rat)<0:=Rat.intCast_lt_intCast.2 g
    have:=Rat.mul_pos (show 0< -((M:Int):Rat) by grind) q
    grind
   ·exact g
  have k4:1125899906842624*(M-N)≤3*M:=by
   rcases Int.lt_or_le 281474976710656 M with g|g
   ·omega
   ·have:M-N≤0:=by omega
    omega
  have Q:(((1125899906842624*(M-N):Int)):Rat)≤((3*M:Int):Rat):=Rat.intCast_le_intCast.2 k4
  rw[Rat.intCast_mul,Rat.intCast_sub,Rat.intCast_mul]at Q
  have k6:1125899906842624*((M:Rat)-(N:Rat))≤3*(M:Rat):=Q
  have m:=Rat.mul_le_mul_of_nonneg_right k6 (Rat.le_of_lt q)
  grind
theorem vC(x d:Nat)(r:Rat)(J:x<18446744073709551616)(L:d<18446744073709551616)(M:ah x=true)(N:ah d=true)(l:0<ab (fQ d))(O:1≤r)(z:r≤100)(h:ab (fQ x)≤r*ab (fQ d)):
  ah (dV x d)=true∧100000*ab (fQ (dV x d))≤100001*r:=by
 have Q:fK d≠0:=fun e=>by
  rw[bu d e]at l
  unfold ab at l
  grind
 have D:(100:Rat)≤p2 1000:=by
  have h1:=aA (show(7:Int)≤1000 by decide)
  have h2:p2 7=128:=by rw[show(7:Int)=((7:Nat):Int) by rfl,cR];rfl
  grind
 have T:=Rat.mul_nonneg (show 0≤p2 1000-r by grind) (Rat.le_of_lt l)
 obtain⟨Z,g2⟩:=Ee x d J L M N Q (by grind)
 refine⟨Z,?_⟩
 obtain⟨q1,q2,q3⟩:=fm
 have U:=au (fQ (dV x d)*fQ d-fQ x);have V:=au (fQ x)
 have t:=bU (x:=fQ (dV x d)*fQ d) (y:=ab (fQ (dV x d)*fQ d-fQ x)+ab (fQ x)) (by grind) (by grind)
 rw[aK]at t
 have X:=Rat.mul_le_mul_of_nonneg_left q1 (Rat.le_of_lt l)
 have F:ab (fQ d)*(1267650600228229401496703205376*p2 (-1075))=1267650600228229401496703205376*(p2 (-1075)*ab (fQ d)):=by grind
 rw[F]at X
 rcases Rat.le_total (a:=100000*ab (fQ (dV x d))) (b:=100001*r)with g|g
 ·exact g
 ·exfalso
  have m:=Rat.mul_le_mul_of_nonneg_left g (Rat.le_of_lt l)
  have G:ab (fQ d)*(100001*r)=100001*(r*ab (fQ d)):=by grind
  have H:ab (fQ d)*(100000*ab (fQ (dV x d)))=100000*(ab (fQ (dV x d))*ab (fQ d)):=by grind
  rw[G,H]at m
  have Y:=Rat.mul_nonneg (show 0≤r-1 by grind) (Rat.le_of_lt l)
  have I:(r-1)*ab (fQ d)=r*ab (fQ d)-ab (fQ d):=by grind
  rw[I]at Y
  clear U V F G H I T g O z D
  generalize ab (fQ (dV x d))*ab (fQ d)=z1 at*
  generalize p2 (-1075)*ab (fQ d)=z2 at*
  generalize r*ab (fQ d)=z3 at*
  generalize ab (fQ (dV x d)*fQ d-fQ x)=z4 at*
  grind
theorem Bb(c Y:Rat)(T:100*ab c≤201*Y):∀(D d l:List Nat),dU c (46*Y) D d l→(∀v∈D,1000*ab (fQ v)≤1001)→(∀y∈d,ab (fQ y)≤Y)→0≤Y→∀u∈l,ah u=true∧ab (fQ u)≤4*Y:=by
 intro D
 induction D with
 |nil=>
  intro d l h _ _ _ u z
  cases d with
  |cons y d=>exact absurd h (by unfold dU;exact id)
  |nil=>
   cases l with
   |nil=>cases z
   |cons w l=>exact absurd h (by unfold dU;exact id)
 |cons v D ih=>
  intro d l h H I Q u z
  cases d with
  |nil=>exact absurd h (by unfold dU;exact id)
  |cons y d=>
   cases l with
   |nil=>cases z
   |cons w l=>
    unfold dU at h
    rcases List.mem_cons.1 z with rfl|z
    ·refine⟨h.1.1,?_⟩
     have e:=h.1.2
     have G:=H v List.mem_cons_self
     have J:=I y List.mem_cons_self
     have L:=au (fQ u-(fQ y-c*fQ v));have M:=au (fQ y);have N:=au (c*fQ v)
     have t:=bU (x:=fQ u) (y:=ab (fQ u-(fQ y-c*fQ v))+ab (fQ y)+ab (c*fQ v)) (by grind) (by grind)
     have m:=Rat.mul_le_mul_of_nonneg_left G (bK c)
     have O:ab c*(1000*ab (fQ v))=1000*ab (c*fQ v):=by rw[aK];grind
     rw[O]at m
     generalize ab (fQ u-(fQ y-c*fQ v))=z1 at*
     generalize ab (c*fQ v)=z2 at*
     clear L M N
     grind
    ·exact ih d l h.2 (fun x F=>H x (List.mem_cons_of_mem _ F)) (fun x F=>I x (List.mem_cons_of_mem _ F)) Q u z
theorem KL(Z:Rat):∀(d:List Nat),(∀y∈d,ab (fQ y)≤Z)→mT d≤(d.length:Rat)*Z:=by
 intro d
 induction d with
 |nil=>
  intro _
  have l:mT []=0:=rfl
  have t:(([]:List Nat).length:Rat)=0:=rfl
  rw[l,t]
  grind
 |cons y d ih=>
  intro h
  have i:=ih (fun z D=>h z (List.mem_cons_of_mem _ D))
  have F:=h y List.mem_cons_self
  have l:mT (y::d)=ab (fQ y)+mT d:=rfl
  have t:((y::d).length:Rat)=(d.length:Rat)+1:=by rw[List.length_cons,Rat.natCast_add];rfl
  rw[l,t,Rat.add_mul,Rat.one_mul]
  grind
theorem rQ(l:Nat)(Z:Rat)(t d:List Nat)(H:t.length≤6)(z:t.length=d.length)(I:ah l=true)(J:1000*ab (fQ l)≤2001)(F:∀v∈t,ah v=true∧1000*ab (fQ v)≤1001)(D:∀y∈d,ah y=true∧ab (fQ y)≤Z)
  (L:6*Z≤p2 900) (N:1267650600228229401496703205376*p2 (-1075)≤Z):∀u∈mU (mV l (eh 0 t d)) t d,ah u=true∧ab (fQ u)≤24*Z:=by
 have V:=aw (-1075)
 have O:0≤Z:=by grind
 have s:=KL Z d (fun y h=>(D y h).2)
 have Q:(d.length:Rat)≤6:=Rat.natCast_le_natCast.2 (by omega:d.length≤6)
 have m:=Rat.mul_nonneg (show 0≤6-(d.length:Rat) by grind) O
 have M:mT d≤6*Z:=by grind
 obtain⟨X,T,_,_⟩:=vr l (6*Z) t d H I J F (fun y h=>(D y h).1) M L (by grind)
 have G:=rP l (6*Z) t d H z I J F (fun y h=>(D y h).1) M L (by grind)
 intro u U
 obtain⟨u1,u2⟩:=Bb _ (6*Z) T t d _ G (fun v h=>(F v h).2) (fun y h=>by have:=(D y h).2;grind) (by grind) u U
 exact⟨u1,by grind⟩
theorem rR(d:List Nat)(F:d.length≤64)(h:jV 300 d)(G:bS 0 d≠0):
  0<fQ (aX d)∧ah (aX d)=true∧fS (aX d)=false∧9007199254740992*ab (fQ (aX d)*fQ (aX d)-aJ d)≤135*aJ d∧fQ (aX d)≤p2 304∧p2 (-301)≤fQ (aX d)∧(∀x∈d,1000000*ab (fQ x)≤1000001*fQ (aX d)):=by
 obtain⟨n1,n2,H,n4⟩:=pU 300 (by decide) d F h G
 obtain⟨b1,b2,b3,b4,b5,b6,b7,b8,y,hy,b9,aa⟩:=gz 300 d h G
 have J:(d.length:Rat)≤64:=Rat.natCast_le_natCast.2 F
 have P0:=aw 300
 have L:=jv _ (by omega) b2 b3
 rw[aQ (ju _ b4)]at L
 have M:=aA (show eX (bS 0 d)+1≤300 by omega)
 have N:=aA (show-300≤eX (bS 0 d) by omega)
 have hS:aJ d≤64*(p2 300*p2 300):=by
  have h1:=mw (p2 300) d (fun x D=>by have:=b7 x D;grind)
  have:=Rat.mul_nonneg (show 0≤64-(d.length:Rat) by grind) (al (p2 300))
  grind
 have O:=zB d y hy
 have Q:p2 (-300)≤ab (fQ y):=by rw[b9];grind
 have Q0:=aw (-300)
 have T:=al (fQ y)
 have ey:ab (fQ y)*ab (fQ y)=fQ y*fQ y:=by rw[←aK];exact aQ T
 have U:p2 (-300)*p2 (-300)≤aJ d:=by
  have m:=Rat.mul_nonneg (show 0≤ab (fQ y)-p2 (-300) by grind) (show 0≤ab (fQ y)+p2 (-300) by grind)
  grind
 have l:=au (fQ (aX d)*fQ (aX d)-aJ d)
 have t:p2 304=16*p2 300:=by rw[show(304:Int)=300+1+1+1+1 by rfl];simp only[bR];grind
 have z:p2 (-300)=2*p2 (-301):=by rw[show(-300:Int)= -301+1 by rfl,bR]
 have s0:=bw d
 refine⟨H,n1,n2,n4,?_,?_,fun x D=>?_⟩
 ·refine bW (Rat.le_of_lt (aw _)) ?_
  rw[t]
  generalize fQ (aX d)*fQ (aX d)=I at*
  have:16*p2 300*(16*p2 300)=256*(p2 300*p2 300):=by grind
  rw[this]
  generalize p2 300*p2 300=PP at*
  grind
 ·refine bW (Rat.le_of_lt H) ?_
  have:p2 (-300)*p2 (-300)=4*(p2 (-301)*p2 (-301)):=by rw[z];grind
  rw[this]at U
  have V:=Rat.mul_pos (aw (-301)) (aw (-301))
  generalize fQ (aX d)*fQ (aX d)=I at*
  generalize p2 (-301)*p2 (-301)=PP at*
  grind
 ·have X:=zB d x D
  have Y:=al (fQ x)
  have Z:ab (fQ x)*ab (fQ x)=fQ x*fQ x:=by rw[←aK];exact aQ Y
  refine bW (by grind) ?_
  rw[show 1000000*ab (fQ x)*(1000000*ab (fQ x))=1000000000000*(ab (fQ x)*ab (fQ x)) by grind,Z,show 1000001*fQ (aX d)*(1000001*fQ (aX d))=1000002000001*(fQ (aX d)*fQ (aX d)) by grind]
  generalize fQ (aX d)*fQ (aX d)=I at*
  generalize fQ x*fQ x=XX at*
  grind
theorem th(a b:Nat)(l:List Nat)(hl:(a::l).length≤64)(h:jV 300 (a::l))(h0:bS 0 (a::l)≠0)(G:b<18446744073709551616)(M:ah b=true)(b0:fK b≠0)
  (Q:(fQ b=fQ (aX (a::l))∧fQ a≤0)∨(fQ b= -fQ (aX (a::l))∧0≤fQ a)):
  let d:=aV a (fN b);let t:=dV (aV b (fN a)) b;let T:=l.map (fun x=>dV x d)
  ah d=true∧ah t=true∧(∀v∈T,ah v=true)∧gJ (fQ d) (18014398509481984*(p2 (-1075)*ab (fQ d))) T l∧9007199254740992*ab (fQ d-(fQ a-fQ b))≤ab (fQ a-fQ b)∧
  ab (fQ a-fQ b)=ab (fQ a)+ab (fQ b)∧ab (fQ b)=fQ (aX (a::l))∧9007199254740992*ab (fQ t*fQ b+(fQ a-fQ b))≤4*ab (fQ a-fQ b)∧4503599627370496*ab (fQ a)≤4503599627370496*ab (fQ b)+70*ab (fQ b):=by
 intro d t T
 obtain⟨N,n2,n3,n4,n5,n6,n7⟩:=rR (a::l) hl h h0
 obtain⟨O,a2⟩:=h.1 a List.mem_cons_self
 have D:ab (fQ b)=fQ (aX (a::l)):=by
  rcases Q with⟨e,_⟩|⟨e,_⟩
  ·rw[e];exact aQ (Rat.le_of_lt N)
  ·rw[e,ik];exact aQ (Rat.le_of_lt N)
 have F:ab (fQ a-fQ b)=ab (fQ a)+ab (fQ b):=by
  rw[D]
  rcases Q with⟨e,g⟩|⟨e,g⟩
  ·rw[e];unfold ab;grind
  ·rw[e];unfold ab;grind
 have H:ah (fN a)=true:=by rw[gY a O];exact a2
 have I:ah (fN b)=true:=by rw[gY b G];exact M
 have qa:=mv a O;have qb:=mv b G
 have A0:=bK (fQ a)
 have hA:=n7 a List.mem_cons_self
 have P4:=aw 304
 have ai:8*p2 304≤p2 1023∧4*p2 304≤p2 310:=by
  have h1:=aA (show(304+1+1+1:Int)≤1023 by decide)
  have h2:=aA (show(304+1+1:Int)≤310 by decide)
  simp only[bR]at h1 h2
  exact⟨by grind,by grind⟩
 --the difference and the other one
 have U:ah d=true:=iD a (fN b) a2 I (by rw[qb,show fQ a+-fQ b=fQ a-fQ b by grind,F,D];grind)
 have ed:=iC a (fN b) a2 I U
 rw[qb,show fQ a+-fQ b=fQ a-fQ b by grind]at ed
 have fg:ah (aV b (fN a))=true:=iD b (fN a) M H (by rw[qa,show fQ b+-fQ a= -(fQ a-fQ b) by grind,ik,F,D];grind)
 have V:=iC b (fN a) M H fg
 rw[qa,show fQ b+-fQ a=fQ b-fQ a by grind]at V
 have kD:ab (fQ b-fQ a)=ab (fQ a-fQ b):=pI _ _
 have ld:=au (fQ d-(fQ a-fQ b));have lD:=au (fQ a-fQ b)
 have X:9007199254740992*ab (fQ d-(fQ a-fQ b))≤ab (fQ a-fQ b):=ed
 have dd:=bU (x:=fQ d) (y:=ab (fQ d-(fQ a-fQ b))+ab (fQ a-fQ b)) (by grind) (by grind)
 have am:=bU (x:=fQ a-fQ b) (y:=ab (fQ d-(fQ a-fQ b))+ab (fQ d)) (by have:=au (fQ d);grind) (by have:=au (fQ d);grind)
 have J:fQ (aX (a::l))≤2*ab (fQ d):=by rw[F,D]at*;grind
 have ao:ab (fQ d)≤p2 310:=by rw[F,D]at*;grind
 have k0:fK d≠0:=fun e=>by
  have:=bu d e
  rw[this]at J
  unfold ab at J
  grind
 have dl:d<18446744073709551616:=jT a (fN b) O (jF b G)
 obtain⟨q1,q2⟩:=Ec d dl U k0 l (fun x hx=>by
  obtain⟨x1,x2⟩:=h.1 x (List.mem_cons_of_mem _ hx)
  have x4:=n7 x (List.mem_cons_of_mem _ hx)
  refine⟨x1,x2,by grind⟩)
 --tau
 have gl:aV b (fN a)<18446744073709551616:=jT b (fN a) G (jF a O)
 have lg:=au (fQ (aV b (fN a))-(fQ b-fQ a));have lG:=au (fQ b-fQ a)
 have gg:=bU (x:=fQ (aV b (fN a))) (y:=ab (fQ (aV b (fN a))-(fQ b-fQ a))+ab (fQ b-fQ a)) (by grind) (by grind)
 have Y:=bU (x:=fQ a-fQ b) (y:=ab (fQ (aV b (fN a))-(fQ b-fQ a))+ab (fQ (aV b (fN a)))) (by have:=au (fQ (aV b (fN a)));grind) (by have:=au (fQ (aV b (fN a)));grind)
 have Z:=V
 rw[kD,F,D]at Z
 rw[kD,F,D]at gg
 rw[F,D]at Y
 have L:fQ (aX (a::l))≤2*ab (fQ (aV b (fN a))):=by
  generalize ab (fQ (aV b (fN a))-(fQ b-fQ a))=z at*
  grind
 have ap:ab (fQ (aV b (fN a)))≤4*fQ (aX (a::l)):=by
  generalize ab (fQ (aV b (fN a))-(fQ b-fQ a))=z at*
  grind
 have g0:fK (aV b (fN a))≠0:=fun e=>by
  have:=bu _ e
  rw[this]at L
  unfold ab at L
  grind
 have ae:=aw (-1075)
 obtain⟨n8,_,_⟩:=fm
 obtain⟨t1,t2⟩:=D4 (aV b (fN a)) b gl G fg M g0 b0 (by rw[D];grind) (by
  rw[D]
  have aa:1267650600228229401496703205376*(4*p2 (-1075))≤2:=by
   have e1:=aA (show(102+-1075:Int)≤1 by decide)
   rw[cQ,show(102:Int)=((102:Nat):Int) by rfl,cR,MJ]at e1
   have:((2^102:Nat):Rat)=5070602400912917605986812821504:=rfl
   rw[this]at e1
   grind
  have:=Rat.mul_le_mul_of_nonneg_left aa (Rat.le_of_lt N)
  grind)
 have es:aJ (a::l)=fQ a*fQ a+aJ l:=rfl
 rw[es]at n4
 have ad:9007199254740992*ab (fQ b*fQ b-(fQ a*fQ a+aJ l))≤135*(fQ a*fQ a+aJ l):=by
  have:fQ b*fQ b=fQ (aX (a::l))*fQ (aX (a::l)):=by
   rcases Q with⟨e,_⟩|⟨e,_⟩<;>rw[e]<;>grind
  rw[this];exact n4
 obtain⟨m1,m2⟩:=xA (fQ a) (fQ b) (aJ l) (fQ t) (fQ (aV b (fN a))) (bw l) (by rw[D];exact N) F ad V t2
 exact⟨U,t1,q2,q1,X,F,D,m1,m2⟩
theorem kO(a b d t:Nat)(D F:List Nat)(hl:(a::D).length≤64)(h:jV 300 (a::D))(h0:bS 0 (a::D)≠0)(hb:b<18446744073709551616)(fb:ah b=true)(b0:fK b≠0)
  (hs:(fQ b=fQ (aX (a::D))∧fQ a≤0)∨(fQ b= -fQ (aX (a::D))∧0≤fQ a)) (hd:d=aV a (fN b)) (ht:t=dV (aV b (fN a)) b) (hv:F=D.map (fun x=>dV x d)):
  ah t=true∧1000*ab (fQ t)≤2001∧9007199254740992*fQ t≤18014398509481984+200∧9007199254740992≤9007199254740992*fQ t+5∧
  (∀v∈4607182418800017408::F,ah v=true∧1000*ab (fQ v)≤1001)∧8796093022208*ab (fQ t*aJ (4607182418800017408::F)-2)≤1∧
  gJ (fQ d) (18014398509481984*(p2 (-1075)*ab (fQ d))) F D∧9007199254740992*ab (fQ d-(fQ a-fQ b))≤ab (fQ a-fQ b)∧ab (fQ a-fQ b)=ab (fQ a)+ab (fQ b)∧ab (fQ b)=fQ (aX (a::D))∧
  9007199254740992*ab (fQ t*(fQ a+dC F D)-(fQ a-fQ b))≤300*ab (fQ a-fQ b):=by
 obtain⟨m1,m2,m3,O,Q,m6,m7,m8,m9⟩:=th a b D hl h h0 hb fb b0 hs
 rw[←hd]at m1 m3 O Q
 rw[←ht]at m2 m8
 rw[←hv]at m3 O
 obtain⟨n1,n2,n3,n4,n5,n6,n7⟩:=rR (a::D) hl h h0
 have es:aJ (a::D)=fQ a*fQ a+aJ D:=rfl
 rw[es]at n4
 have I:9007199254740992*ab (fQ b*fQ b-(fQ a*fQ a+aJ D))≤135*(fQ a*fQ a+aJ D):=by
  have:fQ b*fQ b=fQ (aX (a::D))*fQ (aX (a::D)):=by
   rcases hs with⟨e,_⟩|⟨e,_⟩<;>rw[e]<;>grind
  rw[this];exact n4
 have J:(0<fQ b∧fQ a≤0)∨(fQ b<0∧0≤fQ a):=by
  rcases hs with⟨e,g⟩|⟨e,g⟩
  ·exact .inl ⟨by rw[e];exact n1,g⟩
  ·exact .inr ⟨by rw[e];grind,g⟩
 --the absolute errors are small
 have aa:D.length≤64:=by rw[List.length_cons]at hl;omega
 have ad:(D.length:Rat)≤64:=Rat.natCast_le_natCast.2 aa
 have ae:ab (fQ d)≤3*fQ (aX (a::D)):=by
  have t:=bU (x:=fQ d) (y:=ab (fQ d-(fQ a-fQ b))+ab (fQ a-fQ b)) (by have:=au (fQ d-(fQ a-fQ b));have:=au (fQ a-fQ b);grind) (by have:=au (fQ d-(fQ a-fQ b));have:=au (fQ a-fQ b);grind)
  have ha:=n7 a List.mem_cons_self
  have L:=Q
  rw[m6,m7]at L t
  generalize ab (fQ d-(fQ a-fQ b))=z at*
  grind
 obtain⟨κ,G⟩:∃κ,18014398509481984*(p2 (-1075)*ab (fQ d))=κ:=⟨_,rfl⟩
 have N:0≤κ:=by
  rw[←G]
  have:=Rat.mul_nonneg (Rat.le_of_lt (aw (-1075))) (bK (fQ d))
  grind
 have U:17592186044416*κ≤fQ (aX (a::D)):=by
  obtain⟨q1,q2,q3⟩:=fm
  have m:=Rat.mul_le_mul_of_nonneg_left q1 (bK (fQ d))
  rw[←G]
  have e:ab (fQ d)*(1267650600228229401496703205376*p2 (-1075))=1267650600228229401496703205376*(p2 (-1075)*ab (fQ d)):=by grind
  rw[e]at m
  have z0:=Rat.mul_nonneg (Rat.le_of_lt q2) (bK (fQ d))
  generalize p2 (-1075)*ab (fQ d)=K at*
  grind
 rw[G]at O⊢
 obtain⟨μ,T⟩:∃μ,fQ (aX (a::D))=μ:=⟨_,rfl⟩
 have E1:∀x∈D,4*(ab (fQ x)*κ)+4*(κ*κ)≤μ*μ*(1/1000):=fun x hx=>by
  have ai:=n7 x (List.mem_cons_of_mem _ hx)
  rw[T]at ai U
  have x0:=bK (fQ x)
  have V:0≤μ:=by rw[←T];exact Rat.le_of_lt n1
  have a1:=Rat.mul_nonneg (show 0≤μ-17592186044416*κ by grind) x0
  have a2:=Rat.mul_nonneg (show 0≤1000001*μ-1000000*ab (fQ x) by grind) V
  have a3:=Rat.mul_nonneg (show 0≤μ-17592186044416*κ by grind) N
  have a4:=Rat.mul_nonneg (show 0≤μ-17592186044416*κ by grind) V
  have a5:=al μ
  have e1:ab (fQ x)*κ=κ*ab (fQ x):=Rat.mul_comm _ _
  generalize ab (fQ x)=X at*
  grind
 obtain⟨aq,ax⟩:=Eb (fQ d) κ (μ*μ*(1/1000)) N F D O E1
 have am:(D.length:Rat)*(μ*μ*(1/1000))≤fQ a*fQ a+aJ D:=by
  have l:=au (fQ (aX (a::D))*fQ (aX (a::D))-(fQ a*fQ a+aJ D))
  rw[T]at l n4
  have q:=al μ
  have m:=Rat.mul_nonneg (show 0≤64-(D.length:Rat) by grind) (show 0≤μ*μ*(1/1000) by grind)
  have S0:0≤fQ a*fQ a+aJ D:=by have:=al (fQ a);have:=bw D;grind
  generalize fQ a*fQ a+aJ D=S at*
  generalize ab (μ*μ-S)=z at*
  generalize μ*μ=M at*
  grind
 have s1:9007199254740992*ab (aJ F*(fQ d*fQ d)-aJ D)≤5*aJ D+(fQ a*fQ a+aJ D):=by grind
 have s2:9007199254740992*ab (dC F D*fQ d-aJ D)≤2*aJ D+(fQ a*fQ a+aJ D):=by grind
 clear aq ax E1
 obtain⟨k1,k2,k3⟩:=tg (fQ a) (fQ b) (aJ D) (fQ d) (fQ t) (aJ F) (bw D) J I Q m8 m9 s1
 have Y:1000*ab (fQ t)≤2001:=by rw[aQ (by grind)];grind
 have Z:=vq (fQ a) (fQ b) (aJ D) (fQ d) (fQ t) (dC F D) (bw D) J I Q m8 m9 s2 Y
 have ao:1000000*fQ (aX (a::D))≤1000001*ab (fQ d):=by
  have l:=au (fQ d-(fQ a-fQ b));have l2:=au (fQ d)
  have t:=bU (x:=fQ a-fQ b) (y:=ab (fQ d-(fQ a-fQ b))+ab (fQ d)) (by grind) (by grind)
  have a0:=bK (fQ a)
  have L:=Q
  rw[m6,m7]at L t
  clear l l2 J hs n7 h m3 Z k1 s1 s2 n4 I Q m8 O hl h0 am U N G ae ad
  generalize ab (fQ d-(fQ a-fQ b))=z at*
  grind
 have ap:=xK (fQ d) _ κ n1 (by grind) ao F D O (fun x hx=>n7 x (List.mem_cons_of_mem _ hx))
 refine⟨m2,Y,k2,k3,?_,?_,O,Q,m6,m7,Z⟩
 ·intro v H
  rcases List.mem_cons.1 H with rfl|H
  ·rw[k7]
   exact⟨by decide,by unfold ab;grind⟩
  ·exact⟨m3 v H,ap v H⟩
 ·have e:aJ (4607182418800017408::F)=1+aJ F:=by
   show fQ 4607182418800017408*fQ 4607182418800017408+aJ F=_
   rw[k7]
   grind
  rw[e]
  exact k1
theorem ti(a b d t:Nat)(D vs:List Nat)(hl:(a::D).length≤64)(G:∀x∈a::D,x<18446744073709551616∧ah x=true∧ab (fQ x)≤p2 300)(h0:bS 0 (a::D)≠0)(L:b<18446744073709551616)(V:ah b=true)
  (M:(fQ b=fQ (aX (a::D))∧fQ a≤0)∨(fQ b= -fQ (aX (a::D))∧0≤fQ a)) (X:d=aV a (fN b)) (ht:t=dV (aV b (fN a)) b) (hv:vs=D.map (fun x=>dV x d)):
  ah d=true∧ah t=true∧1000*ab (fQ t)≤2001∧(∀v∈vs,ah v=true∧1000*ab (fQ v)≤1001)∧ab (fQ b)≤p2 306:=by
 obtain⟨k,J⟩:∃k,eX (bS 0 (a::D))=k:=⟨_,rfl⟩
 have hT:jV (k.natAbs+1) (a::D):=⟨fun x h=>⟨(G x h).1,(G x h).2.1⟩,.inr ⟨by rw[J];omega,by rw[J];omega⟩⟩
 obtain⟨b1,b2,b3,b4,b5,b6,b7,b8,y,hy,b9,ao⟩:=gz _ (a::D) hT h0
 have hM:=jv _ (by omega) b2 b3
 rw[J,aQ (ju _ b4)]at hM
 have O:=(G y hy).2.2
 rw[b9]at O
 have k1:k≤300:=mz (Rat.le_trans hM.1 O)
 obtain⟨_,up⟩:=jy _ (a::D) hl hT h0 (by rw[J];omega)
 have ge:=vB _ (a::D) hl hT h0 (by rw[J];omega)
 rw[J]at up
 have pk:=aw k
 have M0:0<fQ (bS 0 (a::D)):=by grind
 have H:0<fQ (aX (a::D)):=by grind
 have I:ab (fQ b)=fQ (aX (a::D)):=by
  rcases M with⟨e,_⟩|⟨e,_⟩<;>rw[e]
  ·exact aQ (Rat.le_of_lt H)
  ·unfold ab;grind
 have Y:∀x∈a::D,1000000*ab (fQ x)≤1000001*ab (fQ b):=fun x h=>by
  have:=b7 x h
  rw[I]
  grind
 have Z:ab (fQ a-fQ b)=ab (fQ a)+ab (fQ b):=by
  rcases M with⟨e,g⟩|⟨e,g⟩<;>rw[e]<;>unfold ab<;>grind
 have F:ab (fQ b-fQ a)=ab (fQ a)+ab (fQ b):=by
  rcases M with⟨e,g⟩|⟨e,g⟩<;>rw[e]<;>unfold ab<;>grind
 have aa:ab (fQ b)≤p2 306:=by
  rw[I]
  rw[aQ (Rat.le_of_lt H)]at up
  have h1:=aA k1
  have h2:=aA (show(-1074:Int)≤300 by decide)
  have h3:=aA (show(300+1+1+1+1+1:Int)≤306 by decide)
  simp only[bR]at h3
  grind
 have ad:8*p2 306≤p2 1023∧0<p2 306:=by
  have h3:=aA (show(306+1+1+1:Int)≤1023 by decide)
  simp only[bR]at h3
  exact⟨by grind,aw _⟩
 obtain⟨a1,a2,a3⟩:=G a List.mem_cons_self
 have ha:=Y a List.mem_cons_self
 have a0:=bK (fQ a)
 have bp:0<ab (fQ b):=by rw[I];exact H
 have Q:ah (fN b)=true:=by rw[gY _ L];exact V
 have T:ah (fN a)=true:=by rw[gY _ a1];exact a2
 have qb:=mv _ L
 have qa:=mv _ a1
 have fd:ah d=true:=by
  rw[X]
  refine iD a (fN b) a2 Q ?_
  rw[qb,show fQ a+-fQ b=fQ a-fQ b by grind,Z]
  grind
 have ed:9007199254740992*ab (fQ d-(fQ a-fQ b))≤ab (fQ a-fQ b):=by
  have e:=iC a (fN b) a2 Q (by rw[←X];exact fd)
  rw[qb,show fQ a+-fQ b=fQ a-fQ b by grind,←X]at e
  exact e
 have ae:1000000*ab (fQ b)≤1000001*ab (fQ d):=by
  have l:=au (fQ d-(fQ a-fQ b));have l2:=au (fQ d)
  have tt:=bU (x:=fQ a-fQ b) (y:=ab (fQ d-(fQ a-fQ b))+ab (fQ d)) (by grind) (by grind)
  rw[Z]at ed tt
  clear l l2
  generalize ab (fQ d-(fQ a-fQ b))=z at*
  clear M Z F Y G up ge
  grind
 have fs:ah (aV b (fN a))=true:=by
  refine iD b (fN a) V T ?_
  rw[qa,show fQ b+-fQ a=fQ b-fQ a by grind,F]
  grind
 have ai:1000000*ab (fQ (aV b (fN a)))≤2000002*ab (fQ b):=by
  have e:=iC b (fN a) V T fs
  rw[qa,show fQ b+-fQ a=fQ b-fQ a by grind]at e
  have l:=au (fQ (aV b (fN a))-(fQ b-fQ a));have l2:=au (fQ b-fQ a)
  have tt:=bU (x:=fQ (aV b (fN a))) (y:=ab (fQ (aV b (fN a))-(fQ b-fQ a))+ab (fQ b-fQ a)) (by grind) (by grind)
  rw[F]at e tt
  clear l l2
  generalize ab (fQ (aV b (fN a))-(fQ b-fQ a))=z at*
  clear M Z F Y G up ge
  grind
 obtain⟨t1,t2⟩:=vC (aV b (fN a)) b (2000002/1000000) (jT _ _ L (jF _ a1)) L fs V bp (by grind) (by grind) (by grind)
 rw[←ht]at t1 t2
 refine⟨fd,t1,by grind,fun v N=>?_,aa⟩
 rw[hv]at N
 obtain⟨x,U,rfl⟩:=List.mem_map.1 N
 obtain⟨x1,x2,_⟩:=G x (List.mem_cons_of_mem _ U)
 have am:=Y x (List.mem_cons_of_mem _ U)
 have dl:d<18446744073709551616:=by rw[X];exact jT _ _ a1 (jF _ L)
 obtain⟨v1,v2⟩:=vC x d (1000003/1000000) x1 dl x2 fd (by grind) (by grind) (by grind) (by grind)
 exact⟨v1,by grind⟩
def aO(s t:Bool):Nat:=if(s&&t)=true then 9223372036854775808 else 0
theorem xN(a b:Nat)(w:World)(z:a<18446744073709551616)(D:b<18446744073709551616):
  Calls Tryz.prog 253 #[.int .u64 a,.int .u64 b] w fun e h=>e=.returned (.int .u64 (aO (fS a) (fS b):Nat))∧Below w.heap.size w h:=by
 have F:=ac (fun h=>fh a h z)
 have G:=ac (fun h=>fh b h D)
 generalize fS a=s at*
 generalize fS b=t at*
 clear z D
 go_enter Tryz.func253,Tryz.ntmps253
 go_wp2_with fail
 refine(uH F _).mono ?_
 rintro e H ⟨rfl,d⟩
 cases s
 ·go_wp2
  go_ret
  exact⟨rfl,d⟩
 ·go_wp2_with fail
  refine(uH G _).mono ?_
  rintro e I ⟨rfl,l⟩
  cases t
  ·go_wp2
   go_ret
   exact⟨rfl,d.trans (l.mono d.size)⟩
  ·go_wp2
   go_ret
   exact⟨rfl,d.trans (l.mono d.size)⟩
theorem Ef{w:World}{n:Bool}{a:Option Addr}{l c:Nat}{e m X:Int}(h:bc w (.agg #[.bool n,.slice a l c,.int .i64 e]) m X):((l:Int)==0)=decide (m=0):=by
 obtain⟨I,a',J,d,D,_,H,_,z,_⟩:=h.parts
 simp only[Value.agg.injEq,Array.mk.injEq,List.cons.injEq,Value.slice.injEq]at D
 have G:=D.2.1.2.1
 by_cases t:m=0
 ·have:d= []:=(aS d H).1 (by rw[z,t];rfl)
  rw[decide_eq_true t,G,this];rfl
 ·have:d.length≠0:=fun F=>by
   have:d= []:=List.length_eq_zero_iff.1 F
   rw[this]at z
   simp[val]at z
   omega
  rw[decide_eq_false t];simp;omega
theorem vE(a b:Nat)(z1 z2 z D F:Int)(w:World)(o:Nat)
  (C1:∀l,Below w.heap.size w l→Calls Tryz.prog 193 #[.int .u64 a] l fun r t=>ow t r 0 z1 z∧Below l.heap.size l t)
  (C2:∀l,Below w.heap.size w l→Calls Tryz.prog 193 #[.int .u64 b] l fun r t=>ow t r 0 z2 D∧Below l.heap.size l t)
  (C3:∀l v u,Below w.heap.size w l→bc l v z1 z→bc l u z2 D→Calls Tryz.prog 252 #[v,u] l fun r t=>ow t r 0 0 F∧Below l.heap.size l t)
  (C4:∀l,Calls Tryz.prog 253 #[.int .u64 a,.int .u64 b] l fun r t=>r=.returned (.int .u64 (o:Nat))∧Below l.heap.size l t):
  Calls Tryz.prog 240 #[.int .u64 a,.int .u64 b] w fun r l=>r=.returned (.tuple #[.int .u64 (o:Nat),.int .u8 0])∧Below w.heap.size w l:=by
 have K1:=ac C1;have K2:=ac C2;have K3:=ac C3;have K4:=ac C4
 clear C1 C2 C3 C4
 go_enter Tryz.func240,Tryz.ntmps240
 go_wp2_with fail
 refine(uH K1 _ (Below.refl _ _)).mono ?_
 rintro e I ⟨⟨v,rfl,J⟩,h⟩
 obtain⟨V,Y,Z,L1,rfl,i1⟩:=J
 have d:Below I.heap.size I (I.alloc (.cells #[.bool V,.slice Y L1.length Z,.int .i64 z] 57)):=(Below.refl _ _).alloc (Nat.le_refl _) _
 have HV:=ac ((show bc I (.agg #[.bool V,.slice Y L1.length Z,.int .i64 z]) z1 z from⟨V,Y,Z,L1,rfl,i1⟩).below d)
 have X:=ac (a8.new I (.bool V) (.slice Y L1.length Z) (.int .i64 z))
 have N:=ac (h.trans (d.mono h.size))
 clear i1 h d K1
 go_wp2_with fail
 refine(uH K2 _ (uH N)).mono ?_
 rintro e L ⟨⟨v,rfl,J⟩,h⟩
 obtain⟨n2,a2,c2,L2,rfl,i2⟩:=J
 have d:Below L.heap.size L (L.alloc (.cells #[.bool n2,.slice a2 L2.length c2,.int .i64 D] 57)):=(Below.refl _ _).alloc (Nat.le_refl _) _
 have HU:=ac ((show bc L (.agg #[.bool n2,.slice a2 L2.length c2,.int .i64 D]) z2 D from⟨n2,a2,c2,L2,rfl,i2⟩).below d)
 have G:=ac (((uH HV).below h).below d)
 have O:=((uH X).all h).all d
 have Q:=a8.new L (.bool n2) (.slice a2 L2.length c2) (.int .i64 D)
 have T:=ac ((uH N).trans ((h.trans (d.mono h.size)).mono (uH N).size))
 have y0:=O.c0;have y1:=O.c1;have y2:=O.c2;have u0:=Q.c0;have u1:=Q.c1;have u2:=Q.c2
 clear i2 h d K2 N HV X O Q
 go_wp2_with fail
 refine(uH K3 _ _ _ (uH T) (uH G) (uH HU)).mono ?_
 rintro e M ⟨⟨v,rfl,J⟩,h⟩
 clear y0 y1 y2 u0 u1 u2
 obtain⟨n3,a3,c3,H,rfl,i3⟩:=J
 have d:Below M.heap.size M (M.alloc (.cells #[.bool n3,.slice a3 H.length c3,.int .i64 F] 57)):=(Below.refl _ _).alloc (Nat.le_refl _) _
 have HX:=ac ((show bc M (.agg #[.bool n3,.slice a3 H.length c3,.int .i64 F]) 0 F from⟨n3,a3,c3,H,rfl,i3⟩).below d)
 have hl:=Ef (uH HX)
 rw[decide_eq_true rfl]at hl
 have B3:=ac ((uH T).trans ((h.trans (d.mono h.size)).mono (uH T).size))
 have U:=a8.new M (.bool n3) (.slice a3 H.length c3) (.int .i64 F)
 have y0:=U.c0;have y1:=U.c1;have y2:=U.c2
 clear i3 h d K3 T G HU U
 generalize H.length=l3 at*
 go_wp2_with fail
 refine(uH K4 _).mono ?_
 rintro e w4 ⟨rfl,h⟩
 have B4:=ac ((uH B3).trans (h.mono (uH B3).size))
 clear h K4 B3
 go_wp2
 exact bodyPost_ret (v:=.tuple #[.int .u64 o,.int .u8 0]) (by simp[results,Tryz.results240,go_sem]) rfl ⟨rfl,uH B4⟩
theorem vF(a b:Nat)(z1 z2 N z D F fl:Int)(w:World)(o:Nat)(h0:N≠0)
  (C1:∀l,Below w.heap.size w l→Calls Tryz.prog 193 #[.int .u64 a] l fun r t=>ow t r 0 z1 z∧Below l.heap.size l t)
  (C2:∀l,Below w.heap.size w l→Calls Tryz.prog 193 #[.int .u64 b] l fun r t=>ow t r 0 z2 D∧Below l.heap.size l t)
  (C3:∀l v u,Below w.heap.size w l→bc l v z1 z→bc l u z2 D→Calls Tryz.prog 252 #[v,u] l fun r t=>ow t r 0 N F∧Below l.heap.size l t)
  (C4:∀l v,Below w.heap.size w l→bc l v N F→Calls Tryz.prog 195 #[v] l fun r t=>r=.returned (.tuple #[.int .u64 (o:Nat),.int .u8 fl,.int .i64 0])∧Below l.heap.size l t):
  Calls Tryz.prog 240 #[.int .u64 a,.int .u64 b] w fun r l=>r=.returned (.tuple #[.int .u64 (o:Nat),.int .u8 fl])∧Below w.heap.size w l:=by
 have K1:=ac C1;have K2:=ac C2;have K3:=ac C3;have K4:=ac C4
 clear C1 C2 C3 C4
 go_enter Tryz.func240,Tryz.ntmps240
 go_wp2_with fail
 refine(uH K1 _ (Below.refl _ _)).mono ?_
 rintro e I ⟨⟨v,rfl,J⟩,h⟩
 obtain⟨Z,a1,c1,L1,rfl,i1⟩:=J
 have d:Below I.heap.size I (I.alloc (.cells #[.bool Z,.slice a1 L1.length c1,.int .i64 z] 57)):=(Below.refl _ _).alloc (Nat.le_refl _) _
 have HV:=ac ((show bc I (.agg #[.bool Z,.slice a1 L1.length c1,.int .i64 z]) z1 z from⟨Z,a1,c1,L1,rfl,i1⟩).below d)
 have X:=ac (a8.new I (.bool Z) (.slice a1 L1.length c1) (.int .i64 z))
 have O:=ac (h.trans (d.mono h.size))
 clear i1 h d K1
 go_wp2_with fail
 refine(uH K2 _ (uH O)).mono ?_
 rintro e L ⟨⟨v,rfl,J⟩,h⟩
 obtain⟨n2,a2,c2,L2,rfl,i2⟩:=J
 have d:Below L.heap.size L (L.alloc (.cells #[.bool n2,.slice a2 L2.length c2,.int .i64 D] 57)):=(Below.refl _ _).alloc (Nat.le_refl _) _
 have HU:=ac ((show bc L (.agg #[.bool n2,.slice a2 L2.length c2,.int .i64 D]) z2 D from⟨n2,a2,c2,L2,rfl,i2⟩).below d)
 have G:=ac (((uH HV).below h).below d)
 have Q:=((uH X).all h).all d
 have T:=a8.new L (.bool n2) (.slice a2 L2.length c2) (.int .i64 D)
 have U:=ac ((uH O).trans ((h.trans (d.mono h.size)).mono (uH O).size))
 have y0:=Q.c0;have y1:=Q.c1;have y2:=Q.c2;have u0:=T.c0;have u1:=T.c1;have u2:=T.c2
 clear i2 h d K2 O HV X Q T
 go_wp2_with fail
 refine(uH K3 _ _ _ (uH U) (uH G) (uH HU)).mono ?_
 rintro e M ⟨⟨v,rfl,J⟩,h⟩
 clear y0 y1 y2 u0 u1 u2
 obtain⟨n3,a3,c3,H,rfl,i3⟩:=J
 have d:Below M.heap.size M (M.alloc (.cells #[.bool n3,.slice a3 H.length c3,.int .i64 F] 57)):=(Below.refl _ _).alloc (Nat.le_refl _) _
 have HX:=ac ((show bc M (.agg #[.bool n3,.slice a3 H.length c3,.int .i64 F]) N F from⟨n3,a3,c3,H,rfl,i3⟩).below d)
 have hl:=Ef (uH HX)
 rw[decide_eq_false h0]at hl
 have V:=ac ((uH U).trans ((h.trans (d.mono h.size)).mono (uH U).size))
 have Y:=a8.new M (.bool n3) (.slice a3 H.length c3) (.int .i64 F)
 have y0:=Y.c0;have y1:=Y.c1;have y2:=Y.c2
 clear i3 h d K3 U G HU Y
 generalize H.length=l3 at*
 go_wp2_with fail
 refine(uH K4 _ _ (uH V) (uH HX)).mono ?_
 rintro e w4 ⟨rfl,h⟩
 have B4:=ac ((uH V).trans (h.mono (uH V).size))
 clear h K4 V
 go_wp2
 exact bodyPost_ret (v:=.tuple #[.int .u64 o,.int .u8 fl]) (by simp[results,Tryz.results240,go_sem]) rfl ⟨rfl,uH B4⟩
theorem qT(a b:Nat)(w:World)(F:a<18446744073709551616)(G:b<18446744073709551616)(t:ah a=true)(z:ah b=true)(D:c8 w):
  Calls Tryz.prog 240 #[.int .u64 a,.int .u64 b] w fun r d=>r=.returned (.tuple #[.int .u64 (aV a b:Nat),.int .u8 (aF a b)])∧Below w.heap.size w d:=by
 obtain⟨O,Q⟩:fK a≠3∧fK a≠4:=by
  rcases iS a with⟨h,_⟩|⟨_,h⟩
  ·rw[t]at h;cases h
  ·omega
 obtain⟨T,U⟩:fK b≠3∧fK b≠4:=by
  rcases iS b with⟨h,_⟩|⟨_,h⟩
  ·rw[z]at h;cases h
  ·omega
 obtain⟨Y,Z⟩:=fJ a F t
 obtain⟨d3,d4⟩:=fJ b G z
 have I:=J7 a b t z
 have L:∀d,Below w.heap.size w d→_:=fun d h=>ef a d F t (D.all h)
 have M:∀d,Below w.heap.size w d→_:=fun d h=>ef b d G z (D.all h)
 have J:∀d v u,Below w.heap.size w d→bc d v (fD a) (fX a)→bc d u (fD b) (fX b)→_:=fun d v u h H V=>
  Nz (W:=2099) (lo:=-1074) (z1:=fZ a) (z2:=fZ b) (by rw[Y,Z];exact H) (by rw[d3,d4];exact V) (sR a t) (sR b z) I (D.all h)
 rw[(zg a b O Q T U).1,(zg a b O Q T U).2]
 by_cases l:aZ a b=0
 ·rw[if_pos l,if_pos l]
  have X:fZ a+fZ b=0:=l
  rw[X,de]at J
  exact vE a b _ _ _ _ _ w _ L M J (fun d=>xN a b d F G)
 ·rw[if_neg l,if_neg l]
  have N:∀d v,Below w.heap.size w d→bc d v (oM (aZ a b)) (oE (aZ a b) (-1074))→_:=fun d v h H=>jQ H I.right.2 I.right.1 (D.all h)
  rw[(jr (aZ a b) (-1074)).1,km]at N
  exact vF a b _ _ _ _ _ _ _ w _ (iB _ l).1 L M J N
end Go.Proofs.YtmpkkhackbpflaaGreatDoor
