/- Part 18 of the texts. -/
import Derived.Test.YtcbcmlaogehimaaGreatDoorPartu17
namespace Go.Proofs.YtcbcmlaogehimaaGreatDoor
open Go.RowKit
def ky(K:Int)(xs:H3):Prop:=(∀x∈xs,x<18446744073709551616/\ah x=true)/\(bT 0 xs=0\/(-K<=eX (bT 0 xs)/\eX (bT 0 xs)<K))
theorem ii(K:Int)(l:H3)(h:ky K l)(H:bT 0 l≠0):
  bT 0 l<9218868437227405312/\ah (bT 0 l)=true/\fK (bT 0 l)≠0/\fS (bT 0 l)=false/\-K<=eX (bT 0 l)/\eX (bT 0 l)<K/\
  (∀x∈l,ab (fQ x)<=fQ (bT 0 l))/\(∀x∈l,ab (dQ (eX (bT 0 l)) x)<=2)/\(∃x∈l,ab (fQ x)=fQ (bT 0 l)/\1<=dQ (eX (bT 0 l)) x*dQ (eX (bT 0 l)) x):=by
 obtain⟨g1,g2,g3,D⟩:=nO l 0 (by decide) (fun x F=>(h.1 x F).2);have h2:=h.2;generalize hM:bT 0 l=M at*;obtain⟨a1,a2,I⟩:=kQ M (by omega);have fM:ah M=true:=(cY M).2.2.2 (by rw[a2];exact g1);have N:fK M≠0:=fun e=>H (by have:=(dY M).1 e;omega)
 have q0:=iM M I;have O:fQ M=(rv M:Rat)*p2 (-1074):=by rw[dD,I,a2];rfl
 obtain⟨t1,J⟩:=iN M (by omega) fM N;rw[aQ q0]at t1 J;have t:∀x∈l,ab (fQ x)<=fQ M:=fun x F=>by
  rw[jp,O];have h1:(rv (fR x):Rat)<=(rv M:Rat):=Rat.natCast_le_natCast.2 (j0 (g3 x F));have:=Rat.mul_le_mul_of_nonneg_left h1 (Rat.le_of_lt (av (-1074)))
  grind
 obtain⟨y,hy,L⟩:∃x∈l,fR x=M:=by
  rcases D with D|D
  ·exact absurd D H
  ·exact D
 clear D;have Q:ab (fQ y)=fQ M:=by rw[jp,O,L]
 have G:=av (-eX M);have aa:p2 (-eX M)*p2 (eX M)=1:=rk _;rw[bu]at J;have u1:=Rat.mul_le_mul_of_nonneg_left t1 (Rat.le_of_lt G);have u2:=Rat.mul_lt_mul_of_pos_left J G;have U:∀x,ab (dQ (eX M) x)=ab (fQ x)*p2 (-eX M):=fun x=>by
  unfold dQ;rw[aM,aQ (Rat.le_of_lt G)]
 have Z:=h2.resolve_left H;refine⟨g1,fM,N,I,Z.1,Z.2,t,?_,y,hy,Q,?_⟩
 ·intro x F
  rw[U];have:=Rat.mul_le_mul_of_nonneg_left (t x F) (Rat.le_of_lt G)
  grind
 ·have e1:1<=ab (dQ (eX M) y):=by rw[U,Q];grind
  have e2:dQ (eX M) y*dQ (eX M) y=ab (dQ (eX M) y)*ab (dQ (eX M) y):=by
   rw[<-aM];exact(aQ (ak _)).symm
  rw[e2];have:=Rat.mul_nonneg (show 0<=ab (dQ (eX M) y)-1 by grind) (show 0<=ab (dQ (eX M) y)-1 by grind)
  grind
theorem De(K:Int)(hK:K<=900)(t:H3)(hl:t.length<=64)(h:ky K t)(J:bT 0 t≠0):
  let k:=eX (bT 0 t);let s:=tU k 0 t
  bM t=xV (sV s) k/\ah s=true/\fS s=false/\fK s≠0/\1<=gX k t/\9007199254740992*ab (fQ s-gX k t)<=130*gX k t/\
  ah (sV s)=true/\sV s<18446744073709551616/\fS (sV s)=false/\1<=2*fQ (sV s)/\fQ (sV s)<=17/\ah (bM t)=true/\fS (bM t)=false/\fQ (bM t)=fQ (sV s)*p2 k:=by
 intro k s;obtain⟨b1,b2,b3,b4,b5,b6,b7,Q,y,hy,b9,ap⟩:=ii K t h J;have F:bM t=xV (sV s) k:=by
  unfold bM;rw[if_neg (by rw[b2];simp[J])]
 have L:1<=gX k t:=by have:=uL k t y hy;grind
 have aa:(t.length:Rat)<=64:=Rat.natCast_le_natCast.2 hl;have T2:gX k t<=256:=by have:=zl k t Q;grind
 have ae:=Rat.mul_nonneg (show 0<=64-(t.length:Rat) by grind) (show 0<=gX k t by grind);have z0:fQ 0=0:=bf 0 (by decide);obtain⟨U,Z,e3⟩:=zk k (gX k t) L T2 t 0 0 0 (fun x G=>⟨(h.1 x G).1,(h.1 x G).2,Q x G⟩) (by decide) (by decide) (by grind) (by grind) (by rw[z0];unfold ab;grind);have e4:9007199254740992*ab (fQ s-gX k t)<=130*gX k t:=by
  have:(0:Rat)+gX k t=gX k t:=Rat.zero_add _;rw[this]at e3
  grind
 have l:=aw (fQ s-gX k t);have s1:1<=2*fQ s:=by grind
 have M:fK s≠0:=fun e=>by
  have:=bf s e
  grind
 obtain⟨I,r2,r3,r4,r5,r6,r7⟩:=kP s U M Z;have N:1<=2*fQ (sV s):=by
  rcases Rat.le_total (a:=1) (b:=2*fQ (sV s))with g|g
  ·exact g
  ·have:=Rat.mul_nonneg (show 0<=1-2*fQ (sV s) by grind) (show 0<=1+2*fQ (sV s) by grind)
   grind
 have O:fQ (sV s)<=17:=by
  rcases Rat.le_total (a:=fQ (sV s)) (b:=17)with g|g
  ·exact g
  ·have:=Rat.mul_nonneg (show 0<=fQ (sV s)-17 by grind) (show 0<=fQ (sV s)+17 by grind)
   grind
 have D:=av k;have x1:ab (fQ (sV s))*p2 k<p2 1023:=by
  rw[aQ r5];have m1:=Rat.mul_le_mul_of_nonneg_left O (Rat.le_of_lt D);have H:=aq (show k+1+1+1+1+1<=1023 by omega);simp only[bu]at H
  grind
 have x2:p2 (-1022)<=ab (fQ (sV s))*p2 k:=by
  rw[aQ r5];have m1:=Rat.mul_le_mul_of_nonneg_left N (Rat.le_of_lt D);have H:=aq (show-1022+1<=k by omega);rw[bu]at H
  grind
 obtain⟨y1,y2⟩:=pn (sV s) k r3 I x1 x2;refine⟨F,U,Z,M,L,e4,I,r3,r2,N,O,by rw[F];exact y1,?_,by rw[F];exact y2⟩;have q0:fK (sV s)≠0:=fun e=>by
  have:=bf (sV s) e
  grind
 rw[F,ru _ _ I q0];have am:=ej (fD (sV s)).natAbs (fX (sV s)+k);rw[kg _ _ (by omega)];exact r2
theorem mR(K:Int)(J:K<=900)(t:H3)(L:t.length<=64)(h:ky K t)(M:bT 0 t≠0):
  ah (bM t)=true/\fS (bM t)=false/\0<fQ (bM t)/\9007199254740992*ab (fQ (bM t)*fQ (bM t)-aL t)<=135*aL t:=by
 obtain⟨n1,U,Z,n4,n5,n6,n7,n8,n9,aa,ae,H,I,F⟩:=De K J t L h M;have G:=av (eX (bT 0 t));refine⟨H,I,?_,?_⟩
 ·rw[F]
  exact Rat.mul_pos (by grind) G
 obtain⟨r1,r2,r3,r4,r5,r6,r7⟩:=kP _ U n4 Z;rw[F,<-JR (eX (bT 0 t)) t];generalize fQ (sV (tU (eX (bT 0 t)) 0 t))=R at*;generalize fQ (tU (eX (bT 0 t)) 0 t)=S at*;generalize gX (eX (bT 0 t)) t=T at*;have D:=Rat.mul_pos G G;have N:R*p2 (eX (bT 0 t))*(R*p2 (eX (bT 0 t)))-T*(p2 (eX (bT 0 t))*p2 (eX (bT 0 t)))=(R*R-T)*(p2 (eX (bT 0 t))*p2 (eX (bT 0 t))):=by grind
 rw[N,aM,aQ (Rat.le_of_lt D)];generalize p2 (eX (bT 0 t))*p2 (eX (bT 0 t))=Q at*;have l:=aw (S-T);have O:9007199254740992*ab (R*R-T)<=135*T:=by
  generalize R*R=RR at*;unfold ab
  grind
 have:=Rat.mul_le_mul_of_nonneg_left O (Rat.le_of_lt D)
 grind
theorem nQ(t:H3)(H:t.length<=64)(h:ky 200 t)(I:bT 0 t≠0):
  0<fQ (bM t)/\ah (bM t)=true/\fS (bM t)=false/\9007199254740992*ab (fQ (bM t)*fQ (bM t)-aL t)<=135*aL t/\fQ (bM t)<=p2 204/\p2 (-201)<=fQ (bM t)/\(∀x∈t,1000000*ab (fQ x)<=1000001*fQ (bM t)):=by
 obtain⟨n1,n2,J,n4⟩:=mR 200 (by decide) t H h I;obtain⟨b1,b2,b3,b4,b5,b6,b7,b8,y,hy,b9,am⟩:=ii 200 t h I;have L:(t.length:Rat)<=64:=Rat.natCast_le_natCast.2 H;have P0:=av 200;have M:=iN _ (by omega) b2 b3;rw[aQ (iM _ b4)]at M;have N:=aq (show eX (bT 0 t)+1<=200 by omega);have O:=aq (show-200<=eX (bT 0 t) by omega);have hS:aL t<=64*(p2 200*p2 200):=by
  have h1:=qg (p2 200) t (fun x G=>by have:=b7 x G;grind);have:=Rat.mul_nonneg (show 0<=64-(t.length:Rat) by grind) (ak (p2 200))
  grind
 have Q:=qf t y hy;have U:p2 (-200)<=ab (fQ y):=by rw[b9];grind
 have Q0:=av (-200);have Z:=ak (fQ y);have ey:ab (fQ y)*ab (fQ y)=fQ y*fQ y:=by rw[<-aM];exact aQ Z
 have hL:p2 (-200)*p2 (-200)<=aL t:=by
  have m:=Rat.mul_nonneg (show 0<=ab (fQ y)-p2 (-200) by grind) (show 0<=ab (fQ y)+p2 (-200) by grind)
  grind
 have l:=aw (fQ (bM t)*fQ (bM t)-aL t);have D:p2 204=16*p2 200:=by rw[show(204:Int)=200+1+1+1+1 by rfl];simp only[bu];grind
 have F:p2 (-200)=2*p2 (-201):=by rw[show(-200:Int)= -201+1 by rfl,bu]
 have s0:=bW t;refine⟨J,n1,n2,n4,?_,?_,fun x G=>?_⟩
 ·refine dr (Rat.le_of_lt (av _)) ?_
  rw[D];generalize fQ (bM t)*fQ (bM t)=K at*;have:16*p2 200*(16*p2 200)=256*(p2 200*p2 200):=by grind
  rw[this];generalize p2 200*p2 200=PP at*
  grind
 ·refine dr (Rat.le_of_lt J) ?_
  have:p2 (-200)*p2 (-200)=4*(p2 (-201)*p2 (-201)):=by rw[F];grind
  rw[this]at hL;have aa:=Rat.mul_pos (av (-201)) (av (-201));generalize fQ (bM t)*fQ (bM t)=K at*;generalize p2 (-201)*p2 (-201)=PP at*
  grind
 ·have ae:=qf t x G
  have qx:=ak (fQ x);have ex:ab (fQ x)*ab (fQ x)=fQ x*fQ x:=by rw[<-aM];exact aQ qx
  refine dr (by grind) ?_;rw[show 1000000*ab (fQ x)*(1000000*ab (fQ x))=1000000000000*(ab (fQ x)*ab (fQ x)) by grind,ex,show 1000001*fQ (bM t)*(1000001*fQ (bM t))=1000002000001*(fQ (bM t)*fQ (bM t)) by grind];generalize fQ (bM t)*fQ (bM t)=K at*;generalize fQ x*fQ x=XX at*
  grind
def iA(d κ:Rat):H3->H3->Prop
 |v::vs,x::xs=>9007199254740992*ab (fQ v*d-fQ x)<=2*ab (fQ x)+κ/\iA d κ vs xs
 | [],[]=>True
 |_,_=>False
theorem wK(d κ E:Rat)(D:0<=κ):∀(t l:H3),iA d κ t l->(∀x∈l,4*(ab (fQ x)*κ)+4*(κ*κ)<=E)->9007199254740992*ab (aL t*(d*d)-aL l)<=5*aL l+(l.length:Rat)*E/\9007199254740992*ab (cG t l*d-aL l)<=2*aL l+(l.length:Rat)*E:=by
 intro t
 induction t with
 |nil=>
  intro l h _
  cases l with
  |nil=>
   have G:aL []=0:=rfl;have H:cG [] []=0:=rfl;have I:(([]:H3).length:Rat)=0:=rfl;rw[G,H,I,Rat.zero_mul,Rat.zero_mul];unfold ab
   grind
  |cons x l=>exact absurd h (by unfold iA;exact id)
 |cons v t ih=>
  intro l h N
  cases l with
  |nil=>exact absurd h (by unfold iA;exact id)
  |cons x l=>
   unfold iA at h;obtain⟨F,h2⟩:=h;obtain⟨i1,i2⟩:=ih l h2 (fun y hy=>N y (List.mem_cons_of_mem _ hy));have aa:=N x List.mem_cons_self;have G:aL (v::t)=fQ v*fQ v+aL t:=rfl;have H:aL (x::l)=fQ x*fQ x+aL l:=rfl;have I:cG (v::t) (x::l)=fQ v*fQ x+cG t l:=rfl;have O:((x::l).length:Rat)*E=(l.length:Rat)*E+E:=by
    rw[List.length_cons,Rat.natCast_add];have:((1:Nat):Rat)=1:=rfl;rw[this]
    grind
   rw[G,H,I,O];obtain⟨z,M⟩:∃z,fQ v*d=fQ x+z:=⟨fQ v*d-fQ x,by grind⟩;have k:fQ v*d-fQ x=z:=by grind
   rw[k]at F;have Q:=bK (fQ x);have z0:=bK z;have qx:=ak (fQ x);have qz:=ak z;have ex:ab (fQ x)*ab (fQ x)=fQ x*fQ x:=by rw[<-aM];exact aQ qx
   have ez:ab z*ab z=z*z:=by rw[<-aM];exact aQ qz
   have xκ:=Rat.mul_nonneg Q D;have U:=Rat.mul_nonneg D D;have p1:=Rat.mul_le_mul_of_nonneg_left F Q;have J:=Rat.mul_le_mul_of_nonneg_left F z0;have p3:=Rat.mul_le_mul_of_nonneg_left F D;have K:ab (fQ x*z)=ab (fQ x)*ab z:=aM _ _;have v1:9007199254740992*ab (fQ x*z)<=2*(fQ x*fQ x)+ab (fQ x)*κ:=by grind
   have v2:9007199254740992*(z*z)<=2*ab (fQ x*z)+κ*ab z:=by grind
   have v3:9007199254740992*(κ*ab z)<=2*(ab (fQ x)*κ)+κ*κ:=by grind
   have l1:=aw (fQ x*z);have w1:(fQ v*fQ v+aL t)*(d*d)-(fQ x*fQ x+aL l)=2*(fQ x*z)+z*z+(aL t*(d*d)-aL l):=by
    have:fQ v*fQ v*(d*d)=(fQ x+z)*(fQ x+z):=by rw[<-M];grind
    grind
   have w2:(fQ v*fQ x+cG t l)*d-(fQ x*fQ x+aL l)=fQ x*z+(cG t l*d-aL l):=by
    have:fQ v*fQ x*d=(fQ x+z)*fQ x:=by rw[<-M];grind
    grind
   rw[w1,w2];have l2:=aw (aL t*(d*d)-aL l);have l3:=aw (cG t l*d-aL l);clear w1 w2 p1 J p3 ex ez K M k F h2 O N;generalize aL t*(d*d)-aL l=A at*;generalize cG t l*d-aL l=B at*;generalize fQ x*z=C at*;generalize z*z=Z at*;generalize fQ x*fQ x=X at*;generalize ab (fQ x)*κ=XK at*;generalize κ*ab z=KZ at*;generalize κ*κ=KK at*;generalize (l.length:Rat)*E=L at*
   constructor
   ·refine Rat.le_trans (Rat.mul_le_mul_of_nonneg_left (bP (y:=2*ab C+Z+ab A) (by grind) (by grind)) (by decide)) ?_
    grind
   ·refine Rat.le_trans (Rat.mul_le_mul_of_nonneg_left (bP (y:=ab C+ab B) (by grind) (by grind)) (by decide)) ?_
    grind
theorem wL(r ε ρ τ V:Rat)(M:-1<=r)(O:100*r<=-49)(Q:9007199254740992*ab ε<=1)(G:9007199254740992*ab (ρ+1+2*r)<=137)
  (H:9007199254740992*ab (τ*r+1)<=4) (U:9007199254740992*ab (V*((1+ε)*(1+ε))-ρ)<=5*ρ+3):8796093022208*ab (τ*(1+V)-2)<=1:=by
 obtain⟨θ,h⟩:∃θ,τ*r+1=θ:=⟨_,rfl⟩;obtain⟨φ,t⟩:∃φ,V*((1+ε)*(1+ε))-ρ=φ:=⟨_,rfl⟩;obtain⟨ψ,D⟩:∃ψ,ρ+1+2*r=ψ:=⟨_,rfl⟩;obtain⟨E,L⟩:∃E,2*ε+ε*ε=E:=⟨_,rfl⟩;obtain⟨N,I⟩:∃N,τ*(1+V)-2=N:=⟨_,rfl⟩;rw[h]at H;rw[t]at U;rw[D]at G;rw[I];have lε:=aw ε;have lψ:=aw ψ;have lθ:=aw θ;have lφ:=aw φ;have e1:9007199254740992*ab E<=3:=by
  have h1:=jQ (x:=ε) (y:=ε) (by grind);have l:=aw (ε*ε);refine Rat.le_trans (Rat.mul_le_mul_of_nonneg_left (bP (y:=2*ab ε+ab (ε*ε)) (by grind) (by grind)) (by decide)) ?_
  grind
 have lE:=aw E;have J:ab r<=1:=bP (by grind) (by grind);have b1:=jQ (y:=θ) J;have b2:=jQ (y:=E) J;have b3:=jQ (x:=θ) (y:=ψ+E+φ) (by grind);have b4:ab (ψ+E+φ)<=ab ψ+ab E+ab φ:=bP (by grind) (by grind);have c1:=aw (r*θ);have c2:=aw (r*E);have c3:=aw (θ*(ψ+E+φ));have F:N*(r*(1+E))= -(2*(r*θ))+θ*(ψ+E+φ)-ψ-E-φ-2*(r*E):=by
  rw[<-I,<-h,<-t,<-D,<-L]
  grind
 have k2:9007199254740992*ab (N*(r*(1+E)))<=322:=by
  rw[F];refine Rat.le_trans (Rat.mul_le_mul_of_nonneg_left (bP (y:=2*ab (r*θ)+ab (θ*(ψ+E+φ))+ab ψ+ab E+ab φ+2*ab (r*E)) (by grind) (by grind)) (by decide)) ?_
  grind
 rw[aM]at k2;have K:48<=100*ab (r*(1+E)):=by
  have l:=aw (r*(1+E));have e2:r*(1+E)=r+r*E:=by grind
  rw[e2]at l⊢
  grind
 have N0:=bK N;have m:=Rat.mul_le_mul_of_nonneg_left K N0;have m2:48*ab N<=100*(ab N*ab (r*(1+E))):=by
  rw[show 48*ab N=ab N*48 by grind,show 100*(ab N*ab (r*(1+E)))=ab N*(100*ab (r*(1+E))) by grind];exact m
 clear m K F c1 c2 c3 b1 b2 b3 b4 I L D t h;generalize ab N*ab (r*(1+E))=Z at*
 grind
theorem nR(a b R d t V:Rat)(hR:0<=R)(K:(0<b/\a<=0)\/(b<0/\0<=a))(h1:9007199254740992*ab (b*b-(a*a+R))<=135*(a*a+R))
  (h2:9007199254740992*ab (d-(a-b))<=ab (a-b)) (h3:9007199254740992*ab (t*b+(a-b))<=4*ab (a-b)) (h4:4503599627370496*ab a<=4503599627370496*ab b+70*ab b) (h5:9007199254740992*ab (V*(d*d)-R)<=5*R+(a*a+R)):
  8796093022208*ab (t*(1+V)-2)<=1/\9007199254740992*t<=18014398509481984+200/\9007199254740992<=9007199254740992*t+5:=by
 obtain⟨D,Q⟩:∃D,a-b=D:=⟨_,rfl⟩;have D0:D≠0:=by intro e;grind
 obtain⟨I,H⟩:∃I,D*I=1:=⟨D⁻¹,Rat.mul_inv_cancel D D0⟩;rw[Q]at h2 h3;have U:ab D*ab I=1:=by rw[<-aM,H];exact aQ (by decide)
 have Z:=bK I;have G:=ak I;have ax:ab I*ab I=I*I:=by rw[<-aM];exact aQ G
 --r and α
 obtain⟨r,J⟩:∃r,b*I=r:=⟨_,rfl⟩;obtain⟨α,h⟩:∃α,a*I=α:=⟨_,rfl⟩;have aI:α-r=1:=by rw[<-h,<-J,<-H,<-Q];grind
 have qa:=ak a;have qb:=ak b;have L:0<=α:=by
  have e:α=a*D*(I*I):=by
   rw[<-h];have:I=D*I*I:=by rw[H,Rat.one_mul]
   grind
  rw[e];refine Rat.mul_nonneg ?_ G;rw[<-Q];rcases K with⟨N,O⟩|⟨N,O⟩
  ·have:=Rat.mul_nonneg (show 0<=-a by grind) (Rat.le_of_lt N)
   grind
  ·have:=Rat.mul_nonneg O (show 0<=-b by grind)
   grind
 have a0:r<=0:=by
  have e:-r= -(b*D)*(I*I):=by
   rw[<-J];have:I=D*I*I:=by rw[H,Rat.one_mul]
   grind
  have:0<=-r:=by
   rw[e];refine Rat.mul_nonneg ?_ G;rw[<-Q];rcases K with⟨N,O⟩|⟨N,O⟩
   ·have:=Rat.mul_nonneg (show 0<=-a by grind) (Rat.le_of_lt N)
    grind
   ·have:=Rat.mul_nonneg O (show 0<=-b by grind)
    grind
  grind
 have ea:ab a*ab I=α:=by rw[<-aM,h];exact aQ L
 have eb:ab b*ab I= -r:=by rw[<-aM,J];unfold ab;grind
 have ap:4503599627370496*α<=4503599627370496* -r+70* -r:=by
  have:=Rat.mul_le_mul_of_nonneg_left h4 Z;rw[<-ea,<-eb]
  grind
 have aa:-1<=r:=by grind
 have ae:100*r<=-49:=by grind
 --ε
 obtain⟨ε,M⟩:∃ε,(d-D)*I=ε:=⟨_,rfl⟩;have am:d*I=1+ε:=by rw[<-M,<-H];grind
 have bε:9007199254740992*ab ε<=1:=by
  rw[<-M,aM,<-U];have:=Rat.mul_le_mul_of_nonneg_left h2 Z
  grind
 --ρ
 obtain⟨ρ,F⟩:∃ρ,R*(I*I)=ρ:=⟨_,rfl⟩;have bρ:9007199254740992*ab (ρ+1+2*r)<=137:=by
  have e:ρ+1+2*r= -((b*b-(a*a+R))*(I*I)):=by
   have e1:b*b*(I*I)=r*r:=by rw[<-J];grind
   have e2:a*a*(I*I)=α*α:=by rw[<-h];grind
   have e3:-((b*b-(a*a+R))*(I*I))=a*a*(I*I)+R*(I*I)-b*b*(I*I):=by grind
   rw[e3,e1,e2,F,show α=1+r by grind]
   grind
  rw[e,ki,aM,aQ (x:=I*I) G];have l:=aw (b*b-(a*a+R));have h6:9007199254740992*ab (b*b-(a*a+R))<=136*(b*b):=by
   generalize ab (b*b-(a*a+R))=z at*
   grind
  have m:=Rat.mul_le_mul_of_nonneg_left h6 G;have e1:I*I*(136*(b*b))=136*(r*r):=by rw[<-J];grind
  rw[e1]at m;have rr:=Rat.mul_nonneg (show 0<=1+r by grind) (show 0<=1-r by grind);have a1:=ak r
  grind
 have bτ:9007199254740992*ab (t*r+1)<=4:=by
  have e:t*r+1=(t*b+D)*I:=by rw[<-J,<-H];grind
  rw[e,aM];have m:=Rat.mul_le_mul_of_nonneg_left h3 Z
  grind
 have bV:9007199254740992*ab (V*((1+ε)*(1+ε))-ρ)<=5*ρ+3:=by
  have e:V*((1+ε)*(1+ε))-ρ=(V*(d*d)-R)*(I*I):=by rw[<-am,<-F];grind
  rw[e,aM,aQ (x:=I*I) G,<-F];have m:=Rat.mul_le_mul_of_nonneg_left h5 G;have e2:a*a*(I*I)=α*α:=by rw[<-h];grind
  have lρ:=aw (ρ+1+2*r);have α1:=Rat.mul_nonneg (show 0<=1-α by grind) (show 0<=1+α by grind);have e3:I*I*(5*R+(a*a+R))=6*(R*(I*I))+α*α:=by rw[<-e2];grind
  rw[e3,F]at m;rw[F]
  grind
 refine⟨wL r ε ρ t V aa ae bε bρ bτ bV,?_,?_⟩
 ·have l:=aw (t*r+1)
  --t (-r)<=1+4u,-r>=1/(2+70/2^52)
  rcases Rat.le_total (a:=9007199254740992*t) (b:=18014398509481984+200)with g|g
  ·exact g
  ·exfalso
   have m:=Rat.mul_nonneg (show 0<=9007199254740992*t-(18014398509481984+200) by grind) (show 0<=-r by grind);have e:(9007199254740992*t-(18014398509481984+200))* -r= -(9007199254740992*(t*r))+(18014398509481984+200)*r:=by grind
   rw[e]at m;generalize t*r=z at*
   grind
 ·have l:=aw (t*r+1)
  rcases Rat.le_total (a:=9007199254740992) (b:=9007199254740992*t+5)with g|g
  ·exact g
  ·exfalso
   have m:=Rat.mul_nonneg (show 0<=9007199254740992-(9007199254740992*t+5) by grind) (show 0<=-r by grind);have e:(9007199254740992-(9007199254740992*t+5))* -r=9007199254740992*(t*r)-9007199254740992*r+5*r:=by grind
   rw[e]at m;generalize t*r=z at*
   grind
theorem pp(a b R d t G:Rat)(hR:0<=R)(M:(0<b/\a<=0)\/(b<0/\0<=a))(h1:9007199254740992*ab (b*b-(a*a+R))<=135*(a*a+R))
  (h2:9007199254740992*ab (d-(a-b))<=ab (a-b)) (h3:9007199254740992*ab (t*b+(a-b))<=4*ab (a-b)) (h4:4503599627370496*ab a<=4503599627370496*ab b+70*ab b) (h5:9007199254740992*ab (G*d-R)<=2*R+(a*a+R)) (ht:1000*ab t<=2001):
  9007199254740992*ab (t*(a+G)-(a-b))<=300*ab (a-b):=by
 obtain⟨D,Z⟩:∃D,a-b=D:=⟨_,rfl⟩;have D0:D≠0:=by intro e;grind
 obtain⟨I,J⟩:∃I,D*I=1:=⟨D⁻¹,Rat.mul_inv_cancel D D0⟩;rw[Z]at h2 h3;have aa:ab D*ab I=1:=by rw[<-aM,J];exact aQ (by decide)
 have I0:=bK I;have H:=ak I;have ax:ab I*ab I=I*I:=by rw[<-aM];exact aQ H
 --r and α
 obtain⟨r,L⟩:∃r,b*I=r:=⟨_,rfl⟩;obtain⟨α,h⟩:∃α,a*I=α:=⟨_,rfl⟩;have aI:α-r=1:=by rw[<-h,<-L,<-J,<-Z];grind
 have qa:=ak a;have qb:=ak b;have N:0<=α:=by
  have e:α=a*D*(I*I):=by
   rw[<-h];have:I=D*I*I:=by rw[J,Rat.one_mul]
   grind
  rw[e];refine Rat.mul_nonneg ?_ H;rw[<-Z];rcases M with⟨g1,g2⟩|⟨g1,g2⟩
  ·have:=Rat.mul_nonneg (show 0<=-a by grind) (Rat.le_of_lt g1)
   grind
  ·have:=Rat.mul_nonneg g2 (show 0<=-b by grind)
   grind
 have a0:r<=0:=by
  have e:-r= -(b*D)*(I*I):=by
   rw[<-L];have:I=D*I*I:=by rw[J,Rat.one_mul]
   grind
  have:0<=-r:=by
   rw[e];refine Rat.mul_nonneg ?_ H;rw[<-Z];rcases M with⟨g1,g2⟩|⟨g1,g2⟩
   ·have:=Rat.mul_nonneg (show 0<=-a by grind) (Rat.le_of_lt g1)
    grind
   ·have:=Rat.mul_nonneg g2 (show 0<=-b by grind)
    grind
  grind
 have ea:ab a*ab I=α:=by rw[<-aM,h];exact aQ N
 have eb:ab b*ab I= -r:=by rw[<-aM,L];unfold ab;grind
 have ap:4503599627370496*α<=4503599627370496* -r+70* -r:=by
  have:=Rat.mul_le_mul_of_nonneg_left h4 I0;rw[<-ea,<-eb]
  grind
 have a1:-1<=r:=by grind
 have a2:100*r<=-49:=by grind
 --ε
 obtain⟨ε,hε⟩:∃ε,(d-D)*I=ε:=⟨_,rfl⟩;have ae:d*I=1+ε:=by rw[<-hε,<-J];grind
 have bε:9007199254740992*ab ε<=1:=by
  rw[<-hε,aM,<-aa];have:=Rat.mul_le_mul_of_nonneg_left h2 I0
  grind
 --ρ
 obtain⟨ρ,F⟩:∃ρ,R*(I*I)=ρ:=⟨_,rfl⟩;have bρ:9007199254740992*ab (ρ+1+2*r)<=137:=by
  have e:ρ+1+2*r= -((b*b-(a*a+R))*(I*I)):=by
   have O:b*b*(I*I)=r*r:=by rw[<-L];grind
   have Q:a*a*(I*I)=α*α:=by rw[<-h];grind
   have U:-((b*b-(a*a+R))*(I*I))=a*a*(I*I)+R*(I*I)-b*b*(I*I):=by grind
   rw[U,O,Q,F,show α=1+r by grind]
   grind
  rw[e,ki,aM,aQ (x:=I*I) H];have l:=aw (b*b-(a*a+R));have h6:9007199254740992*ab (b*b-(a*a+R))<=136*(b*b):=by
   generalize ab (b*b-(a*a+R))=z at*
   grind
  have m:=Rat.mul_le_mul_of_nonneg_left h6 H;have O:I*I*(136*(b*b))=136*(r*r):=by rw[<-L];grind
  rw[O]at m;have rr:=Rat.mul_nonneg (show 0<=1+r by grind) (show 0<=1-r by grind);have a3:=ak r
  grind
 have bτ:9007199254740992*ab (t*r+1)<=4:=by
  have e:t*r+1=(t*b+D)*I:=by rw[<-L,<-J];grind
  rw[e,aM];have m:=Rat.mul_le_mul_of_nonneg_left h3 I0
  grind
 obtain⟨g,hg⟩:∃g,G*I=g:=⟨_,rfl⟩;have bG:9007199254740992*ab (g*(1+ε)-ρ)<=2*ρ+3:=by
  have e:g*(1+ε)-ρ=(G*d-R)*(I*I):=by rw[<-ae,<-F,<-hg];grind
  rw[e,aM,aQ (x:=I*I) H,<-F];have m:=Rat.mul_le_mul_of_nonneg_left h5 H;have Q:a*a*(I*I)=α*α:=by rw[<-h];grind
  have lρ:=aw (ρ+1+2*r);have α1:=Rat.mul_nonneg (show 0<=1-α by grind) (show 0<=1+α by grind);have U:I*I*(2*R+(a*a+R))=3*(R*(I*I))+α*α:=by rw[<-Q];grind
  rw[U,F]at m;rw[F]
  grind
 have ρ0:0<=ρ:=by rw[<-F];exact Rat.mul_nonneg hR H
 have lρ:=aw (ρ+1+2*r);have ρ1:10*ρ<=11:=by grind
 --(α+g) (1+ε)= -r+small
 obtain⟨k,hk⟩:∃k,(α+g)*(1+ε)+r=k:=⟨_,rfl⟩;have bk:9007199254740992*ab k<=144:=by
  have aε:=jQ (x:=α) (y:=ε) (bP (by grind) (by grind));have l1:=aw (α*ε);have l2:=aw (g*(1+ε)-ρ);have e:k=(ρ+1+2*r)+α*ε+(g*(1+ε)-ρ):=by rw[<-hk,show α=1+r by grind];grind
  rw[e];refine Rat.le_trans (Rat.mul_le_mul_of_nonneg_left (bP (y:=ab (ρ+1+2*r)+ab (α*ε)+ab (g*(1+ε)-ρ)) (by grind) (by grind)) (by decide)) ?_;generalize ab (ρ+1+2*r)=z1 at*;generalize ab (g*(1+ε)-ρ)=z2 at*;generalize ab (α*ε)=z3 at*
  grind
 obtain⟨θ,K⟩:∃θ,t*r+1=θ:=⟨_,rfl⟩;rw[K]at bτ;have tk:9007199254740992*ab (t*k)<=289:=by
  rw[aM];have m:=Rat.mul_le_mul_of_nonneg_left ht (bK k);rw[show ab k*(1000*ab t)=1000*(ab t*ab k) by grind]at m;generalize ab t*ab k=z at*
  grind
 obtain⟨m,hm⟩:∃m,t*(α+g)-1=m:=⟨_,rfl⟩;have lε:=aw ε;have lθ:=aw θ;have am:=aw (t*k);have lm:=aw m;have O:m+(1+m)*ε=t*k-θ:=by rw[<-hm,<-hk,<-K];grind
 have mε:=aM (ε) m;have bm:9007199254740992*ab m<=296:=by
  have q:9007199254740992*ab (ε*m)<=ab m:=by
   rw[aM];have:=Rat.mul_le_mul_of_nonneg_left bε (bK m)
   grind
  have lq:=aw (ε*m);have Q:m=t*k-θ-ε-ε*m:=by grind
  have:=bP (x:=m) (y:=ab (t*k)+ab θ+ab ε+ab (ε*m)) (by grind) (by grind);generalize ab (ε*m)=z1 at*;generalize ab m=z2 at*;generalize ab (t*k)=z3 at*;generalize ab θ=z4 at*;generalize ab ε=z5 at*;clear Q O lm am lθ lε lq hm hk K mε
  grind
 --back:times D
 rw[Z];have U:t*(a+G)-D=m*D:=by
  rw[<-hm];have e4:(t*(α+g)-1)*D=t*((a*I)*D+(G*I)*D)-D:=by rw[<-h,<-hg];grind
  rw[e4,show a*I*D=a*(D*I) by grind,show G*I*D=G*(D*I) by grind,J]
  grind
 rw[U,aM];have mm:=Rat.mul_le_mul_of_nonneg_left bm (bK D);rw[show ab D*(9007199254740992*ab m)=9007199254740992*(ab m*ab D) by grind]at mm;have D1:=bK D;generalize ab m*ab D=z at*
 grind
theorem wM(d:Nat)(H:d<18446744073709551616)(G:ah d=true)(I:fK d≠0):∀(l:H3),(∀x∈l,x<18446744073709551616/\ah x=true/\ab (fQ x)<=1024*ab (fQ d))->
  iA (fQ d) (18014398509481984*(p2 (-1075)*ab (fQ d))) (l.map (fun x=>dV x d)) l/\∀v∈l.map (fun x=>dV x d),ah v=true:=by
 have K0:0<=p2 (-1075)*ab (fQ d):=Rat.mul_nonneg (Rat.le_of_lt (av _)) (bK _);intro l
 induction l with
 |nil=>intro _;exact⟨trivial,fun v D=>(by cases D)⟩
 |cons x l ih=>
  intro h;obtain⟨U,Z⟩:=ih (fun y N=>h y (List.mem_cons_of_mem _ N));obtain⟨L,M,h4⟩:=h x List.mem_cons_self;have t:ah (dV x d)=true/\9007199254740992*ab (fQ (dV x d)*fQ d-fQ x)<=2*ab (fQ x)+18014398509481984*(p2 (-1075)*ab (fQ d)):=by
   by_cases F:fK x=0
   ·obtain⟨c1,c2⟩:=cI G
    have e:dV x d=iJ (fS x^^fS d) 0:=by
     unfold dV;rw[if_neg (by omega),if_neg (by omega),if_neg (by omega),if_pos (.inr F)]
    have O:fK (iJ (fS x^^fS d) 0)=0:=(dY _).2 (iL _ _ (by decide));have Q:ah (iJ (fS x^^fS d) 0)=true:=(cY _).2.2.2 (by rw[iL _ _ (by decide)];decide);rw[e,bf _ O,bf x F,Rat.zero_mul];refine⟨Q,?_⟩;generalize p2 (-1075)*ab (fQ d)=K at*;unfold ab
    grind
   ·have J:=Bf x d L H M G F I h4
    refine⟨J,?_⟩;have a0:=bK (fQ x);have z0:=bK (fQ (dV x d)*fQ d-fQ x);rcases uM x d L H M G F I J with e|⟨_,e⟩
    ·generalize p2 (-1075)*ab (fQ d)=K at*
     grind
    ·generalize p2 (-1075)*ab (fQ d)=K at*
     grind
  refine⟨?_,?_⟩
  ·show iA (fQ d) _ (dV x d::l.map (fun x=>dV x d)) (x::l)
   unfold iA;exact⟨t.2,U⟩
  ·intro v D
   rcases List.mem_cons.1 D with rfl|D
   ·exact t.1
   ·exact Z v D
theorem wN(a b:Nat)(l:H3)(hl:(a::l).length<=64)(h:ky 200 (a::l))(h0:bT 0 (a::l)≠0)(G:b<18446744073709551616)(L:ah b=true)(b0:fK b≠0)
  (O:(fQ b=fQ (bM (a::l))/\fQ a<=0)\/(fQ b= -fQ (bM (a::l))/\0<=fQ a)):
  let d:=aV a (fN b);let t:=dV (aV b (fN a)) b;let Q:=l.map (fun x=>dV x d)
  ah d=true/\ah t=true/\(∀v∈Q,ah v=true)/\iA (fQ d) (18014398509481984*(p2 (-1075)*ab (fQ d))) Q l/\9007199254740992*ab (fQ d-(fQ a-fQ b))<=ab (fQ a-fQ b)/\
  ab (fQ a-fQ b)=ab (fQ a)+ab (fQ b)/\ab (fQ b)=fQ (bM (a::l))/\9007199254740992*ab (fQ t*fQ b+(fQ a-fQ b))<=4*ab (fQ a-fQ b)/\4503599627370496*ab (fQ a)<=4503599627370496*ab (fQ b)+70*ab (fQ b):=by
 intro d t Q;obtain⟨M,n2,n3,n4,n5,n6,n7⟩:=nQ (a::l) hl h h0;obtain⟨N,a2⟩:=h.1 a List.mem_cons_self;have D:ab (fQ b)=fQ (bM (a::l)):=by
  rcases O with⟨e,_⟩|⟨e,_⟩
  ·rw[e];exact aQ (Rat.le_of_lt M)
  ·rw[e,ki];exact aQ (Rat.le_of_lt M)
 have F:ab (fQ a-fQ b)=ab (fQ a)+ab (fQ b):=by
  rw[D];rcases O with⟨e,g⟩|⟨e,g⟩
  ·rw[e];unfold ab;grind
  ·rw[e];unfold ab;grind
 have H:ah (fN a)=true:=by rw[gu a N];exact a2
 have I:ah (fN b)=true:=by rw[gu b G];exact L
 have qa:=jR a N;have qb:=jR b G;have A0:=bK (fQ a);have hA:=n7 a List.mem_cons_self;have P4:=av 204;have a0:8*p2 204<=p2 1023/\4*p2 204<=p2 210:=by
  have h1:=aq (show(204+1+1+1:Int)<=1023 by decide);have h2:=aq (show(204+1+1:Int)<=210 by decide);simp only[bu]at h1 h2;exact⟨by grind,by grind⟩
 --the difference and the other one
 have U:ah d=true:=gy a (fN b) a2 I (by rw[qb,show fQ a+-fQ b=fQ a-fQ b by grind,F,D];grind);have ed:=gS a (fN b) a2 I U;rw[qb,show fQ a+-fQ b=fQ a-fQ b by grind]at ed;have fg:ah (aV b (fN a))=true:=gy b (fN a) L H (by rw[qa,show fQ b+-fQ a= -(fQ a-fQ b) by grind,ki,F,D];grind);have Z:=gS b (fN a) L H fg;rw[qa,show fQ b+-fQ a=fQ b-fQ a by grind]at Z;have kD:ab (fQ b-fQ a)=ab (fQ a-fQ b):=rp _ _;have ld:=aw (fQ d-(fQ a-fQ b));have lD:=aw (fQ a-fQ b);have aa:9007199254740992*ab (fQ d-(fQ a-fQ b))<=ab (fQ a-fQ b):=ed;have dd:=bP (x:=fQ d) (y:=ab (fQ d-(fQ a-fQ b))+ab (fQ a-fQ b)) (by grind) (by grind);have a3:=bP (x:=fQ a-fQ b) (y:=ab (fQ d-(fQ a-fQ b))+ab (fQ d)) (by have:=aw (fQ d);grind) (by have:=aw (fQ d);grind);have J:fQ (bM (a::l))<=2*ab (fQ d):=by rw[F,D]at*;grind
 have a4:ab (fQ d)<=p2 210:=by rw[F,D]at*;grind
 have k0:fK d≠0:=fun e=>by
  have:=bf d e;rw[this]at J;unfold ab at J
  grind
 have dl:d<18446744073709551616:=jc a (fN b) N (iY b G);obtain⟨q1,q2⟩:=wM d dl U k0 l (fun x hx=>by
  obtain⟨x1,x2⟩:=h.1 x (List.mem_cons_of_mem _ hx);have x4:=n7 x (List.mem_cons_of_mem _ hx);refine⟨x1,x2,by grind⟩)
 --tau
 have gl:aV b (fN a)<18446744073709551616:=jc b (fN a) G (iY a N);have lg:=aw (fQ (aV b (fN a))-(fQ b-fQ a));have lG:=aw (fQ b-fQ a);have gg:=bP (x:=fQ (aV b (fN a))) (y:=ab (fQ (aV b (fN a))-(fQ b-fQ a))+ab (fQ b-fQ a)) (by grind) (by grind);have ae:=bP (x:=fQ a-fQ b) (y:=ab (fQ (aV b (fN a))-(fQ b-fQ a))+ab (fQ (aV b (fN a)))) (by have:=aw (fQ (aV b (fN a)));grind) (by have:=aw (fQ (aV b (fN a)));grind);have am:=Z;rw[kD,F,D]at am;rw[kD,F,D]at gg;rw[F,D]at ae;have K:fQ (bM (a::l))<=2*ab (fQ (aV b (fN a))):=by
  generalize ab (fQ (aV b (fN a))-(fQ b-fQ a))=z at*
  grind
 have a5:ab (fQ (aV b (fN a)))<=4*fQ (bM (a::l)):=by
  generalize ab (fQ (aV b (fN a))-(fQ b-fQ a))=z at*
  grind
 have g0:fK (aV b (fN a))≠0:=fun e=>by
  have:=bf _ e;rw[this]at K;unfold ab at K
  grind
 have aI:=av (-1075);obtain⟨n8,_,_⟩:=dg;obtain⟨t1,t2⟩:=wI (aV b (fN a)) b gl G fg L g0 b0 (by rw[D];grind) (by
  rw[D];have ap:1267650600228229401496703205376*(4*p2 (-1075))<=2:=by
   have e1:=aq (show(102+-1075:Int)<=1 by decide);rw[bR,show(102:Int)=((102:Nat):Int) by rfl,cN,NH]at e1;have:((2^102:Nat):Rat)=5070602400912917605986812821504:=rfl;rw[this]at e1
   grind
  have:=Rat.mul_le_mul_of_nonneg_left ap (Rat.le_of_lt M)
  grind)
 have es:aL (a::l)=fQ a*fQ a+aL l:=rfl;rw[es]at n4;have ax:9007199254740992*ab (fQ b*fQ b-(fQ a*fQ a+aL l))<=135*(fQ a*fQ a+aL l):=by
  have:fQ b*fQ b=fQ (bM (a::l))*fQ (bM (a::l)):=by
   rcases O with⟨e,_⟩|⟨e,_⟩<;>rw[e]<;>grind
  rw[this];exact n4
 obtain⟨m1,m2⟩:=rz (fQ a) (fQ b) (aL l) (fQ t) (fQ (aV b (fN a))) (bW l) (by rw[D];exact M) F ax Z t2;exact⟨U,t1,q2,q1,aa,F,D,m1,m2⟩
theorem rA(d μ κ:Rat)(H:0<μ)(I:κ<=μ)(N:1000000*μ<=1000001*ab d):∀(l h:H3),iA d κ l h->(∀x∈h,1000000*ab (fQ x)<=1000001*μ)->∀v∈l,1000*ab (fQ v)<=1001:=by
 intro l
 induction l with
 |nil=>intro h _ _ v D;cases D
 |cons w l ih=>
  intro h F G v D
  cases h with
  |nil=>exact absurd F (by unfold iA;exact id)
  |cons x h=>
   unfold iA at F;rcases List.mem_cons.1 D with rfl|D
   ·have O:=F.1
    have Q:=G x List.mem_cons_self;have K:=aw (fQ v*d-fQ x);have L:=aw (fQ x);have t:=bP (x:=fQ v*d) (y:=ab (fQ v*d-fQ x)+ab (fQ x)) (by grind) (by grind);rw[aM]at t;rcases Rat.le_total (a:=1000*ab (fQ v)) (b:=1001)with g|g
    ·exact g
    ·exfalso
     have M:0<ab d:=by grind
     have m:=Rat.mul_le_mul_of_nonneg_left g (Rat.le_of_lt M);rw[show ab d*(1000*ab (fQ v))=1000*(ab (fQ v)*ab d) by grind]at m;generalize ab (fQ v)*ab d=z at*;generalize ab (fQ v*d-fQ x)=z1 at*;clear K L
     grind
   ·exact ih h F.2 (fun y J=>G y (List.mem_cons_of_mem _ J)) v D
theorem nU(a b d t:Nat)(D F:H3)(hl:(a::D).length<=64)(h:ky 200 (a::D))(h0:bT 0 (a::D)≠0)(hb:b<18446744073709551616)(fb:ah b=true)(b0:fK b≠0)
  (hs:(fQ b=fQ (bM (a::D))/\fQ a<=0)\/(fQ b= -fQ (bM (a::D))/\0<=fQ a)) (hd:d=aV a (fN b)) (ht:t=dV (aV b (fN a)) b) (hv:F=D.map (fun x=>dV x d)):
  ah t=true/\1000*ab (fQ t)<=2001/\9007199254740992*fQ t<=18014398509481984+200/\9007199254740992<=9007199254740992*fQ t+5/\
  (∀v∈4607182418800017408::F,ah v=true/\1000*ab (fQ v)<=1001)/\8796093022208*ab (fQ t*aL (4607182418800017408::F)-2)<=1/\
  iA (fQ d) (18014398509481984*(p2 (-1075)*ab (fQ d))) F D/\9007199254740992*ab (fQ d-(fQ a-fQ b))<=ab (fQ a-fQ b)/\ab (fQ a-fQ b)=ab (fQ a)+ab (fQ b)/\ab (fQ b)=fQ (bM (a::D))/\
  9007199254740992*ab (fQ t*(fQ a+cG F D)-(fQ a-fQ b))<=300*ab (fQ a-fQ b):=by
 obtain⟨m1,m2,m3,O,Q,m6,m7,m8,m9⟩:=wN a b D hl h h0 hb fb b0 hs;rw[<-hd]at m1 m3 O Q;rw[<-ht]at m2 m8;rw[<-hv]at m3 O;obtain⟨n1,n2,n3,n4,n5,n6,n7⟩:=nQ (a::D) hl h h0;have es:aL (a::D)=fQ a*fQ a+aL D:=rfl;rw[es]at n4;have I:9007199254740992*ab (fQ b*fQ b-(fQ a*fQ a+aL D))<=135*(fQ a*fQ a+aL D):=by
  have:fQ b*fQ b=fQ (bM (a::D))*fQ (bM (a::D)):=by
   rcases hs with⟨e,_⟩|⟨e,_⟩<;>rw[e]<;>grind
  rw[this];exact n4
 have J:(0<fQ b/\fQ a<=0)\/(fQ b<0/\0<=fQ a):=by
  rcases hs with⟨e,g⟩|⟨e,g⟩
  ·exact .inl ⟨by rw[e];exact n1,g⟩
  ·exact .inr ⟨by rw[e];grind,g⟩
 --the absolute errors are small
 have am:D.length<=64:=by rw[List.length_cons]at hl;omega
 have ap:(D.length:Rat)<=64:=Rat.natCast_le_natCast.2 am;have ax:ab (fQ d)<=3*fQ (bM (a::D)):=by
  have t:=bP (x:=fQ d) (y:=ab (fQ d-(fQ a-fQ b))+ab (fQ a-fQ b)) (by have:=aw (fQ d-(fQ a-fQ b));have:=aw (fQ a-fQ b);grind) (by have:=aw (fQ d-(fQ a-fQ b));have:=aw (fQ a-fQ b);grind);have ha:=n7 a List.mem_cons_self;have L:=Q;rw[m6,m7]at L t;generalize ab (fQ d-(fQ a-fQ b))=z at*
  grind
 obtain⟨κ,G⟩:∃κ,18014398509481984*(p2 (-1075)*ab (fQ d))=κ:=⟨_,rfl⟩;have N:0<=κ:=by
  rw[<-G];have:=Rat.mul_nonneg (Rat.le_of_lt (av (-1075))) (bK (fQ d))
  grind
 have Z:17592186044416*κ<=fQ (bM (a::D)):=by
  obtain⟨q1,q2,q3⟩:=dg;have m:=Rat.mul_le_mul_of_nonneg_left q1 (bK (fQ d));rw[<-G];have e:ab (fQ d)*(1267650600228229401496703205376*p2 (-1075))=1267650600228229401496703205376*(p2 (-1075)*ab (fQ d)):=by grind
  rw[e]at m;have z0:=Rat.mul_nonneg (Rat.le_of_lt q2) (bK (fQ d));generalize p2 (-1075)*ab (fQ d)=K at*
  grind
 rw[G]at O⊢;obtain⟨μ,U⟩:∃μ,fQ (bM (a::D))=μ:=⟨_,rfl⟩;have E1:∀x∈D,4*(ab (fQ x)*κ)+4*(κ*κ)<=μ*μ*(1/1000):=fun x hx=>by
  have aI:=n7 x (List.mem_cons_of_mem _ hx);rw[U]at aI Z;have x0:=bK (fQ x);have μ0:0<=μ:=by rw[<-U];exact Rat.le_of_lt n1
  have a1:=Rat.mul_nonneg (show 0<=μ-17592186044416*κ by grind) x0;have a2:=Rat.mul_nonneg (show 0<=1000001*μ-1000000*ab (fQ x) by grind) μ0;have a3:=Rat.mul_nonneg (show 0<=μ-17592186044416*κ by grind) N;have a4:=Rat.mul_nonneg (show 0<=μ-17592186044416*κ by grind) μ0;have a5:=ak μ;have e1:ab (fQ x)*κ=κ*ab (fQ x):=Rat.mul_comm _ _;generalize ab (fQ x)=X at*
  grind
 obtain⟨ba,bb⟩:=wK (fQ d) κ (μ*μ*(1/1000)) N F D O E1;have a6:(D.length:Rat)*(μ*μ*(1/1000))<=fQ a*fQ a+aL D:=by
  have l:=aw (fQ (bM (a::D))*fQ (bM (a::D))-(fQ a*fQ a+aL D));rw[U]at l n4;have q:=ak μ;have m:=Rat.mul_nonneg (show 0<=64-(D.length:Rat) by grind) (show 0<=μ*μ*(1/1000) by grind);have S0:0<=fQ a*fQ a+aL D:=by have:=ak (fQ a);have:=bW D;grind
  generalize fQ a*fQ a+aL D=S at*;generalize ab (μ*μ-S)=z at*;generalize μ*μ=M at*
  grind
 have s1:9007199254740992*ab (aL F*(fQ d*fQ d)-aL D)<=5*aL D+(fQ a*fQ a+aL D):=by grind
 have s2:9007199254740992*ab (cG F D*fQ d-aL D)<=2*aL D+(fQ a*fQ a+aL D):=by grind
 clear ba bb E1;obtain⟨k1,k2,k3⟩:=nR (fQ a) (fQ b) (aL D) (fQ d) (fQ t) (aL F) (bW D) J I Q m8 m9 s1;have aa:1000*ab (fQ t)<=2001:=by rw[aQ (by grind)];grind
 have ae:=pp (fQ a) (fQ b) (aL D) (fQ d) (fQ t) (cG F D) (bW D) J I Q m8 m9 s2 aa;have a7:1000000*fQ (bM (a::D))<=1000001*ab (fQ d):=by
  have l:=aw (fQ d-(fQ a-fQ b));have l2:=aw (fQ d);have t:=bP (x:=fQ a-fQ b) (y:=ab (fQ d-(fQ a-fQ b))+ab (fQ d)) (by grind) (by grind);have a0:=bK (fQ a);have L:=Q;rw[m6,m7]at L t;clear l l2 J hs n7 h m3 ae k1 s1 s2 n4 I Q m8 O hl h0 a6 Z N G ax ap;generalize ab (fQ d-(fQ a-fQ b))=z at*
  grind
 have a9:=rA (fQ d) _ κ n1 (by grind) a7 F D O (fun x hx=>n7 x (List.mem_cons_of_mem _ hx));refine⟨m2,aa,k2,k3,?_,?_,O,Q,m6,m7,ae⟩
 ·intro v H
  rcases List.mem_cons.1 H with rfl|H
  ·rw[jx]
   exact⟨by decide,by unfold ab;grind⟩
  ·exact⟨m3 v H,a9 v H⟩
 ·have e:aL (4607182418800017408::F)=1+aL F:=by
   show fQ 4607182418800017408*fQ 4607182418800017408+aL F=_;rw[jx]
   grind
  rw[e];exact k1
theorem Df(c D d μ κ Y:Rat)(hκ:κ<=μ)(I:0<μ)(O:1000*Y<=6001*μ)(hD:1000*ab D<=2001*μ)(aa:9007199254740992*ab (c-D)<=300*ab D)(hd:9007199254740992*ab (d-D)<=ab D):
  ∀(G F l:H3),iA d κ G F->(∀v∈G,1000*ab (fQ v)<=1001)->(∀x∈F,1000*ab (fQ x)<=1001*μ)->cr c (46*Y) G F l->
  81129638414606681695789005144064*aL l<=(l.length:Rat)*(810000*(μ*μ)):=by
 intro G
 induction G with
 |nil=>
  intro F l N _ _ h
  cases F with
  |cons x F=>exact absurd h (by unfold cr;exact id)
  |nil=>
   cases l with
   |cons u l=>exact absurd h (by unfold cr;exact id)
   |nil=>
    have K:aL []=0:=rfl;have M:(([]:H3).length:Rat)=0:=rfl;rw[K,M]
    grind
 |cons v G ih=>
  intro F l N Z hx h
  cases F with
  |nil=>exact absurd h (by unfold cr;exact id)
  |cons x F=>
   cases l with
   |nil=>exact absurd h (by unfold cr;exact id)
   |cons u l=>
    unfold cr at h;unfold iA at N;obtain⟨⟨_,h1⟩,h2⟩:=h;obtain⟨q1,q2⟩:=N;have i:=ih F l q2 (fun w J=>Z w (List.mem_cons_of_mem _ J)) (fun w J=>hx w (List.mem_cons_of_mem _ J)) h2;have H:=Z v List.mem_cons_self;have ae:=hx x List.mem_cons_self;have K:aL (u::l)=fQ u*fQ u+aL l:=rfl;have M:((u::l).length:Rat)=(l.length:Rat)+1:=by rw[List.length_cons,Rat.natCast_add];rfl
    rw[K,M];have v0:=bK (fQ v)
    --the parts
    have p1:9007199254740992*ab ((c-D)*fQ v)<=601*μ:=by
     rw[aM];have m:=Rat.mul_le_mul_of_nonneg_left H (bK (c-D));rw[show ab (c-D)*(1000*ab (fQ v))=1000*(ab (c-D)*ab (fQ v)) by grind]at m;generalize ab (c-D)*ab (fQ v)=z at*
     grind
    have am:9007199254740992*ab ((d-D)*fQ v)<=3*μ:=by
     rw[aM];have m:=Rat.mul_le_mul_of_nonneg_left H (bK (d-D));rw[show ab (d-D)*(1000*ab (fQ v))=1000*(ab (d-D)*ab (fQ v)) by grind]at m;generalize ab (d-D)*ab (fQ v)=z at*
     grind
    have l1:=aw ((c-D)*fQ v);have l2:=aw ((d-D)*fQ v);have l3:=aw (fQ v*d-fQ x);have l4:=aw (fQ u-(fQ x-c*fQ v));have w:fQ u=(fQ u-(fQ x-c*fQ v))-(fQ v*d-fQ x)+(d-D)*fQ v-(c-D)*fQ v:=by grind
    have t:=bP (x:=fQ u) (y:=ab (fQ u-(fQ x-c*fQ v))+ab (fQ v*d-fQ x)+ab ((d-D)*fQ v)+ab ((c-D)*fQ v)) (by grind) (by grind);have Q:9007199254740992*ab (fQ u)<=900*μ:=by
     generalize ab (fQ u-(fQ x-c*fQ v))=z1 at*;generalize ab (fQ v*d-fQ x)=z2 at*;generalize ab ((d-D)*fQ v)=z3 at*;generalize ab ((c-D)*fQ v)=z4 at*;clear w l1 l2 l3 l4
     grind
    have u0:=bK (fQ u);have eu:ab (fQ u)*ab (fQ u)=fQ u*fQ u:=by rw[<-aM];exact aQ (ak _)
    have U:=Rat.mul_le_mul_of_nonneg_left Q u0;have m2:=Rat.mul_le_mul_of_nonneg_left Q (Rat.le_of_lt I);have k:81129638414606681695789005144064*(fQ u*fQ u)<=810000*(μ*μ):=by
     rw[<-eu];rw[show ab (fQ u)*(9007199254740992*ab (fQ u))=9007199254740992*(ab (fQ u)*ab (fQ u)) by grind]at U;rw[show μ*(9007199254740992*ab (fQ u))=9007199254740992*(ab (fQ u)*μ) by grind]at m2;rw[show ab (fQ u)*(900*μ)=900*(ab (fQ u)*μ) by grind]at U;generalize ab (fQ u)*ab (fQ u)=z1 at*;generalize ab (fQ u)*μ=z2 at*
     grind
    rw[Rat.add_mul,Rat.one_mul];generalize (l.length:Rat)*(810000*(μ*μ))=L at*
    grind
theorem wO(l:Nat)(Y:Rat)(t D:H3)(K:t.length<=6)(L:ah l=true)(F:1000*ab (fQ l)<=2001)(I:∀v∈t,ah v=true/\1000*ab (fQ v)<=1001)(M:∀y∈D,ah y=true)
  (G:gz D<=Y) (hY:Y<=p2 900) (N:1267650600228229401496703205376*p2 (-1075)<=Y):
  ah (mV l (cH 0 t D))=true/\100*ab (fQ l*cG t D)<=201*Y/\9007199254740992*ab (fQ (mV l (cH 0 t D))-fQ l*cG t D)<=39*Y/\1000*ab (cG t D)<=1001*Y:=by
 have hp:=av (-1075);have O:=ry D;have Y0:0<=Y:=by grind
 have Q:16*p2 900<=p2 1023/\0<p2 900/\16*p2 900<=p2 1000:=by
  have U:=aq (show(900+1+1+1+1:Int)<=1023 by decide);have Z:=aq (show(900+1+1+1+1:Int)<=1000 by decide);simp only[bu]at U Z;exact⟨by grind,av _,by grind⟩
 have H:=FX t D (fun v h=>(I v h).2);have aa:=zn t D;have hd:1000*ab (cG t D)<=1001*Y:=by grind
 obtain⟨W,hW⟩:∃W,1000*W=1001*Y:=⟨1001*Y/1000,by grind⟩;obtain⟨f1,e1⟩:=nP W t D (by omega) (by grind) (by grind) (fun v h=>(I v h).1) M (by grind);have ae:(t.length:Rat)<=6:=Rat.natCast_le_natCast.2 K;have e2:9007199254740992*ab (fQ (cH 0 t D)-cG t D)<=18*W:=by
  have:=Rat.mul_nonneg (show 0<=6-(t.length:Rat) by grind) (show 0<=W by grind)
  grind
 have l1:=aw (fQ (cH 0 t D)-cG t D);have l2:=aw (cG t D);have hw:=bP (x:=fQ (cH 0 t D)) (y:=ab (fQ (cH 0 t D)-cG t D)+ab (cG t D)) (by grind) (by grind);have t0:=bK (fQ l);have w0:=bK (fQ (cH 0 t D));have m1:=Rat.mul_le_mul_of_nonneg_left F w0;have m2:=Rat.mul_le_mul_of_nonneg_left F (bK (cG t D));have m3:=Rat.mul_le_mul_of_nonneg_left F (bK (fQ (cH 0 t D)-cG t D));have n1:1000*ab (fQ l*fQ (cH 0 t D))<=2001*ab (fQ (cH 0 t D)):=by rw[aM];grind
 have n2:1000*ab (fQ l*cG t D)<=2001*ab (cG t D):=by rw[aM];grind
 have n3:1000*ab (fQ l*(fQ (cH 0 t D)-cG t D))<=2001*ab (fQ (cH 0 t D)-cG t D):=by rw[aM];grind
 obtain⟨f2,e3⟩:=kR l (cH 0 t D) L f1 (by grind);refine⟨f2,by grind,?_,hd⟩;have l3:=aw (fQ (mV l (cH 0 t D))-fQ l*fQ (cH 0 t D));have J:=aw (fQ l*(fQ (cH 0 t D)-cG t D));have w:fQ l*(fQ (cH 0 t D)-cG t D)=fQ l*fQ (cH 0 t D)-fQ l*cG t D:=by grind
 rw[w]at J n3;have am:=bP (x:=fQ (mV l (cH 0 t D))-fQ l*cG t D) (y:=ab (fQ (mV l (cH 0 t D))-fQ l*fQ (cH 0 t D))+ab (fQ l*fQ (cH 0 t D)-fQ l*cG t D)) (by grind) (by grind);clear l1 l2 l3 J m1 m2 m3 w e1;generalize ab (fQ (mV l (cH 0 t D))-fQ l*cG t D)=z0 at*;generalize ab (fQ (mV l (cH 0 t D))-fQ l*fQ (cH 0 t D))=z1 at*;generalize ab (fQ l*fQ (cH 0 t D)-fQ l*cG t D)=z2 at*;generalize ab (fQ (cH 0 t D)-cG t D)=z3 at*;generalize ab (fQ l*fQ (cH 0 t D))=z4 at*;generalize ab (fQ (cH 0 t D))=z5 at*;generalize ab (cG t D)=z6 at*;clear G O H;generalize p2 (-1075)=η at*
 grind
theorem oV(l:Nat)(Y:Rat)(D t:H3)(L:D.length<=6)(F:D.length=t.length)(M:ah l=true)(N:1000*ab (fQ l)<=2001)(I:∀v∈D,ah v=true/\1000*ab (fQ v)<=1001)(J:∀y∈t,ah y=true)
  (G:gz t<=Y) (K:Y<=p2 900) (H:1267650600228229401496703205376*p2 (-1075)<=Y):
  cr (fQ l*cG D t) (46*Y) D t (lP (mV l (cH 0 D t)) D t):=by
 obtain⟨O,Q,U,Z⟩:=wO l Y D t L M N I J G K H;exact FY _ (fQ l*cG D t) Y O K H Q U D t F I (fun y h=>⟨J y h,Rat.le_trans (zo t y h) G⟩)
theorem zp(a b d t u:Nat)(D F H:H3)(hl:(a::D).length<=6)(h:ky 200 (a::D))(h0:bT 0 (a::D)≠0)(hb:b<18446744073709551616)(fb:ah b=true)(b0:fK b≠0)
  (hs:(fQ b=fQ (bM (a::D))/\fQ a<=0)\/(fQ b= -fQ (bM (a::D))/\0<=fQ a)) (hd:d=aV a (fN b)) (ht:t=dV (aV b (fN a)) b) (hv:F=D.map (fun x=>dV x d))
  (J:u::H=lP (mV t (cH 0 (4607182418800017408::F) (a::D))) (4607182418800017408::F) (a::D)) (ap:H.length<=5):
  ah u=true/\(∀w∈H,ah w=true)/\81129638414606681695789005144064*((fQ u-fQ b)*(fQ u-fQ b)+aL H)<=4860000*(fQ b*fQ b):=by
 obtain⟨f1,f2,f3,f4,f5,f6,f7,f8,f9,aa,a1⟩:=nU a b d t D F (by omega) h h0 hb fb b0 hs hd ht hv;obtain⟨n1,n2,n3,n4,n5,n6,n7⟩:=nQ (a::D) (by omega) h h0;have M:(4607182418800017408::F).length=(a::D).length:=by rw[hv];simp
 obtain⟨μ,hμ⟩:∃μ,fQ (bM (a::D))=μ:=⟨_,rfl⟩;rw[hμ]at n1 n5 n6 n7 aa
 --sizes
 have N:∀x∈a::D,1000*ab (fQ x)<=1001*μ:=fun x hx=>by have:=n7 x hx;grind
 have Q:∀G:H3,(∀x∈G,1000000*ab (fQ x)<=1000001*μ)->1000000*gz G<=(G.length:Rat)*(1000001*μ):=by
  intro G
  induction G with
  |nil=>
   intro _;have e1:gz []=0:=rfl;have e2:(([]:H3).length:Rat)=0:=rfl;rw[e1,e2];grind
  |cons y G ih=>
   intro O;have i:=ih (fun z hz=>O z (List.mem_cons_of_mem _ hz));have a2:=O y List.mem_cons_self;have e1:gz (y::G)=ab (fQ y)+gz G:=rfl;have e2:((y::G).length:Rat)=(G.length:Rat)+1:=by rw[List.length_cons,Rat.natCast_add];rfl
   rw[e1,e2,Rat.add_mul,Rat.one_mul]
   grind
 have a3:((a::D).length:Rat)<=6:=Rat.natCast_le_natCast.2 hl;have ax:1000*gz (a::D)<=6001*μ:=by
  have k:=Q (a::D) n7;have:=Rat.mul_nonneg (show 0<=6-((a::D).length:Rat) by grind) (show 0<=1000001*μ by grind)
  grind
 have aI:p2 (-202)<=gz (a::D):=by
  obtain⟨b1,b2,b3,b4,b5,b6,b7,b8,y,O,b9,a5⟩:=ii 200 (a::D) h h0;have hm:=zo (a::D) y O;have hM:=iN _ (by omega) b2 b3;rw[aQ (iM _ b4)]at hM;have k1:=aq (show(-200:Int)<=eX (bT 0 (a::D)) by omega);have:=aq (show(-202:Int)<=-200 by decide)
  grind
 have U:gz (a::D)<=p2 900:=by
  have h1:=aq (show(204+1+1+1:Int)<=900 by decide);simp only[bu]at h1
  grind
 have hη:1267650600228229401496703205376*p2 (-1075)<=gz (a::D):=by
  have:=oU (-202) (by decide)
  grind
 obtain⟨g1,c1,c2,c3⟩:=JU t (4607182418800017408::F) (a::D) (by rw[M];exact hl) f1 f2 f5 (fun y O=>(h.1 y O).2) U hη;have a0:cG (4607182418800017408::F) (a::D)=fQ a+cG F D:=by
  show fQ 4607182418800017408*fQ a+cG F D=_;rw[jx];grind
 have Z:=FY _ (fQ t*cG (4607182418800017408::F) (a::D)) (gz (a::D)) g1 U hη c1 c2 (4607182418800017408::F) (a::D) M f5 (fun y O=>⟨(h.1 y O).2,zo _ y O⟩);rw[<-J]at Z;unfold cr at Z;obtain⟨⟨u1,u2⟩,u3⟩:=Z;rw[a0]at u2 u3;rw[jx]at u2;have hD:1000*ab (fQ a-fQ b)<=2001*μ:=by
  have:=N a List.mem_cons_self;have:=n7 a List.mem_cons_self;rw[f9,aa];grind
 have hκ:18014398509481984*(p2 (-1075)*ab (fQ d))<=μ:=by
  obtain⟨q1,q2,q3⟩:=dg;have l:=aw (fQ d-(fQ a-fQ b));have l2:=aw (fQ a-fQ b);have tt:=bP (x:=fQ d) (y:=ab (fQ d-(fQ a-fQ b))+ab (fQ a-fQ b)) (by grind) (by grind);have a4:ab (fQ d)<=3*μ:=by
   clear l l2;generalize ab (fQ d-(fQ a-fQ b))=z at*;generalize ab (fQ a-fQ b)=z2 at*;clear h hs J Q N n7 f5 u3 u2 c1 c2 c3
   grind
  have m:=Rat.mul_le_mul_of_nonneg_left q1 (bK (fQ d));have e:ab (fQ d)*(1267650600228229401496703205376*p2 (-1075))=1267650600228229401496703205376*(p2 (-1075)*ab (fQ d)):=by grind
  rw[e]at m;have z0:=Rat.mul_nonneg (Rat.le_of_lt q2) (bK (fQ d));clear l l2 h hs J Q N n7 f5 u3 u2 c1 c2 c3 e tt;generalize p2 (-1075)*ab (fQ d)=K at*
  grind
 have rest:=Df (fQ t*(fQ a+cG F D)) (fQ a-fQ b) (fQ d) μ _ (gz (a::D)) hκ n1 ax hD a1 f8 F D H f7 (fun v hv=>(f5 v (List.mem_cons_of_mem _ hv)).2) (fun x hx=>N x (List.mem_cons_of_mem _ hx)) u3;have ae:∀(F G H:H3) (c E:Rat),cr c E F G H->∀u∈H,ah u=true:=by
  intro F
  induction F with
  |nil=>
   intro G H c E h u J
   cases G with
   |cons y G=>exact absurd h (by unfold cr;exact id)
   |nil=>
    cases H with
    |nil=>cases J
    |cons w H=>exact absurd h (by unfold cr;exact id)
  |cons v F ih=>
   intro G H c E h u J
   cases G with
   |nil=>exact absurd h (by unfold cr;exact id)
   |cons y G=>
    cases H with
    |nil=>cases J
    |cons w H=>
     unfold cr at h;rcases List.mem_cons.1 J with rfl|J
     ·exact h.1.1
     ·exact ih G H c E h.2 u J
 refine⟨u1,ae _ _ _ _ _ u3,?_⟩
 --the first
 obtain⟨e,he⟩:∃e,fQ u-fQ b=e:=⟨_,rfl⟩;have I:9007199254740992*ab e<=900*μ:=by
  have l1:=aw (fQ u-(fQ a-fQ t*(fQ a+cG F D)*1));have l2:=aw (fQ t*(fQ a+cG F D)-(fQ a-fQ b));have tt:=bP (x:=e) (y:=ab (fQ u-(fQ a-fQ t*(fQ a+cG F D)*1))+ab (fQ t*(fQ a+cG F D)-(fQ a-fQ b))) (by grind) (by grind);generalize ab (fQ u-(fQ a-fQ t*(fQ a+cG F D)*1))=z1 at*;generalize ab (fQ t*(fQ a+cG F D)-(fQ a-fQ b))=z2 at*;clear l1 l2 rest u3
  grind
 have e0:=bK e;have ee:ab e*ab e=e*e:=by rw[<-aM];exact aQ (ak _)
 have m1:=Rat.mul_le_mul_of_nonneg_left I e0;have m2:=Rat.mul_le_mul_of_nonneg_left I (Rat.le_of_lt n1);have k:81129638414606681695789005144064*(e*e)<=810000*(μ*μ):=by
  rw[<-ee];rw[show ab e*(9007199254740992*ab e)=9007199254740992*(ab e*ab e) by grind]at m1;rw[show μ*(9007199254740992*ab e)=9007199254740992*(ab e*μ) by grind]at m2;rw[show ab e*(900*μ)=900*(ab e*μ) by grind]at m1;generalize ab e*ab e=z1 at*;generalize ab e*μ=z2 at*
  grind
 have am:(H.length:Rat)<=5:=Rat.natCast_le_natCast.2 ap;have qμ:=ak μ;have r6:=wJ am (show 0<=810000*(μ*μ) by grind);have eb:fQ b*fQ b=μ*μ:=by
  rw[<-aa,<-aM];exact(aQ (ak _)).symm
 rw[he,eb];generalize (H.length:Rat)*(810000*(μ*μ))=L at*;generalize μ*μ=MM at*;generalize e*e=EE at*;clear m1 m2 J h Q N n7 f5 ae u3 hl M
 grind
def sm:Nat->(Nat->Rat)->Rat
 |0,_=>0
 |n+1,f=>sm n f+f n
theorem zq(n:Nat)(f g:Nat->Rat):sm n (fun i=>f i+g i)=sm n f+sm n g:=by
 induction n with
 |zero=>show(0:Rat)=0+0;grind
 |succ n ih=>show sm n _+(f n+g n)=sm n f+f n+(sm n g+g n);rw[ih];grind
theorem iO(n:Nat)(c:Rat)(f:Nat->Rat):sm n (fun i=>c*f i)=c*sm n f:=by
 induction n with
 |zero=>show(0:Rat)=c*0;grind
 |succ n ih=>show sm n _+c*f n=c*(sm n f+f n);rw[ih];grind
theorem bN{n:Nat}{f g:Nat->Rat}(h:∀i,i<n->f i=g i):sm n f=sm n g:=by
 induction n with
 |zero=>rfl
 |succ n ih=>show sm n f+f n=sm n g+g n;rw[ih (fun i l=>h i (by omega)),h n (by omega)]
theorem eh{n:Nat}{f:Nat->Rat}(h:∀i,i<n->0<=f i):0<=sm n f:=by
 induction n with
 |zero=>exact Rat.le_refl
 |succ n ih=>
  have t:=ih (fun i l=>h i (by omega));have D:=h n (by omega);show 0<=sm n f+f n
  grind
theorem wP{n:Nat}{f g:Nat->Rat}(h:∀i,i<n->f i<=g i):sm n f<=sm n g:=by
 induction n with
 |zero=>exact Rat.le_refl
 |succ n ih=>
  have t:=ih (fun i l=>h i (by omega));have D:=h n (by omega);show sm n f+f n<=sm n g+g n
  grind
theorem FZ{n:Nat}{f:Nat->Rat}(h:∀i,i<n->0<=f i){k:Nat}(t:k<n):f k<=sm n f:=by
 induction n with
 |zero=>omega
 |succ n ih=>
  have D:=h n (by omega);have F:0<=sm n f:=eh (fun i l=>h i (by omega));show f k<=sm n f+f n
  by_cases e:k=n
  ·subst e;grind
  ·have:=ih (fun i l=>h i (by omega)) (by omega)
   grind
def dt(n:Nat)(x y:Nat->Rat):Rat:=sm n (fun i=>x i*y i)
theorem ij(n:Nat)(x y:Nat->Rat):dt n x y=dt n y x:=bN (fun _ _=>Rat.mul_comm _ _)
theorem oW(n:Nat)(x y z:Nat->Rat):dt n (fun i=>x i+y i) z=dt n x z+dt n y z:=by
 unfold dt;rw[<-zq];exact bN (fun i _=>by grind)
theorem kj(n:Nat)(c:Rat)(x z:Nat->Rat):dt n (fun i=>c*x i) z=c*dt n x z:=by
 unfold dt;rw[<-iO];exact bN (fun i _=>by grind)
theorem jq(n:Nat)(x y z:Nat->Rat):dt n z (fun i=>x i+y i)=dt n z x+dt n z y:=by
 rw[ij,oW,ij n x,ij n y]
theorem iR(n:Nat)(c:Rat)(x z:Nat->Rat):dt n z (fun i=>c*x i)=c*dt n z x:=by
 rw[ij,kj,ij n x]
theorem je(n:Nat)(x:Nat->Rat):0<=dt n x x:=eh (fun i _=>ak (x i))
theorem d8{n:Nat}{x y l t:Nat->Rat}(h:∀i,i<n->x i=l i)(k:∀i,i<n->y i=t i):dt n x y=dt n l t:=
 bN (fun i D=>by rw[h i D,k i D])
theorem wQ(n:Nat)(x y:Nat->Rat):dt n x y*dt n x y<=dt n x x*dt n y y:=by
 induction n with
 |zero=>show(0:Rat)*0<=0*0;exact Rat.le_refl
 |succ n ih=>
  have t:=je n x;have D:=je n y;have F:dt (n+1) x y=dt n x y+x n*y n:=rfl;have G:dt (n+1) x x=dt n x x+x n*x n:=rfl;have H:dt (n+1) y y=dt n y y+y n*y n:=rfl;rw[F,G,H];generalize dt n x y=S at*;generalize dt n x x=X at*;generalize dt n y y=Y at*;generalize x n=a at*;generalize y n=b at*;have h:=ak a;have l:=ak b;have I:0<=X*(b*b)+Y*(a*a):=by
   have:=Rat.mul_nonneg t l;have:=Rat.mul_nonneg D h
   grind
  have J:(2*S*(a*b))*(2*S*(a*b))<=(X*(b*b)+Y*(a*a))*(X*(b*b)+Y*(a*a)):=by
   have K:=Rat.mul_nonneg (show 0<=X*Y-S*S by grind) (Rat.mul_nonneg h l);have L:=ak (X*(b*b)-Y*(a*a))
   grind
  have M:=dr I J
  grind
def Bd(n:Nat)(x:Nat->Rat)(a:Rat):Prop:=0<=a/\dt n x x<=a*a
theorem Bd.dot{n:Nat}{x y:Nat->Rat}{a b:Rat}(l:Bd n x a)(t:Bd n y b):ab (dt n x y)<=a*b:=by
 have D:=Rat.mul_nonneg l.1 t.1;have c:=wQ n x y;have F:=je n x;have G:=Rat.mul_nonneg (show 0<=a*a-dt n x x by have:=l.2;grind) (je n y);have H:=Rat.mul_nonneg (ak a) (show 0<=b*b-dt n y y by have:=t.2;grind);have h:ab (dt n x y)*ab (dt n x y)<=(a*b)*(a*b):=by
  rw[<-aM,aQ (ak _)]
  grind
 exact dr D h
theorem Bd.add{n:Nat}{x y:Nat->Rat}{a b:Rat}(h:Bd n x a)(t:Bd n y b):Bd n (fun i=>x i+y i) (a+b):=by
 have D:=h.1;have F:=t.1;refine⟨by grind,?_⟩;have d:=h.dot t;have l:=aw (dt n x y);rw[oW,jq,jq,ij n y x];have:=h.2;have:=t.2
 grind
theorem Bd.mul{n:Nat}{x:Nat->Rat}{a:Rat}(h:Bd n x a)(c:Rat):Bd n (fun i=>c*x i) (ab c*a):=by
 refine⟨Rat.mul_nonneg (bK c) h.1,?_⟩;rw[kj,iR];have e:ab c*ab c=c*c:=by rw[<-aM];exact aQ (ak c)
 have k:=Rat.mul_nonneg (ak c) (show 0<=a*a-dt n x x by have:=h.2;grind);rw[show ab c*a*(ab c*a)=ab c*ab c*(a*a) by grind,e]
 grind
theorem Bd.mono{n:Nat}{x:Nat->Rat}{a b:Rat}(l:Bd n x a)(h:a<=b):Bd n x b:=by
 have t:=l.1;refine⟨by grind,?_⟩;have k:=Rat.mul_nonneg (show 0<=b-a by grind) (show 0<=b+a by grind);have:=l.2
 grind
theorem Bd.congr{n:Nat}{x y:Nat->Rat}{a:Rat}(l:Bd n x a)(h:∀i,i<n->x i=y i):Bd n y a:=
 ⟨l.1,by rw[<-d8 h h];exact l.2⟩
theorem Bd.nought(n:Nat):Bd n (fun _=>0) 0:=by
 refine⟨Rat.le_refl,?_⟩;have:dt n (fun _=>0) (fun _=>0)=0*dt n (fun _=>0) (fun _=>0):=by
  rw[<-kj];exact d8 (fun i _=>by grind) (fun i _=>rfl)
 rw[this]
 grind
theorem Bd.at{n:Nat}{x:Nat->Rat}{a:Rat}(l:Bd n x a){k:Nat}(t:k<n):ab (x k)<=a:=by
 have h:=FZ (f:=fun i=>x i*x i) (fun i _=>ak (x i)) t;refine dr l.1 ?_;rw[<-aM,aQ (ak _)];have:=l.2;unfold dt at this
 grind
def eH(n:Nat)(v:Nat->Rat)(t:Rat)(y:Nat->Rat):Nat->Rat:=fun i=>y i+(-(t*dt n v y))*v i
theorem Bg(n:Nat)(v:Nat->Rat)(t:Rat)(y z:Nat->Rat):dt n (eH n v t y) (eH n v t z)=dt n y z+t*(t*dt n v v-2)*(dt n v y*dt n v z):=by
 unfold eH;rw[oW,jq,jq,kj,kj,iR,iR,ij n y v]
 grind
theorem JV(n:Nat)(v:Nat->Rat)(t:Rat)(y z:Nat->Rat):dt n (eH n v t y) z=dt n y (eH n v t z):=by
 unfold eH;rw[oW,jq,kj,iR,ij n y v]
 grind
theorem Bh(n:Nat)(v:Nat->Rat)(t:Rat)(y z:Nat->Rat)(i:Nat):eH n v t (fun i=>y i+z i) i=eH n v t y i+eH n v t z i:=by
 unfold eH;rw[jq]
 grind
theorem Bi(n:Nat)(v:Nat->Rat)(t c:Rat)(y:Nat->Rat)(i:Nat):eH n v t (fun i=>c*y i) i=c*eH n v t y i:=by
 unfold eH;rw[iR]
 grind
theorem Dg(n:Nat)(v:Nat->Rat)(t:Rat)(y:Nat->Rat)(i:Nat):eH n v t (eH n v t y) i=y i+t*(t*dt n v v-2)*dt n v y*v i:=by
 have e:dt n v (eH n v t y)=dt n v y+(-(t*dt n v y))*dt n v v:=by
  unfold eH;rw[jq,iR]
 show eH n v t y i+(-(t*dt n v (eH n v t y)))*v i=_;rw[e];show y i+(-(t*dt n v y))*v i+_=_
 grind
structure Bj (n:Nat) (v:Nat->Rat) (t ε:Rat):Prop where
 eps:0<=ε
 one:ε<=1
 two:ab (t*dt n v v-2)<=ε
 pos:0<=t
theorem Bj.size{n:Nat}{v:Nat->Rat}{t ε:Rat}(h:Bj n v t ε):t*dt n v v<=3:=by
 have:=aw (t*dt n v v-2);have:=h.two;have:=h.one
 grind
theorem Bj.near{n:Nat}{v:Nat->Rat}{t ε a b:Rat}{y z:Nat->Rat}(h:Bj n v t ε)(F:Bd n y a)(G:Bd n z b):ab (t*(t*dt n v v-2)*(dt n v y*dt n v z))<=3*ε*(a*b):=by
 have J:=wQ n v y;have K:=wQ n v z;have D:=je n v;have L:=h.size;have H:=F.1;have I:=G.1;have l:=Rat.mul_nonneg H I
 --(v y) (v z) is at most|v|^2 a b
 have k:ab (dt n v y*dt n v z)<=dt n v v*(a*b):=by
  refine dr (Rat.mul_nonneg D l) ?_;rw[<-aM,aQ (ak _)];have M:dt n v y*dt n v y<=dt n v v*(a*a):=by
   have:=Rat.mul_nonneg D (show 0<=a*a-dt n y y by have:=F.2;grind)
   grind
  have p2:dt n v z*dt n v z<=dt n v v*(b*b):=by
   have:=Rat.mul_nonneg D (show 0<=b*b-dt n z z by have:=G.2;grind)
   grind
  have N:=Rat.mul_nonneg (show 0<=dt n v v*(a*a)-dt n v y*dt n v y by grind) (ak (dt n v z));have O:=Rat.mul_nonneg (Rat.mul_nonneg D (ak a)) (show 0<=dt n v v*(b*b)-dt n v z*dt n v z by grind)
  grind
 have e:ab (t*(t*dt n v v-2)*(dt n v y*dt n v z))=t*(ab (t*dt n v v-2)*ab (dt n v y*dt n v z)):=by
  rw[aM,aM,aQ h.pos]
  grind
 rw[e];have Q:=Rat.mul_nonneg (show 0<=ε-ab (t*dt n v v-2) by have:=h.two;grind) (bK (dt n v y*dt n v z));have U:=Rat.mul_nonneg h.eps (show 0<=dt n v v*(a*b)-ab (dt n v y*dt n v z) by grind);have Z:=Rat.mul_nonneg h.pos (show 0<=ε*(dt n v v*(a*b))-ab (t*dt n v v-2)*ab (dt n v y*dt n v z) by grind);have m4:=Rat.mul_nonneg (Rat.mul_nonneg h.eps l) (show 0<=3-t*dt n v v by grind)
 grind
theorem Bj.bd{n:Nat}{v:Nat->Rat}{t ε a:Rat}{y:Nat->Rat}(h:Bj n v t ε)(D:Bd n y a):Bd n (eH n v t y) ((1+2*ε)*a):=by
 have G:=D.1;have F:=h.eps;refine⟨Rat.mul_nonneg (by grind) G,?_⟩;rw[Bg];have k:=h.near D D;have l:=aw (t*(t*dt n v v-2)*(dt n v y*dt n v y));have m:=Rat.mul_nonneg F (ak a);have H:=Rat.mul_nonneg (Rat.mul_nonneg F F) (ak a);have:=D.2;rw[show(1+2*ε)*a*((1+2*ε)*a)=a*a+4*(ε*(a*a))+4*(ε*ε*(a*a)) by grind]
 grind
theorem Bj.back{n:Nat}{v:Nat->Rat}{t ε a:Rat}{y:Nat->Rat}(h:Bj n v t ε)(F:Bd n y a):Bd n (fun i=>eH n v t (eH n v t y) i+(-1)*y i) (3*ε*a):=by
 have H:=F.1;have M:=h.eps;have D:=je n v;have N:=h.size;have O:=wQ n v y;have e:∀i,eH n v t (eH n v t y) i+(-1)*y i=(t*(t*dt n v v-2)*dt n v y)*v i:=fun i=>by rw[Dg];grind
 have I:Bd n (fun i=>(t*(t*dt n v v-2)*dt n v y)*v i) (3*ε*a):=by
  refine⟨Rat.mul_nonneg (by grind) H,?_⟩;rw[kj,iR];have Q:(t*dt n v v-2)*(t*dt n v v-2)<=ε*ε:=by
   have l:=aw (t*dt n v v-2);have:=h.two;have:=Rat.mul_nonneg (show 0<=ε-(t*dt n v v-2) by grind) (show 0<=ε+(t*dt n v v-2) by grind)
   grind
  have U:dt n v y*dt n v y<=dt n v v*(a*a):=by
   have:=Rat.mul_nonneg D (show 0<=a*a-dt n y y by have:=F.2;grind)
   grind
  have Z:0<=t*dt n v v:=Rat.mul_nonneg h.pos D;have k3:(t*dt n v v)*(t*dt n v v)<=9:=by
   have:=Rat.mul_nonneg (show 0<=3-t*dt n v v by grind) (show 0<=3+t*dt n v v by grind)
   grind
  have J:=Rat.mul_nonneg h.pos h.pos;generalize dt n v v=V at*;generalize dt n v y=G at*;have K:=ak a;have m1:=Rat.mul_nonneg (Rat.mul_nonneg J D) (show 0<=V*(a*a)-G*G by grind)
  --t t V (V a a-G G) is not below 0
  have m2:=Rat.mul_nonneg (show 0<=9-t*V*(t*V) by grind) K;have m3:t*t*V*(G*G)<=9*(a*a):=by grind
  have L:=ak (t*V-2);have m4:=Rat.mul_nonneg L (show 0<=9*(a*a)-t*t*V*(G*G) by grind);have m5:=Rat.mul_nonneg (show 0<=ε*ε-(t*V-2)*(t*V-2) by grind) (show 0<=9*(a*a) by grind);rw[show t*(t*V-2)*G*(t*(t*V-2)*G*V)=(t*V-2)*(t*V-2)*(t*t*V*(G*G)) by grind,show 3*ε*a*(3*ε*a)=ε*ε*(9*(a*a)) by grind]
  grind
 exact I.congr (fun i _=>(e i).symm)
theorem tW{n:Nat}{v:Nat->Rat}{t:Rat}{y z:Nat->Rat}(h:∀i,i<n->y i=z i):∀i,i<n->eH n v t y i=eH n v t z i:=by
 intro i l;unfold eH;rw[d8 (fun _ _=>rfl) h,h i l]
def bB(n:Nat):List ((Nat->Rat)×Rat)->(Nat->Rat)->Nat->Rat
 | [],y=>y
 |m::ms,y=>bB n ms (eH n m.1 m.2 y)
def kS(n:Nat):List ((Nat->Rat)×Rat)->(Nat->Rat)->Nat->Rat
 | [],y=>y
 |m::ms,y=>eH n m.1 m.2 (kS n ms y)
theorem Bk(n:Nat):∀(ms:List ((Nat->Rat)×Rat)) (y z:Nat->Rat),dt n (bB n ms y) z=dt n y (kS n ms z):=by
 intro ms
 induction ms with
 |nil=>intro y z;rfl
 |cons m ms ih=>
  intro y z;show dt n (bB n ms (eH n m.1 m.2 y)) z=dt n y (eH n m.1 m.2 (kS n ms z));rw[ih,JV]
theorem jS(n:Nat):∀(ms:List ((Nat->Rat)×Rat)) (y z:Nat->Rat),(∀i,i<n->y i=z i)->∀i,i<n->bB n ms y i=bB n ms z i:=by
 intro ms
 induction ms with
 |nil=>intro y z h;exact h
 |cons m ms ih=>intro y z h;exact ih _ _ (tW h)
theorem qh(n:Nat):∀(ms:List ((Nat->Rat)×Rat)) (y z:Nat->Rat) (i:Nat),i<n->bB n ms (fun i=>y i+z i) i=bB n ms y i+bB n ms z i:=by
 intro ms
 induction ms with
 |nil=>intro y z i _;rfl
 |cons m ms ih=>
  intro y z i h;show bB n ms (eH n m.1 m.2 (fun i=>y i+z i)) i=bB n ms (eH n m.1 m.2 y) i+bB n ms (eH n m.1 m.2 z) i;rw[<-ih _ _ i h];exact jS n ms _ _ (fun k _=>Bh n m.1 m.2 y z k) i h
theorem nV(n:Nat)(c:Rat):∀(ms:List ((Nat->Rat)×Rat)) (y:Nat->Rat) (i:Nat),i<n->bB n ms (fun i=>c*y i) i=c*bB n ms y i:=by
 intro ms
 induction ms with
 |nil=>intro y i _;rfl
 |cons m ms ih=>
  intro y i h;show bB n ms (eH n m.1 m.2 (fun i=>c*y i)) i=c*bB n ms (eH n m.1 m.2 y) i;rw[<-ih _ i h];exact jS n ms _ _ (fun k _=>Bi n m.1 m.2 c y k) i h
def kl(n:Nat)(ε:Rat)(ms:List ((Nat->Rat)×Rat)):Prop:=∀m∈ms,Bj n m.1 m.2 ε
def gw(ε:Rat):Nat->Rat
 |0=>1
 |k+1=>(1+2*ε)*gw ε k
theorem N8(ε:Rat)(h:0<=ε)(k:Nat):1<=gw ε k:=by
 induction k with
 |zero=>exact Rat.le_refl
 |succ k ih=>
  have:=Rat.mul_nonneg h (show 0<=gw ε k by grind);show 1<=(1+2*ε)*gw ε k
  grind
theorem km{n:Nat}{ε:Rat}:∀(ms:List ((Nat->Rat)×Rat)) (y:Nat->Rat) (a:Rat),kl n ε ms->Bd n y a->Bd n (bB n ms y) (gw ε ms.length*a):=by
 intro ms
 induction ms with
 |nil=>
  intro y a _ h;exact h.mono (by show a<=1*a;grind)
 |cons m ms ih=>
  intro y a l h;have D:=(l m List.mem_cons_self).bd h;have F:=ih _ _ (fun x t=>l x (List.mem_cons_of_mem _ t)) D;refine F.mono ?_;show gw ε ms.length*((1+2*ε)*a)<=(1+2*ε)*gw ε ms.length*a
  grind
def bk(ε:Rat):Nat->Rat
 |0=>0
 |k+1=>3+(1+2*ε)*(1+2*ε)*bk ε k
theorem JW{n:Nat}{ε:Rat}:∀(ms:List ((Nat->Rat)×Rat)) (y:Nat->Rat) (a:Rat),kl n ε ms->Bd n y a->Bd n (fun i=>kS n ms (bB n ms y) i+(-1)*y i) (bk ε ms.length*(ε*a)):=by
 intro ms
 induction ms with
 |nil=>
  intro y a _ h;refine(Bd.nought n).congr (fun i _=>?_) |>.mono ?_
  ·show(0:Rat)=y i+(-1)*y i
   grind
  ·show(0:Rat)<=0*(ε*a)
   grind
 |cons m ms ih=>
  intro y a t h;have l:=t m List.mem_cons_self;have F:=l.bd h;have G:=ih _ _ (fun x D=>t x (List.mem_cons_of_mem _ D)) F;have H:=l.bd G;have I:=H.add (l.back h);have K:=h.1;refine(I.congr (fun i J=>?_)).mono ?_
  ·show eH n m.1 m.2 (fun i=>kS n ms (bB n ms (eH n m.1 m.2 y)) i+(-1)*eH n m.1 m.2 y i) i+(eH n m.1 m.2 (eH n m.1 m.2 y) i+(-1)*y i)=eH n m.1 m.2 (kS n ms (bB n ms (eH n m.1 m.2 y))) i+(-1)*y i
   rw[Bh,Bi]
   grind
  ·show(1+2*ε)*(bk ε ms.length*(ε*((1+2*ε)*a)))+3*ε*a<=(3+(1+2*ε)*(1+2*ε)*bk ε ms.length)*(ε*a)
   grind
def jT(n:Nat)(δ:Rat):List ((Nat->Rat)×Rat)->(Nat->Rat)->(Nat->Rat)->Prop
 | [],y,z=>∀i,i<n->y i=z i
 |m::ms,y,z=>∃u:Nat->Rat,(∀a,Bd n y a->Bd n (fun i=>u i+(-1)*eH n m.1 m.2 y i) (δ*a))/\jT n δ ms u z
def er(ε δ:Rat):Nat->Rat
 |0=>0
 |k+1=>gw ε k+er ε δ k*(1+2*ε+δ)
theorem Q6(ε δ:Rat)(h:0<=ε)(l:0<=δ)(k:Nat):0<=er ε δ k:=by
 induction k with
 |zero=>exact Rat.le_refl
 |succ k ih=>
  have:=Rat.mul_nonneg ih (show 0<=1+2*ε+δ by grind);have:=N8 ε h k;show 0<=gw ε k+er ε δ k*(1+2*ε+δ)
  grind
theorem lW{n:Nat}{ε δ:Rat}:∀(ms:List ((Nat->Rat)×Rat)) (y z:Nat->Rat) (a:Rat),kl n ε ms->jT n δ ms y z->Bd n y a->Bd n (fun i=>z i+(-1)*bB n ms y i) (er ε δ ms.length*(δ*a)):=by
 intro ms
 induction ms with
 |nil=>
  intro y z a _ F t;refine(Bd.nought n).congr (fun i l=>?_) |>.mono ?_
  ·show(0:Rat)=z i+(-1)*y i
   rw[F i l]
   grind
  ·show(0:Rat)<=0*(δ*a)
   grind
 |cons m ms ih=>
  intro y z a H F t;obtain⟨u,O,Q⟩:=F;have J:=H m List.mem_cons_self;have h:kl n ε ms:=fun x I=>H x (List.mem_cons_of_mem _ I)
  have G:=O a t;have K:=J.bd t;have D:Bd n u ((1+2*ε+δ)*a):=by
   refine((K.add G).congr (fun i _=>?_)).mono ?_
   ·show eH n m.1 m.2 y i+(u i+(-1)*eH n m.1 m.2 y i)=u i
    grind
   ·grind
  have L:=ih u z _ h Q D;have M:=km ms _ _ h G;have N:=L.add M;have U:=t.1;refine(N.congr (fun i l=>?_)).mono ?_
  ·show z i+(-1)*bB n ms u i+bB n ms (fun i=>u i+(-1)*eH n m.1 m.2 y i) i=z i+(-1)*bB n ms (eH n m.1 m.2 y) i
   rw[qh n ms _ _ i l,nV n (-1) ms _ i l]
   grind
  ·show er ε δ ms.length*(δ*((1+2*ε+δ)*a))+gw ε ms.length*(δ*a)<=(gw ε ms.length+er ε δ ms.length*(1+2*ε+δ))*(δ*a)
   grind
end Go.Proofs.YtcbcmlaogehimaaGreatDoor
