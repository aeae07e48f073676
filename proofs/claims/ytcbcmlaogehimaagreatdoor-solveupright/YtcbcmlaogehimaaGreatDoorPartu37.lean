/- Part 37 of the texts. -/
import Derived.Test.YtcbcmlaogehimaaGreatDoorPartu36
namespace Go.Proofs.YtcbcmlaogehimaaGreatDoor
open Go.RowKit
theorem yg(x d:Nat)(r:Rat)(K:x<18446744073709551616)(L:d<18446744073709551616)(M:ah x=true)(N:ah d=true)(l:0<ab (fQ d))(O:1<=r)(D:r<=100)(h:ab (fQ x)<=r*ab (fQ d)):
  ah (dV x d)=true/\100000*ab (fQ (dV x d))<=100001*r:=by
 have Q:fK d≠0:=fun e=>by
  rw[bf d e]at l;unfold ab at l
  grind
 have F:(100:Rat)<=p2 1000:=by
  have h1:=aq (show(7:Int)<=1000 by decide);have h2:p2 7=128:=by rw[show(7:Int)=((7:Nat):Int) by rfl,cN];rfl
  grind
 have U:=Rat.mul_nonneg (show 0<=p2 1000-r by grind) (Rat.le_of_lt l);obtain⟨g1,g2⟩:=ye x d K L M N Q (by grind);refine⟨g1,?_⟩;obtain⟨q1,q2,q3⟩:=dg;have Z:=aw (fQ (dV x d)*fQ d-fQ x);have l2:=aw (fQ x);have t:=bP (x:=fQ (dV x d)*fQ d) (y:=ab (fQ (dV x d)*fQ d-fQ x)+ab (fQ x)) (by grind) (by grind);rw[aM]at t;have e1:=Rat.mul_le_mul_of_nonneg_left q1 (Rat.le_of_lt l);have G:ab (fQ d)*(1267650600228229401496703205376*p2 (-1075))=1267650600228229401496703205376*(p2 (-1075)*ab (fQ d)):=by grind
 rw[G]at e1;rcases Rat.le_total (a:=100000*ab (fQ (dV x d))) (b:=100001*r)with g|g
 ·exact g
 ·exfalso
  have m:=Rat.mul_le_mul_of_nonneg_left g (Rat.le_of_lt l);have H:ab (fQ d)*(100001*r)=100001*(r*ab (fQ d)):=by grind
  have I:ab (fQ d)*(100000*ab (fQ (dV x d)))=100000*(ab (fQ (dV x d))*ab (fQ d)):=by grind
  rw[H,I]at m;have rd:=Rat.mul_nonneg (show 0<=r-1 by grind) (Rat.le_of_lt l);have J:(r-1)*ab (fQ d)=r*ab (fQ d)-ab (fQ d):=by grind
  rw[J]at rd;clear Z l2 G H I J U g O D F;generalize ab (fQ (dV x d))*ab (fQ d)=z1 at*;generalize p2 (-1075)*ab (fQ d)=z2 at*;generalize r*ab (fQ d)=z3 at*;generalize ab (fQ (dV x d)*fQ d-fQ x)=z4 at*
  grind
theorem Ea(c Y:Rat)(Z:100*ab c<=201*Y):∀(G l D:H3),cr c (46*Y) G l D->(∀v∈G,1000*ab (fQ v)<=1001)->(∀y∈l,ab (fQ y)<=Y)->0<=Y->∀u∈D,ah u=true/\ab (fQ u)<=4*Y:=by
 intro G
 induction G with
 |nil=>
  intro l D h _ _ _ u F
  cases l with
  |cons y l=>exact absurd h (by unfold cr;exact id)
  |nil=>
   cases D with
   |nil=>cases F
   |cons w D=>exact absurd h (by unfold cr;exact id)
 |cons v G ih=>
  intro l D h J K U u F
  cases l with
  |nil=>exact absurd h (by unfold cr;exact id)
  |cons y l=>
   cases D with
   |nil=>cases F
   |cons w D=>
    unfold cr at h;rcases List.mem_cons.1 F with rfl|F
    ·refine⟨h.1.1,?_⟩
     have e:=h.1.2;have I:=J v List.mem_cons_self;have L:=K y List.mem_cons_self;have M:=aw (fQ u-(fQ y-c*fQ v));have N:=aw (fQ y);have O:=aw (c*fQ v);have t:=bP (x:=fQ u) (y:=ab (fQ u-(fQ y-c*fQ v))+ab (fQ y)+ab (c*fQ v)) (by grind) (by grind);have m:=Rat.mul_le_mul_of_nonneg_left I (bK c);have Q:ab c*(1000*ab (fQ v))=1000*ab (c*fQ v):=by rw[aM];grind
     rw[Q]at m;generalize ab (fQ u-(fQ y-c*fQ v))=z1 at*;generalize ab (c*fQ v)=z2 at*;clear M N O
     grind
    ·exact ih l D h.2 (fun x H=>J x (List.mem_cons_of_mem _ H)) (fun x H=>K x (List.mem_cons_of_mem _ H)) U u F
theorem Pd(Z:Rat):∀(l:H3),(∀y∈l,ab (fQ y)<=Z)->gz l<=(l.length:Rat)*Z:=by
 intro l
 induction l with
 |nil=>
  intro _;have t:gz []=0:=rfl;have D:(([]:H3).length:Rat)=0:=rfl;rw[t,D]
  grind
 |cons y l ih=>
  intro h;have i:=ih (fun z F=>h z (List.mem_cons_of_mem _ F));have G:=h y List.mem_cons_self;have t:gz (y::l)=ab (fQ y)+gz l:=rfl;have D:((y::l).length:Rat)=(l.length:Rat)+1:=by rw[List.length_cons,Rat.natCast_add];rfl
  rw[t,D,Rat.add_mul,Rat.one_mul]
  grind
theorem Eb(t:Nat)(Z:Rat)(D l:H3)(J:D.length<=6)(F:D.length=l.length)(K:ah t=true)(L:1000*ab (fQ t)<=2001)(H:∀v∈D,ah v=true/\1000*ab (fQ v)<=1001)(G:∀y∈l,ah y=true/\ab (fQ y)<=Z)
  (M:6*Z<=p2 900) (O:1267650600228229401496703205376*p2 (-1075)<=Z):∀u∈lP (mV t (cH 0 D l)) D l,ah u=true/\ab (fQ u)<=24*Z:=by
 have hp:=av (-1075);have Q:0<=Z:=by grind
 have s:=Pd Z l (fun y h=>(G y h).2);have U:(l.length:Rat)<=6:=Rat.natCast_le_natCast.2 (by omega:l.length<=6);have m:=Rat.mul_nonneg (show 0<=6-(l.length:Rat) by grind) Q;have N:gz l<=6*Z:=by grind
 obtain⟨f1,c1,_,_⟩:=wO t (6*Z) D l J K L H (fun y h=>(G y h).1) N M (by grind);have I:=oV t (6*Z) D l J F K L H (fun y h=>(G y h).1) N M (by grind);intro u hu;obtain⟨u1,u2⟩:=Ea _ (6*Z) c1 D l _ I (fun v h=>(H v h).2) (fun y h=>by have:=(G y h).2;grind) (by grind) u hu;exact⟨u1,by grind⟩
theorem uf(t:H3)(H:t.length<=64)(h:ky 300 t)(I:bT 0 t≠0):
  0<fQ (bM t)/\ah (bM t)=true/\fS (bM t)=false/\9007199254740992*ab (fQ (bM t)*fQ (bM t)-aL t)<=135*aL t/\fQ (bM t)<=p2 304/\p2 (-301)<=fQ (bM t)/\(∀x∈t,1000000*ab (fQ x)<=1000001*fQ (bM t)):=by
 obtain⟨n1,n2,J,n4⟩:=mR 300 (by decide) t H h I;obtain⟨b1,b2,b3,b4,b5,b6,b7,b8,y,hy,b9,am⟩:=ii 300 t h I;have L:(t.length:Rat)<=64:=Rat.natCast_le_natCast.2 H;have P0:=av 300;have M:=iN _ (by omega) b2 b3;rw[aQ (iM _ b4)]at M;have N:=aq (show eX (bT 0 t)+1<=300 by omega);have O:=aq (show-300<=eX (bT 0 t) by omega);have hS:aL t<=64*(p2 300*p2 300):=by
  have h1:=qg (p2 300) t (fun x G=>by have:=b7 x G;grind);have:=Rat.mul_nonneg (show 0<=64-(t.length:Rat) by grind) (ak (p2 300))
  grind
 have Q:=qf t y hy;have U:p2 (-300)<=ab (fQ y):=by rw[b9];grind
 have Q0:=av (-300);have Z:=ak (fQ y);have ey:ab (fQ y)*ab (fQ y)=fQ y*fQ y:=by rw[<-aM];exact aQ Z
 have hL:p2 (-300)*p2 (-300)<=aL t:=by
  have m:=Rat.mul_nonneg (show 0<=ab (fQ y)-p2 (-300) by grind) (show 0<=ab (fQ y)+p2 (-300) by grind)
  grind
 have l:=aw (fQ (bM t)*fQ (bM t)-aL t);have D:p2 304=16*p2 300:=by rw[show(304:Int)=300+1+1+1+1 by rfl];simp only[bu];grind
 have F:p2 (-300)=2*p2 (-301):=by rw[show(-300:Int)= -301+1 by rfl,bu]
 have s0:=bW t;refine⟨J,n1,n2,n4,?_,?_,fun x G=>?_⟩
 ·refine dr (Rat.le_of_lt (av _)) ?_
  rw[D];generalize fQ (bM t)*fQ (bM t)=K at*;have:16*p2 300*(16*p2 300)=256*(p2 300*p2 300):=by grind
  rw[this];generalize p2 300*p2 300=PP at*
  grind
 ·refine dr (Rat.le_of_lt J) ?_
  have:p2 (-300)*p2 (-300)=4*(p2 (-301)*p2 (-301)):=by rw[F];grind
  rw[this]at hL;have aa:=Rat.mul_pos (av (-301)) (av (-301));generalize fQ (bM t)*fQ (bM t)=K at*;generalize p2 (-301)*p2 (-301)=PP at*
  grind
 ·have ae:=qf t x G
  have qx:=ak (fQ x);have ex:ab (fQ x)*ab (fQ x)=fQ x*fQ x:=by rw[<-aM];exact aQ qx
  refine dr (by grind) ?_;rw[show 1000000*ab (fQ x)*(1000000*ab (fQ x))=1000000000000*(ab (fQ x)*ab (fQ x)) by grind,ex,show 1000001*fQ (bM t)*(1000001*fQ (bM t))=1000002000001*(fQ (bM t)*fQ (bM t)) by grind];generalize fQ (bM t)*fQ (bM t)=K at*;generalize fQ x*fQ x=XX at*
  grind
theorem vr(a b:Nat)(l:H3)(hl:(a::l).length<=64)(h:ky 300 (a::l))(h0:bT 0 (a::l)≠0)(G:b<18446744073709551616)(L:ah b=true)(b0:fK b≠0)
  (O:(fQ b=fQ (bM (a::l))/\fQ a<=0)\/(fQ b= -fQ (bM (a::l))/\0<=fQ a)):
  let d:=aV a (fN b);let t:=dV (aV b (fN a)) b;let Q:=l.map (fun x=>dV x d)
  ah d=true/\ah t=true/\(∀v∈Q,ah v=true)/\iA (fQ d) (18014398509481984*(p2 (-1075)*ab (fQ d))) Q l/\9007199254740992*ab (fQ d-(fQ a-fQ b))<=ab (fQ a-fQ b)/\
  ab (fQ a-fQ b)=ab (fQ a)+ab (fQ b)/\ab (fQ b)=fQ (bM (a::l))/\9007199254740992*ab (fQ t*fQ b+(fQ a-fQ b))<=4*ab (fQ a-fQ b)/\4503599627370496*ab (fQ a)<=4503599627370496*ab (fQ b)+70*ab (fQ b):=by
 intro d t Q;obtain⟨M,n2,n3,n4,n5,n6,n7⟩:=uf (a::l) hl h h0;obtain⟨N,a2⟩:=h.1 a List.mem_cons_self;have D:ab (fQ b)=fQ (bM (a::l)):=by
  rcases O with⟨e,_⟩|⟨e,_⟩
  ·rw[e];exact aQ (Rat.le_of_lt M)
  ·rw[e,ki];exact aQ (Rat.le_of_lt M)
 have F:ab (fQ a-fQ b)=ab (fQ a)+ab (fQ b):=by
  rw[D];rcases O with⟨e,g⟩|⟨e,g⟩
  ·rw[e];unfold ab;grind
  ·rw[e];unfold ab;grind
 have H:ah (fN a)=true:=by rw[gu a N];exact a2
 have I:ah (fN b)=true:=by rw[gu b G];exact L
 have qa:=jR a N;have qb:=jR b G;have A0:=bK (fQ a);have hA:=n7 a List.mem_cons_self;have P4:=av 304;have a0:8*p2 304<=p2 1023/\4*p2 304<=p2 310:=by
  have h1:=aq (show(304+1+1+1:Int)<=1023 by decide);have h2:=aq (show(304+1+1:Int)<=310 by decide);simp only[bu]at h1 h2;exact⟨by grind,by grind⟩
 --the difference and the other one
 have U:ah d=true:=gy a (fN b) a2 I (by rw[qb,show fQ a+-fQ b=fQ a-fQ b by grind,F,D];grind);have ed:=gS a (fN b) a2 I U;rw[qb,show fQ a+-fQ b=fQ a-fQ b by grind]at ed;have fg:ah (aV b (fN a))=true:=gy b (fN a) L H (by rw[qa,show fQ b+-fQ a= -(fQ a-fQ b) by grind,ki,F,D];grind);have Z:=gS b (fN a) L H fg;rw[qa,show fQ b+-fQ a=fQ b-fQ a by grind]at Z;have kD:ab (fQ b-fQ a)=ab (fQ a-fQ b):=rp _ _;have ld:=aw (fQ d-(fQ a-fQ b));have lD:=aw (fQ a-fQ b);have aa:9007199254740992*ab (fQ d-(fQ a-fQ b))<=ab (fQ a-fQ b):=ed;have dd:=bP (x:=fQ d) (y:=ab (fQ d-(fQ a-fQ b))+ab (fQ a-fQ b)) (by grind) (by grind);have a3:=bP (x:=fQ a-fQ b) (y:=ab (fQ d-(fQ a-fQ b))+ab (fQ d)) (by have:=aw (fQ d);grind) (by have:=aw (fQ d);grind);have J:fQ (bM (a::l))<=2*ab (fQ d):=by rw[F,D]at*;grind
 have a4:ab (fQ d)<=p2 310:=by rw[F,D]at*;grind
 have k0:fK d≠0:=fun e=>by
  have:=bf d e;rw[this]at J;unfold ab at J
  grind
 have dl:d<18446744073709551616:=jc a (fN b) N (iY b G);obtain⟨q1,q2⟩:=wM d dl U k0 l (fun x hx=>by
  obtain⟨x1,x2⟩:=h.1 x (List.mem_cons_of_mem _ hx);have x4:=n7 x (List.mem_cons_of_mem _ hx);refine⟨x1,x2,by grind⟩)
 --tau
 have gl:aV b (fN a)<18446744073709551616:=jc b (fN a) G (iY a N);have lg:=aw (fQ (aV b (fN a))-(fQ b-fQ a));have lG:=aw (fQ b-fQ a);have gg:=bP (x:=fQ (aV b (fN a))) (y:=ab (fQ (aV b (fN a))-(fQ b-fQ a))+ab (fQ b-fQ a)) (by grind) (by grind);have ae:=bP (x:=fQ a-fQ b) (y:=ab (fQ (aV b (fN a))-(fQ b-fQ a))+ab (fQ (aV b (fN a)))) (by have:=aw (fQ (aV b (fN a)));grind) (by have:=aw (fQ (aV b (fN a)));grind);have am:=Z;rw[kD,F,D]at am;rw[kD,F,D]at gg;rw[F,D]at ae;have K:fQ (bM (a::l))<=2*ab (fQ (aV b (fN a))):=by
  generalize ab (fQ (aV b (fN a))-(fQ b-fQ a))=z at*
  grind
 have a5:ab (fQ (aV b (fN a)))<=4*fQ (bM (a::l)):=by
  generalize ab (fQ (aV b (fN a))-(fQ b-fQ a))=z at*
  grind
 have g0:fK (aV b (fN a))≠0:=fun e=>by
  have:=bf _ e;rw[this]at K;unfold ab at K
  grind
 have aI:=av (-1075);obtain⟨n8,_,_⟩:=dg;obtain⟨t1,t2⟩:=wI (aV b (fN a)) b gl G fg L g0 b0 (by rw[D];grind) (by
  rw[D];have ap:1267650600228229401496703205376*(4*p2 (-1075))<=2:=by
   have e1:=aq (show(102+-1075:Int)<=1 by decide);rw[bR,show(102:Int)=((102:Nat):Int) by rfl,cN,NH]at e1;have:((2^102:Nat):Rat)=5070602400912917605986812821504:=rfl;rw[this]at e1
   grind
  have:=Rat.mul_le_mul_of_nonneg_left ap (Rat.le_of_lt M)
  grind)
 have es:aL (a::l)=fQ a*fQ a+aL l:=rfl;rw[es]at n4;have ax:9007199254740992*ab (fQ b*fQ b-(fQ a*fQ a+aL l))<=135*(fQ a*fQ a+aL l):=by
  have:fQ b*fQ b=fQ (bM (a::l))*fQ (bM (a::l)):=by
   rcases O with⟨e,_⟩|⟨e,_⟩<;>rw[e]<;>grind
  rw[this];exact n4
 obtain⟨m1,m2⟩:=rz (fQ a) (fQ b) (aL l) (fQ t) (fQ (aV b (fN a))) (bW l) (by rw[D];exact M) F ax Z t2;exact⟨U,t1,q2,q1,aa,F,D,m1,m2⟩
theorem IK(a b d t:Nat)(D F:H3)(hl:(a::D).length<=64)(h:ky 300 (a::D))(h0:bT 0 (a::D)≠0)(hb:b<18446744073709551616)(fb:ah b=true)(b0:fK b≠0)
  (hs:(fQ b=fQ (bM (a::D))/\fQ a<=0)\/(fQ b= -fQ (bM (a::D))/\0<=fQ a)) (hd:d=aV a (fN b)) (ht:t=dV (aV b (fN a)) b) (hv:F=D.map (fun x=>dV x d)):
  ah t=true/\1000*ab (fQ t)<=2001/\9007199254740992*fQ t<=18014398509481984+200/\9007199254740992<=9007199254740992*fQ t+5/\
  (∀v∈4607182418800017408::F,ah v=true/\1000*ab (fQ v)<=1001)/\8796093022208*ab (fQ t*aL (4607182418800017408::F)-2)<=1/\
  iA (fQ d) (18014398509481984*(p2 (-1075)*ab (fQ d))) F D/\9007199254740992*ab (fQ d-(fQ a-fQ b))<=ab (fQ a-fQ b)/\ab (fQ a-fQ b)=ab (fQ a)+ab (fQ b)/\ab (fQ b)=fQ (bM (a::D))/\
  9007199254740992*ab (fQ t*(fQ a+cG F D)-(fQ a-fQ b))<=300*ab (fQ a-fQ b):=by
 obtain⟨m1,m2,m3,O,Q,m6,m7,m8,m9⟩:=vr a b D hl h h0 hb fb b0 hs;rw[<-hd]at m1 m3 O Q;rw[<-ht]at m2 m8;rw[<-hv]at m3 O;obtain⟨n1,n2,n3,n4,n5,n6,n7⟩:=uf (a::D) hl h h0;have es:aL (a::D)=fQ a*fQ a+aL D:=rfl;rw[es]at n4;have I:9007199254740992*ab (fQ b*fQ b-(fQ a*fQ a+aL D))<=135*(fQ a*fQ a+aL D):=by
  have:fQ b*fQ b=fQ (bM (a::D))*fQ (bM (a::D)):=by
   rcases hs with⟨e,_⟩|⟨e,_⟩<;>rw[e]<;>grind
  rw[this];exact n4
 have J:(0<fQ b/\fQ a<=0)\/(fQ b<0/\0<=fQ a):=by
  rcases hs with⟨e,g⟩|⟨e,g⟩
  ·exact .inl ⟨by rw[e];exact n1,g⟩
  ·exact .inr ⟨by rw[e];grind,g⟩
 --the absolute errors are small
 have am:D.length<=64:=by rw[List.length_cons]at hl;omega
 have ap:(D.length:Rat)<=64:=Rat.natCast_le_natCast.2 am;have ax:ab (fQ d)<=3*fQ (bM (a::D)):=by
  have t:=bP (x:=fQ d) (y:=ab (fQ d-(fQ a-fQ b))+ab (fQ a-fQ b)) (by have:=aw (fQ d-(fQ a-fQ b));have:=aw (fQ a-fQ b);grind) (by have:=aw (fQ d-(fQ a-fQ b));have:=aw (fQ a-fQ b);grind);have ha:=n7 a List.mem_cons_self;have L:=Q;rw[m6,m7]at L t;generalize ab (fQ d-(fQ a-fQ b))=z at*
  grind
 obtain⟨κ,G⟩:∃κ,18014398509481984*(p2 (-1075)*ab (fQ d))=κ:=⟨_,rfl⟩;have N:0<=κ:=by
  rw[<-G];have:=Rat.mul_nonneg (Rat.le_of_lt (av (-1075))) (bK (fQ d))
  grind
 have Z:17592186044416*κ<=fQ (bM (a::D)):=by
  obtain⟨q1,q2,q3⟩:=dg;have m:=Rat.mul_le_mul_of_nonneg_left q1 (bK (fQ d));rw[<-G];have e:ab (fQ d)*(1267650600228229401496703205376*p2 (-1075))=1267650600228229401496703205376*(p2 (-1075)*ab (fQ d)):=by grind
  rw[e]at m;have z0:=Rat.mul_nonneg (Rat.le_of_lt q2) (bK (fQ d));generalize p2 (-1075)*ab (fQ d)=K at*
  grind
 rw[G]at O⊢;obtain⟨μ,U⟩:∃μ,fQ (bM (a::D))=μ:=⟨_,rfl⟩;have E1:∀x∈D,4*(ab (fQ x)*κ)+4*(κ*κ)<=μ*μ*(1/1000):=fun x hx=>by
  have aI:=n7 x (List.mem_cons_of_mem _ hx);rw[U]at aI Z;have x0:=bK (fQ x);have μ0:0<=μ:=by rw[<-U];exact Rat.le_of_lt n1
  have a1:=Rat.mul_nonneg (show 0<=μ-17592186044416*κ by grind) x0;have a2:=Rat.mul_nonneg (show 0<=1000001*μ-1000000*ab (fQ x) by grind) μ0;have a3:=Rat.mul_nonneg (show 0<=μ-17592186044416*κ by grind) N;have a4:=Rat.mul_nonneg (show 0<=μ-17592186044416*κ by grind) μ0;have a5:=ak μ;have e1:ab (fQ x)*κ=κ*ab (fQ x):=Rat.mul_comm _ _;generalize ab (fQ x)=X at*
  grind
 obtain⟨ba,bb⟩:=wK (fQ d) κ (μ*μ*(1/1000)) N F D O E1;have a6:(D.length:Rat)*(μ*μ*(1/1000))<=fQ a*fQ a+aL D:=by
  have l:=aw (fQ (bM (a::D))*fQ (bM (a::D))-(fQ a*fQ a+aL D));rw[U]at l n4;have q:=ak μ;have m:=Rat.mul_nonneg (show 0<=64-(D.length:Rat) by grind) (show 0<=μ*μ*(1/1000) by grind);have S0:0<=fQ a*fQ a+aL D:=by have:=ak (fQ a);have:=bW D;grind
  generalize fQ a*fQ a+aL D=S at*;generalize ab (μ*μ-S)=z at*;generalize μ*μ=M at*
  grind
 have s1:9007199254740992*ab (aL F*(fQ d*fQ d)-aL D)<=5*aL D+(fQ a*fQ a+aL D):=by grind
 have s2:9007199254740992*ab (cG F D*fQ d-aL D)<=2*aL D+(fQ a*fQ a+aL D):=by grind
 clear ba bb E1;obtain⟨k1,k2,k3⟩:=nR (fQ a) (fQ b) (aL D) (fQ d) (fQ t) (aL F) (bW D) J I Q m8 m9 s1;have aa:1000*ab (fQ t)<=2001:=by rw[aQ (by grind)];grind
 have ae:=pp (fQ a) (fQ b) (aL D) (fQ d) (fQ t) (cG F D) (bW D) J I Q m8 m9 s2 aa;have a7:1000000*fQ (bM (a::D))<=1000001*ab (fQ d):=by
  have l:=aw (fQ d-(fQ a-fQ b));have l2:=aw (fQ d);have t:=bP (x:=fQ a-fQ b) (y:=ab (fQ d-(fQ a-fQ b))+ab (fQ d)) (by grind) (by grind);have a0:=bK (fQ a);have L:=Q;rw[m6,m7]at L t;clear l l2 J hs n7 h m3 ae k1 s1 s2 n4 I Q m8 O hl h0 a6 Z N G ax ap;generalize ab (fQ d-(fQ a-fQ b))=z at*
  grind
 have a9:=rA (fQ d) _ κ n1 (by grind) a7 F D O (fun x hx=>n7 x (List.mem_cons_of_mem _ hx));refine⟨m2,aa,k2,k3,?_,?_,O,Q,m6,m7,ae⟩
 ·intro v H
  rcases List.mem_cons.1 H with rfl|H
  ·rw[jx]
   exact⟨by decide,by unfold ab;grind⟩
  ·exact⟨m3 v H,a9 v H⟩
 ·have e:aL (4607182418800017408::F)=1+aL F:=by
   show fQ 4607182418800017408*fQ 4607182418800017408+aL F=_;rw[jx]
   grind
  rw[e];exact k1
theorem vt(a b d t:Nat)(D vs:H3)(hl:(a::D).length<=64)(G:∀x∈a::D,x<18446744073709551616/\ah x=true/\ab (fQ x)<=p2 300)(h0:bT 0 (a::D)≠0)(K:b<18446744073709551616)(Z:ah b=true)
  (L:(fQ b=fQ (bM (a::D))/\fQ a<=0)\/(fQ b= -fQ (bM (a::D))/\0<=fQ a)) (hd:d=aV a (fN b)) (ht:t=dV (aV b (fN a)) b) (hv:vs=D.map (fun x=>dV x d)):
  ah d=true/\ah t=true/\1000*ab (fQ t)<=2001/\(∀v∈vs,ah v=true/\1000*ab (fQ v)<=1001)/\ab (fQ b)<=p2 306:=by
 obtain⟨k,J⟩:∃k,eX (bT 0 (a::D))=k:=⟨_,rfl⟩;have hT:ky (k.natAbs+1) (a::D):=⟨fun x h=>⟨(G x h).1,(G x h).2.1⟩,.inr ⟨by rw[J];omega,by rw[J];omega⟩⟩;obtain⟨b1,b2,b3,b4,b5,b6,b7,b8,y,hy,b9,aI⟩:=ii _ (a::D) hT h0;have hM:=iN _ (by omega) b2 b3;rw[J,aQ (iM _ b4)]at hM;have N:=(G y hy).2.2;rw[b9]at N;have k1:k<=300:=sr (Rat.le_trans hM.1 N);obtain⟨_,up⟩:=nd _ (a::D) hl hT h0 (by rw[J];omega);have ge:=yf _ (a::D) hl hT h0 (by rw[J];omega);rw[J]at up;have pk:=av k;have M0:0<fQ (bT 0 (a::D)):=by grind
 have H:0<fQ (bM (a::D)):=by grind
 have I:ab (fQ b)=fQ (bM (a::D)):=by
  rcases L with⟨e,_⟩|⟨e,_⟩<;>rw[e]
  ·exact aQ (Rat.le_of_lt H)
  ·unfold ab;grind
 have hx:∀x∈a::D,1000000*ab (fQ x)<=1000001*ab (fQ b):=fun x h=>by
  have:=b7 x h;rw[I]
  grind
 have hD:ab (fQ a-fQ b)=ab (fQ a)+ab (fQ b):=by
  rcases L with⟨e,g⟩|⟨e,g⟩<;>rw[e]<;>unfold ab<;>grind
 have F:ab (fQ b-fQ a)=ab (fQ a)+ab (fQ b):=by
  rcases L with⟨e,g⟩|⟨e,g⟩<;>rw[e]<;>unfold ab<;>grind
 have aa:ab (fQ b)<=p2 306:=by
  rw[I];rw[aQ (Rat.le_of_lt H)]at up;have h1:=aq k1;have h2:=aq (show(-1074:Int)<=300 by decide);have h3:=aq (show(300+1+1+1+1+1:Int)<=306 by decide);simp only[bu]at h3
  grind
 have ae:8*p2 306<=p2 1023/\0<p2 306:=by
  have h3:=aq (show(306+1+1+1:Int)<=1023 by decide);simp only[bu]at h3;exact⟨by grind,av _⟩
 obtain⟨a1,a2,a3⟩:=G a List.mem_cons_self;have ha:=hx a List.mem_cons_self;have a0:=bK (fQ a);have bp:0<ab (fQ b):=by rw[I];exact H
 have O:ah (fN b)=true:=by rw[gu _ K];exact Z
 have Q:ah (fN a)=true:=by rw[gu _ a1];exact a2
 have qb:=jR _ K;have qa:=jR _ a1;have fd:ah d=true:=by
  rw[hd];refine gy a (fN b) a2 O ?_;rw[qb,show fQ a+-fQ b=fQ a-fQ b by grind,hD]
  grind
 have ed:9007199254740992*ab (fQ d-(fQ a-fQ b))<=ab (fQ a-fQ b):=by
  have e:=gS a (fN b) a2 O (by rw[<-hd];exact fd);rw[qb,show fQ a+-fQ b=fQ a-fQ b by grind,<-hd]at e;exact e
 have am:1000000*ab (fQ b)<=1000001*ab (fQ d):=by
  have l:=aw (fQ d-(fQ a-fQ b));have l2:=aw (fQ d);have tt:=bP (x:=fQ a-fQ b) (y:=ab (fQ d-(fQ a-fQ b))+ab (fQ d)) (by grind) (by grind);rw[hD]at ed tt;clear l l2;generalize ab (fQ d-(fQ a-fQ b))=z at*;clear L hD F hx G up ge
  grind
 have fs:ah (aV b (fN a))=true:=by
  refine gy b (fN a) Z Q ?_;rw[qa,show fQ b+-fQ a=fQ b-fQ a by grind,F]
  grind
 have ap:1000000*ab (fQ (aV b (fN a)))<=2000002*ab (fQ b):=by
  have e:=gS b (fN a) Z Q fs;rw[qa,show fQ b+-fQ a=fQ b-fQ a by grind]at e;have l:=aw (fQ (aV b (fN a))-(fQ b-fQ a));have l2:=aw (fQ b-fQ a);have tt:=bP (x:=fQ (aV b (fN a))) (y:=ab (fQ (aV b (fN a))-(fQ b-fQ a))+ab (fQ b-fQ a)) (by grind) (by grind);rw[F]at e tt;clear l l2;generalize ab (fQ (aV b (fN a))-(fQ b-fQ a))=z at*;clear L hD F hx G up ge
  grind
 obtain⟨t1,t2⟩:=yg (aV b (fN a)) b (2000002/1000000) (jc _ _ K (iY _ a1)) K fs Z bp (by grind) (by grind) (by grind);rw[<-ht]at t1 t2;refine⟨fd,t1,by grind,fun v M=>?_,aa⟩;rw[hv]at M;obtain⟨x,U,rfl⟩:=List.mem_map.1 M;obtain⟨x1,x2,_⟩:=G x (List.mem_cons_of_mem _ U);have ax:=hx x (List.mem_cons_of_mem _ U);have dl:d<18446744073709551616:=by rw[hd];exact jc _ _ a1 (iY _ K)
 obtain⟨v1,v2⟩:=yg x d (1000003/1000000) x1 dl x2 fd (by grind) (by grind) (by grind) (by grind);exact⟨v1,by grind⟩
def gh(Z:Rat)(xs:H3):Prop:=∀x∈xs,x<18446744073709551616/\ah x=true/\ab (fQ x)<=Z
theorem gh.mono{Z Y:Rat}{t:H3}(h:gh Z t)(D:Z<=Y):gh Y t:=fun x l=>⟨(h x l).1,(h x l).2.1,Rat.le_trans (h x l).2.2 D⟩
theorem gh.drop{Z:Rat}{l:H3}(h:gh Z l)(k:Nat):gh Z (l.drop k):=fun x t=>h x (List.mem_of_mem_drop t)
theorem AC(e:Int):p2 (e+e)=p2 e*p2 e:=bR e e
theorem kv(e:Int)(k:Nat):p2 (e+k)=((2^k:Nat):Rat)*p2 e:=by rw[bR,cN,Rat.mul_comm]
theorem Ec{h:H3}(l:bT 0 h=0):bM h=0:=by unfold bM;rw[if_pos (.inl l)];exact l
theorem AD{l:H3}(h:∀x∈l,fQ x=0):aL l=0:=by
 induction l with
 |nil=>rfl
 |cons x l ih=>
  show fQ x*fQ x+aL l=0;rw[h x List.mem_cons_self,ih (fun y t=>h y (List.mem_cons_of_mem _ t))]
  grind
theorem Ie(l:H3)(O:l.length<=6)(I:gh (p2 300) l):
  ah (bM l)=true/\0<=fQ (bM l)/\9007199254740992*ab (fQ (bM l)*fQ (bM l)-aL l)<=135*aL l+p2 (-1700)/\∀x∈l,1000*ab (fQ x)<=1001*fQ (bM l):=by
 have P0:=av (-1700);have t:l.length<=64:=by omega
 by_cases F:bT 0 l=0
 ·have e:=Ec F
  have z:=P7 l (fun x h=>(I x h).2.1) F;rw[e,jk,AD z];refine⟨by decide,Rat.le_refl,?_,fun x h=>?_⟩
  ·have:(0:Rat)*0-0=0:=by grind
   rw[this];unfold ab
   grind
  ·rw[z x h]
   unfold ab
   grind
 ·obtain⟨k,D⟩:∃k,eX (bT 0 l)=k:=⟨_,rfl⟩
  have J:ky (k.natAbs+1) l:=⟨fun x h=>⟨(I x h).1,(I x h).2.1⟩,.inr ⟨by rw[D];omega,by rw[D];omega⟩⟩;obtain⟨b1,b2,b3,b4,b5,b6,N,b8,y,hy,b9,ae⟩:=ii _ l J F;have K:=iN _ (by omega) b2 b3;rw[D,aQ (iM _ b4)]at K;have G:=(I y hy).2.2;rw[b9]at G;have k1:k<=300:=sr (Rat.le_trans K.1 G);obtain⟨nf,up⟩:=nd _ l t J F (by rw[D];omega);have ge:=yf _ l t J F (by rw[D];omega);rw[D]at up;have pk:=av k;have H:0<fQ (bM l):=by grind
  refine⟨nf,Rat.le_of_lt H,?_,fun x h=>by have:=N x h;grind⟩;rcases Int.lt_or_le k (-899)with g|g
  ·--tiny
   rw[aQ (Rat.le_of_lt H)]at up;have hk:=aq (show k<=-900 by omega);have q1:p2 (-1074)<=p2 (-900):=aq (by decide);have Q:p2 (-1700)=1267650600228229401496703205376*(p2 (-900)*p2 (-900)):=by
    rw[<-AC,show(-1700:Int)=(-900+-900)+((100:Nat):Int) by rfl,kv];rfl
   have Q0:=av (-900);have U:fQ (bM l)<=18*p2 (-900):=by grind
   have Z:aL l<=6*(2*p2 (-900)*(2*p2 (-900))):=by
    have h1:=qg (2*p2 (-900)) l (fun x h=>by have:=N x h;rw[bu]at K;grind);have aa:(l.length:Rat)<=6:=Rat.natCast_le_natCast.2 O;have:=Rat.mul_nonneg (show 0<=6-(l.length:Rat) by grind) (ak (2*p2 (-900)))
    grind
   have S0:=bW l;have L:fQ (bM l)*fQ (bM l)<=324*(p2 (-900)*p2 (-900)):=by
    have:=Rat.mul_nonneg (show 0<=18*p2 (-900)-fQ (bM l) by grind) (show 0<=18*p2 (-900)+fQ (bM l) by grind)
    grind
   have N0:=ak (fQ (bM l));have R0:=ak (p2 (-900));rw[Q];have e2:6*(2*p2 (-900)*(2*p2 (-900)))=24*(p2 (-900)*p2 (-900)):=by grind
   rw[e2]at Z;generalize fQ (bM l)*fQ (bM l)=NN at*;generalize p2 (-900)*p2 (-900)=RR at*;generalize aL l=SS at*;have:=bP (x:=NN-SS) (y:=348*RR) (by grind) (by grind)
   grind
  ·have M:ky 900 l:=⟨J.1,.inr ⟨by rw[D];omega,by rw[D];omega⟩⟩
   obtain⟨_,_,_,n4⟩:=mR 900 (by decide) l t M F
   grind
theorem ji(X:H3)(G:X.length<=6)(t:gh (p2 300) X):
  GX X=true/\ah (kA X)=true/\1000*ab (fQ (kA X))<=2001/\(∀v∈kt X,ah v=true/\1000*ab (fQ v)<=1001)/\(X≠ []->(fQ (mX X)*fQ (mX X)=fQ (bM X)*fQ (bM X)\/fQ (mX X)*fQ (mX X)=aL X))/\ah (mX X)=true:=by
 match X,G,t with
 | [],_,_=>exact⟨rfl,by decide,by rw[show kA []=0 from rfl,jk];unfold ab;grind,(fun v l=>by cases l),fun h=>absurd rfl h,by decide⟩
 |a::xs,G,t=>
  obtain⟨N,n0,n1,n2⟩:=Ie (a::xs) G t
  cases hn:mf xs with
  |true=>
   have H:kA (a::xs)=0:=if_pos hn;have I:mX (a::xs)=a:=if_pos hn;have J:GX (a::xs)=true:=by show(mf xs||_)=true;rw[hn];rfl
   rw[H,I,J];refine⟨rfl,by decide,by rw[jk];unfold ab;grind,fun v l=>?_,fun _=>.inr ?_,(t a List.mem_cons_self).2.1⟩
   ·rcases List.mem_cons.1 l with rfl|l
    ·rw[jx];exact⟨by decide,by unfold ab;grind⟩
    ·obtain⟨x,_,rfl⟩:=List.mem_map.1 l
     rw[if_pos hn,jk];exact⟨by decide,by unfold ab;grind⟩
   ·show _=fQ a*fQ a+aL xs
    rw[Li hn];grind
  |false=>
   have Q:bT 0 (a::xs)≠0:=by
    intro e;have k:=P7 (a::xs) (fun x h=>(t x h).2.1) e;have:mf xs=true:=List.all_eq_true.2 (fun x F=>decide_eq_true (BG (t x (List.mem_cons_of_mem _ F)).1 (t x (List.mem_cons_of_mem _ F)).2.1 (k x (List.mem_cons_of_mem _ F))));rw[this]at hn
    cases hn
   have M:=rP (a::xs);obtain⟨U,Z⟩:=BH a xs;have K:ah (g9 a xs)=true/\((fQ (g9 a xs)=fQ (bM (a::xs))/\fQ a<=0)\/(fQ (g9 a xs)= -fQ (bM (a::xs))/\0<=fQ a)):=by
    unfold g9
    by_cases e:uX (a::xs)=true
    ·rw[if_pos e];exact⟨N,.inl ⟨rfl,U e⟩⟩
    ·rw[if_neg e]
     exact⟨(gu _ M).trans N,.inr ⟨jR _ M,Z (by simpa using e)⟩⟩
   obtain⟨L,O⟩:=K;obtain⟨c1,c2,c3,c4,_⟩:=vt a (g9 a xs) (mw a xs) (dV (aV (g9 a xs) (fN a)) (g9 a xs)) xs (xs.map (fun x=>dV x (mw a xs))) (by omega) t Q (jg a xs) L O rfl rfl rfl;have D:¬mf xs=true:=by rw[hn];decide
   have H:kA (a::xs)=dV (aV (g9 a xs) (fN a)) (g9 a xs):=if_neg D;have I:mX (a::xs)=g9 a xs:=if_neg D;have J:GX (a::xs)=true:=by show(mf xs||(ah (g9 a xs)&&ah (mw a xs)))=true;rw[L,c1,Bool.and_self,Bool.or_true]
   rw[H,I,J];refine⟨rfl,c2,c3,fun v l=>?_,fun _=>.inl ?_,L⟩
   ·rcases List.mem_cons.1 l with rfl|l
    ·rw[jx];exact⟨by decide,by unfold ab;grind⟩
    ·obtain⟨x,F,rfl⟩:=List.mem_map.1 l
     rw[if_neg D];exact c4 _ (List.mem_map.2 ⟨x,F,rfl⟩)
   ·rcases O with⟨e,_⟩|⟨e,_⟩<;>rw[e]<;>grind
theorem nh(n:Nat)(δ:Rat)(m:(Nat->Rat)×Rat):∀(ms:List ((Nat->Rat)×Rat)) (y u z:Nat->Rat),jT n δ ms y u->(∀a,Bd n u a->Bd n (fun i=>z i+(-1)*eH n m.1 m.2 u i) (δ*a))->jT n δ (ms++[m]) y z:=by
 intro ms
 induction ms with
 |nil=>
  intro y u z l t;have h:∀i,i<n->y i=u i:=l;refine⟨z,fun a D=>?_,fun i _=>rfl⟩;refine(t a (D.congr h)).congr (fun i F=>?_);rw[tW h i F]
 |cons p ms ih=>
  intro y u z l t;obtain⟨w,G,H⟩:=l;exact⟨w,G,ih w u z H t⟩
theorem mh(n:Nat)(δ:Rat):∀(ms:List ((Nat->Rat)×Rat)) (y u z:Nat->Rat),jT n δ ms y u->(∀i,i<n->u i=z i)->jT n δ ms y z:=by
 intro ms
 induction ms with
 |nil=>intro y u z h l i t;rw[h i t,l i t]
 |cons p ms ih=>
  intro y u z h l;obtain⟨w,D,F⟩:=h;exact⟨w,D,ih w u z F l⟩
theorem su(n:Nat):∀(ms h:List ((Nat->Rat)×Rat)) (y:Nat->Rat),bB n (ms++h) y=bB n h (bB n ms y):=by
 intro ms
 induction ms with
 |nil=>intro h y;rfl
 |cons m ms ih=>intro h y;exact ih h _
theorem yh(n:Nat):∀(ms:List ((Nat->Rat)×Rat)) (y:Nat->Rat),bB n ms.reverse y=kS n ms y:=by
 intro ms
 induction ms with
 |nil=>intro y;rfl
 |cons m ms ih=>
  intro y;rw[List.reverse_cons,su,ih];rfl
theorem yi(m:Nat):∃s,s*s<=m/\m<(s+1)*(s+1):=by
 induction m with
 |zero=>exact⟨0,by omega,by omega⟩
 |succ m ih=>
  obtain⟨s,l,t⟩:=ih
  by_cases h:(s+1)*(s+1)<=m+1
  ·refine⟨s+1,h,?_⟩
   have e:(s+1+1)*(s+1+1)=(s+1)*(s+1)+2*(s+1)+1:=by grind
   omega
  ·exact⟨s,by omega,by omega⟩
theorem ug(Y:Rat)(h:0<Y):∃a:Rat,0<=a/\Y<=a*a/\a*a<=4*Y:=by
 obtain⟨p,q,H,O,e⟩:∃p q:Nat,0<q/\0<p/\Y*(q:Rat)=(p:Rat):=by
  have U:0<Y.num:=by
   have Z:=Rat.num_nonneg.2 (Rat.le_of_lt h);have t:Y.num≠0:=fun e=>by have:=Rat.num_eq_zero.1 e;grind
   omega
  refine⟨Y.num.toNat,Y.den,Y.den_pos,by omega,?_⟩;have l:((Y.num.toNat:Nat):Rat)=((Y.num:Int):Rat):=by
   have:((Y.num.toNat:Nat):Int)=Y.num:=by omega
   rw[<-this];rfl
  rw[l];have k:=Rat.mkRat_self Y;have t:=Rat.mkRat_eq_div Y.num Y.den;rw[k]at t;have I:((Y.den:Nat):Rat)≠0:=fun e=>by
   have:=Rat.natCast_pos.2 Y.den_pos
   grind
  have J:Y*(Y.den:Rat)=(Y.num:Rat)/(Y.den:Rat)*(Y.den:Rat):=congrArg (·*(Y.den:Rat)) t;rw[J];exact Rat.div_mul_cancel I
 obtain⟨s,h1,h2⟩:=yi (p*q);have D:0<(q:Rat):=Rat.natCast_pos.2 H;have s1:1<=s:=by
  rcases Nat.eq_zero_or_pos s with g|g
  ·subst g
   have:1<=p*q:=Nat.mul_pos O H;omega
  ·exact g
 have h3:(s+1)*(s+1)<=4*(s*s):=by
  have:s<=s*s:=Nat.le_mul_self s;have e:(s+1)*(s+1)=s*s+2*s+1:=by grind
  omega
 have K:((p:Nat):Rat)*q<=((s:Rat)+1)*(s+1):=by
  have k:((p*q:Nat):Rat)<=(((s+1)*(s+1):Nat):Rat):=Rat.natCast_le_natCast.2 (by omega);rw[Rat.natCast_mul,Rat.natCast_mul,Rat.natCast_add]at k;exact k
 have L:((s:Rat)+1)*(s+1)<=4*((p:Rat)*q):=by
  have k:(((s+1)*(s+1):Nat):Rat)<=((4*(p*q):Nat):Rat):=Rat.natCast_le_natCast.2 (by omega);rw[Rat.natCast_mul,Rat.natCast_mul,Rat.natCast_mul,Rat.natCast_add]at k;exact k
 obtain⟨a,Q⟩:∃a:Rat,a*q=(s:Rat)+1:=⟨((s:Rat)+1)/q,Rat.div_mul_cancel (by grind)⟩;have M:(0:Rat)<=(s:Rat):=Rat.natCast_nonneg;have N:0<=a:=by
  rcases Rat.le_total (a:=0) (b:=a)with g|g
  ·exact g
  ·exfalso
   have:=Rat.mul_le_mul_of_nonneg_left g (Rat.le_of_lt D)
   grind
 have F:=Rat.mul_pos D D;have l:(a*a)*((q:Rat)*q)=((s:Rat)+1)*(s+1):=by rw[<-Q];grind
 have G:Y*((q:Rat)*q)=(p:Rat)*q:=by rw[<-e];grind
 refine⟨a,N,?_,?_⟩
 ·refine Rat.le_of_mul_le_mul_right (c:=(q:Rat)*q) ?_ F
  rw[l,G];exact K
 ·refine Rat.le_of_mul_le_mul_right (c:=(q:Rat)*q) ?_ F
  rw[l,show 4*Y*((q:Rat)*q)=4*(Y*((q:Rat)*q)) by grind,G];exact L
theorem Bj.sq{n:Nat}{v:Nat->Rat}{t ε:Rat}(h:Bj n v t ε)(y:Nat->Rat):ab (dt n (eH n v t y) (eH n v t y)-dt n y y)<=12*(ε*dt n y y):=by
 have F:=je n y;rw[Bg];rw[show dt n y y+t*(t*dt n v v-2)*(dt n v y*dt n v y)-dt n y y=t*(t*dt n v v-2)*(dt n v y*dt n v y) by grind];rcases Rat.le_iff_lt_or_eq.1 F with g|g
 ·obtain⟨a,l,D,G⟩:=ug _ g
  have k:=h.near (y:=y) (z:=y) (a:=a) (b:=a) ⟨l,D⟩ ⟨l,D⟩;have m:=Rat.mul_le_mul_of_nonneg_left G h.eps
  grind
 ·have k:=h.near (y:=y) (z:=y) (a:=0) (b:=0) ⟨by grind,by rw[<-g];grind⟩ ⟨by grind,by rw[<-g];grind⟩
  rw[<-g]
  grind
theorem Ig{n:Nat}{v:Nat->Rat}{t ε δ:Rat}{y u:Nat->Rat}(h:Bj n v t ε)(Z:1000*ε<=1)(D:0<=δ)(hδ:1000*δ<=1)(H:∀a,Bd n y a->Bd n (fun i=>u i+(-1)*eH n v t y i) (δ*a))(b:Rat)(F:Bd n u b):Bd n y (2*b):=by
 have b0:=F.1;have I:=je n y;refine⟨by grind,?_⟩;rcases Rat.le_iff_lt_or_eq.1 I with g|g
 ·obtain⟨a,U,a1,a2⟩:=ug _ g
  have J:=H a ⟨U,a1⟩;have G:Bd n (eH n v t y) (b+ab (-1)*(δ*a)):=(F.add (J.mul (-1))).congr (fun i _=>by grind);have e1:ab (-1:Rat)=1:=by unfold ab;grind
  rw[e1,Rat.one_mul]at G;have k:=G.2;have q:=h.sq y;have l:=aw (dt n (eH n v t y) (eH n v t y)-dt n y y);have d0:=Rat.mul_nonneg D U;have s1:=ak (b-δ*a);have m1:=Rat.mul_nonneg (Rat.mul_nonneg D (show 0<=1-1000*δ by grind)) (ak a);have m2:=Rat.mul_nonneg (show 0<=1-1000*δ by grind) (ak a);have m3:=Rat.mul_nonneg (show 0<=1-1000*ε by grind) I;have m4:=ak b;have K:(b-δ*a)*(b-δ*a)=b*b-2*(b*(δ*a))+δ*a*(δ*a):=by grind
  have L:(b+δ*a)*(b+δ*a)=b*b+2*(b*(δ*a))+δ*a*(δ*a):=by grind
  have M:δ*(1-1000*δ)*(a*a)=δ*(a*a)-1000*(δ*a*(δ*a)):=by grind
  have N:(1-1000*δ)*(a*a)=a*a-1000*(δ*(a*a)):=by grind
  have O:(1-1000*ε)*dt n y y=dt n y y-1000*(ε*dt n y y):=by grind
  rw[K]at s1;rw[L]at k;rw[M]at m1;rw[N]at m2;rw[O]at m3;have Q:2*b*(2*b)=4*(b*b):=by grind
  rw[Q];generalize δ*a*(δ*a)=z1 at*;generalize b*(δ*a)=z2 at*;generalize δ*(a*a)=z3 at*;generalize ε*dt n y y=z4 at*;generalize ab (dt n (eH n v t y) (eH n v t y)-dt n y y)=z5 at*;generalize dt n (eH n v t y) (eH n v t y)=z6 at*;generalize dt n y y=Y at*;generalize a*a=A at*;generalize b*b=B at*;clear K L M N O Q G J H F h
  grind
 ·rw[<-g]
  have:=ak b
  grind
theorem uh{n:Nat}{ε δ:Rat}(l:1000*ε<=1)(h:0<=δ)(t:1000*δ<=1):∀(ms:List ((Nat->Rat)×Rat)) (y z:Nat->Rat) (b:Rat),kl n ε ms->jT n δ ms y z->Bd n z b->Bd n y (p2 ms.length*b):=by
 intro ms
 induction ms with
 |nil=>
  intro y z b _ D F;have e:p2 (([]:List ((Nat->Rat)×Rat)).length:Int)=1:=oR;rw[e,Rat.one_mul];exact F.congr (fun i H=>(D i H).symm)
 |cons m ms ih=>
  intro y z b G D F;obtain⟨u,K,L⟩:=D;have k:=ih u z b (fun p I=>G p (List.mem_cons_of_mem _ I)) L F;have J:=Ig (G m List.mem_cons_self) l h t K _ k;have e:p2 ((m::ms).length:Int)=2*p2 (ms.length:Int):=by
   rw[List.length_cons,show((ms.length+1:Nat):Int)=(ms.length:Int)+1 by omega,bu]
  rw[e,Rat.mul_assoc];exact J
theorem tg{n:Nat}{ε δ:Rat}:∀(ms:List ((Nat->Rat)×Rat)) (y z:Nat->Rat),kl n ε ms->jT n δ ms y z->(∀i,i<n->y i=0)->∀i,i<n->z i=0:=by
 intro ms
 induction ms with
 |nil=>intro y z _ F h i t;rw[<-F i t,h i t]
 |cons m ms ih=>
  intro y z L F h;obtain⟨u,J,K⟩:=F;refine ih u z (fun p G=>L p (List.mem_cons_of_mem _ G)) K (fun i t=>?_);have b:=J 0 ((Bd.nought n).congr (fun j D=>(h j D).symm));have k:=b.at t;have e:eH n m.1 m.2 y i=0:=by
   unfold eH;rw[h i t,show dt n m.1 y=0 from by
    have:dt n m.1 y=dt n m.1 (fun _=>0):=d8 (fun _ _=>rfl) (fun j D=>h j D);rw[this];have H:=iR n 0 (fun _=>0) m.1;have I:dt n m.1 (fun i=>(0:Rat)*(fun _=>0) i)=dt n m.1 (fun _=>0):=d8 (fun _ _=>rfl) (fun _ _=>by grind);rw[I]at H
    grind]
   grind
  have l:=aw (u i+(-1)*eH n m.1 m.2 y i);have k':ab (u i+(-1)*eH n m.1 m.2 y i)<=δ*0:=k;rw[e]at l k'
  grind
theorem Ed(Y:Rat)(h:0<Y):∃a:Rat,0<=a/\Y<=a*a/\1000*(a*a)<=1001*Y:=by
 obtain⟨p,q,H,Q,e⟩:∃p q:Nat,0<q/\0<p/\Y*(q:Rat)=(p:Rat):=by
  have Z:0<Y.num:=by
   have k1:=Rat.num_nonneg.2 (Rat.le_of_lt h);have t:Y.num≠0:=fun e=>by have:=Rat.num_eq_zero.1 e;grind
   omega
  refine⟨Y.num.toNat,Y.den,Y.den_pos,by omega,?_⟩;have l:((Y.num.toNat:Nat):Rat)=((Y.num:Int):Rat):=by
   have:((Y.num.toNat:Nat):Int)=Y.num:=by omega
   rw[<-this];rfl
  rw[l];have k:=Rat.mkRat_self Y;have t:=Rat.mkRat_eq_div Y.num Y.den;rw[k]at t;have I:((Y.den:Nat):Rat)≠0:=fun e=>by
   have:=Rat.natCast_pos.2 Y.den_pos
   grind
  have J:Y*(Y.den:Rat)=(Y.num:Rat)/(Y.den:Rat)*(Y.den:Rat):=congrArg (·*(Y.den:Rat)) t;rw[J];exact Rat.div_mul_cancel I
 obtain⟨s,h1,h2⟩:=yi (p*q*9000000);have D:0<(q:Rat):=Rat.natCast_pos.2 H;have pq:1<=p*q:=Nat.mul_pos Q H;have K:3000<=s:=by
  rcases Nat.lt_or_ge s 3000 with g|g
  ·have:(s+1)*(s+1)<=3000*3000:=Nat.mul_le_mul (by omega) (by omega)
   omega
  ·exact g
 have h3:1000*((s+1)*(s+1))<=1001*(s*s):=by
  have k:3000*s<=s*s:=Nat.mul_le_mul_right s K;have e:(s+1)*(s+1)=s*s+2*s+1:=by grind
  omega
 have L:((p:Nat):Rat)*q*9000000<=((s:Rat)+1)*(s+1):=by
  have k:((p*q*9000000:Nat):Rat)<=(((s+1)*(s+1):Nat):Rat):=Rat.natCast_le_natCast.2 (by omega);rw[Rat.natCast_mul,Rat.natCast_mul,Rat.natCast_mul,Rat.natCast_add]at k;exact k
 have M:1000*(((s:Rat)+1)*(s+1))<=1001*((p:Rat)*q*9000000):=by
  have k:((1000*((s+1)*(s+1)):Nat):Rat)<=((1001*(p*q*9000000):Nat):Rat):=Rat.natCast_le_natCast.2 (by omega);rw[Rat.natCast_mul,Rat.natCast_mul,Rat.natCast_mul,Rat.natCast_mul,Rat.natCast_mul,Rat.natCast_add]at k;exact k
 obtain⟨a,U⟩:∃a:Rat,a*(q*3000)=(s:Rat)+1:=⟨((s:Rat)+1)/(q*3000),Rat.div_mul_cancel (by grind)⟩;have N:(0:Rat)<=(s:Rat):=Rat.natCast_nonneg;have O:0<=a:=by
  rcases Rat.le_total (a:=0) (b:=a)with g|g
  ·exact g
  ·exfalso
   have:=Rat.mul_le_mul_of_nonneg_left g (Rat.le_of_lt D)
   grind
 have F:0<(q:Rat)*q*9000000:=by have:=Rat.mul_pos D D;grind
 have l:(a*a)*((q:Rat)*q*9000000)=((s:Rat)+1)*(s+1):=by rw[<-U];grind
 have G:Y*((q:Rat)*q*9000000)=(p:Rat)*q*9000000:=by rw[<-e];grind
 refine⟨a,O,?_,?_⟩
 ·refine Rat.le_of_mul_le_mul_right (c:=(q:Rat)*q*9000000) ?_ F
  rw[l,G];exact L
 ·refine Rat.le_of_mul_le_mul_right (c:=(q:Rat)*q*9000000) ?_ F
  rw[show 1000*(a*a)*((q:Rat)*q*9000000)=1000*((a*a)*((q:Rat)*q*9000000)) by grind,l,show 1001*Y*((q:Rat)*q*9000000)=1001*(Y*((q:Rat)*q*9000000)) by grind,G];exact M
theorem Me{n:Nat}{v:Nat->Rat}{t:Rat}{y:Nat->Rat}(h:dt n v y=0)(i:Nat):eH n v t y i=y i:=by
 unfold eH;rw[h]
 grind
theorem Mf(n:Nat):∀(ms:List ((Nat->Rat)×Rat)) (y:Nat->Rat),(∀m∈ms,dt n m.1 y=0)->∀i,i<n->bB n ms y i=y i:=by
 intro ms
 induction ms with
 |nil=>intro y _ i _;rfl
 |cons m ms ih=>
  intro y h i l;have e:∀i,i<n->eH n m.1 m.2 y i=y i:=fun i _=>Me (h m List.mem_cons_self) i
  show bB n ms (eH n m.1 m.2 y) i=y i;rw[jS n ms _ y e i l];exact ih y (fun p t=>h p (List.mem_cons_of_mem _ t)) i l
theorem Ih(n j:Nat)(l:H3)(y:Nat->Rat)(h:∀i,i<n->j<=i->y i=0):dt n (vl j l) y=0:=by
 refine dz n _ (fun i t=>?_);show vl j l i*y i=0;rcases Nat.lt_or_ge i j with g|g
 ·unfold vl;rw[if_pos g];grind
 ·rw[h i t g];grind
theorem yj{n:Nat}{ε δ κ a:Rat}{ms l:List ((Nat->Rat)×Rat)}{y z w:Nat->Rat}(D:kl n ε (ms++l))(F:jT n δ ms y z)(G:Bd n y a)(H:Bd n (fun i=>w i+(-1)*z i) κ)(I:∀m∈l,dt n m.1 w=0):
  Bd n (fun i=>w i+(-1)*bB n (ms++l) y i) (gw ε l.length*(κ+er ε δ ms.length*(δ*a))):=by
 have J:kl n ε ms:=fun m h=>D m (List.mem_append_left _ h)
 have K:kl n ε l:=fun m h=>D m (List.mem_append_right _ h)
 have L:=lW ms y z a J F G;have M:=H.add L;have N:=km l _ _ K M;refine N.congr (fun i t=>?_);rw[su];have O:∀i,i<n->(w i+(-1)*z i)+(z i+(-1)*bB n ms y i)=w i+(-1)*bB n ms y i:=fun i _=>by grind
 rw[jS n l _ _ O i t,qh n l w (fun i=>(-1)*bB n ms y i) i t,nV n (-1) l _ i t,Mf n l w I i t]
theorem Ii(s z:Nat)(G:s<18446744073709551616)(l:ah s=true)(t:ah z=true)(D:fQ z=0)(h:ab (fQ s)<p2 1023):ah (aV s z)=true/\fQ (aV s z)=fQ s:=by
 have z1:fZ z=0:=by
  unfold fQ at D;have h:=av (-1074);rcases Int.lt_trichotomy (fZ z) 0 with g|g|g
  ·exfalso
   have k:((fZ z:Int):Rat)<0:=Rat.intCast_lt_intCast.2 g;have:=Rat.mul_pos (show 0< -((fZ z:Int):Rat) by grind) h
   grind
  ·exact g
  ·exfalso
   have k:(0:Rat)<((fZ z:Int):Rat):=Rat.intCast_lt_intCast.2 g;have:=Rat.mul_pos k h
   grind
 obtain⟨H,F⟩:=rf s z l t;have e:aZ s z=fZ s:=by unfold aZ;rw[z1];omega
 rw[e,zm s G l]at F;refine⟨gy s z l t (by rw[D,Rat.add_zero];exact h),?_⟩;unfold fQ;rw[F]
theorem Ij:∀(zs:H3) (j:Nat),aL (zs.drop j)<=aL zs:=by
 intro zs
 induction zs with
 |nil=>intro j;rw[List.drop_nil];exact Rat.le_refl
 |cons z zs ih=>
  intro j
  cases j with
  |zero=>exact Rat.le_refl
  |succ j=>
   have i:=ih j;have e:aL (z::zs)=fQ z*fQ z+aL zs:=rfl;have q:=ak (fQ z);rw[List.drop_succ_cons,e]
   grind
theorem AE(j:Nat)(T h:H3)(u b:Nat)(l:T.length=j):
  dt (j+(h.length+1)) (fun i=>fc (T++b::List.replicate h.length 0) i+(-1)*fc (T++u::h) i) (fun i=>fc (T++b::List.replicate h.length 0) i+(-1)*fc (T++u::h) i)=(fQ u-fQ b)*(fQ u-fQ b)+aL h:=by
 unfold dt;rw[kU,dz j _ (fun i G=>by
  show(fc (T++b::List.replicate h.length 0) i+(-1)*fc (T++u::h) i)*(fc (T++b::List.replicate h.length 0) i+(-1)*fc (T++u::h) i)=0;rw[jr T _ i (by omega),jr T _ i (by omega)];grind),kT]
 have k:∀(L:H3) i,fc (T++L) (j+i)=fc L i:=fun L i=>by rw[<-l];exact gT T L i
 have z:∀i,fc (List.replicate h.length 0) i=0:=fun i=>by
  unfold fc;rw[List.getD_eq_getElem?_getD,List.getElem?_replicate]
  split<;>exact jk
 have t:sm h.length (fun i=>(fc (T++b::List.replicate h.length 0) (j+(i+1))+(-1)*fc (T++u::h) (j+(i+1)))*(fc (T++b::List.replicate h.length 0) (j+(i+1))+(-1)*fc (T++u::h) (j+(i+1))))=aL h:=by
  rw[<-rB h];refine bN (fun i _=>?_);rw[k,k];show(fc (List.replicate h.length 0) i+(-1)*fc h i)*(fc (List.replicate h.length 0) i+(-1)*fc h i)=_;rw[z i]
  grind
 rw[t];show(0:Rat)+((fc (T++b::List.replicate h.length 0) (j+0)+(-1)*fc (T++u::h) (j+0))*(fc (T++b::List.replicate h.length 0) (j+0)+(-1)*fc (T++u::h) (j+0))+aL h)=_;have D:fc (T++b::List.replicate h.length 0) (j+0)=fQ b:=k _ 0;have F:fc (T++u::h) (j+0)=fQ u:=k _ 0;rw[D,F]
 grind
theorem Ee(n j a b d t:Nat)(K F G:H3)(hn:K.length=n)(h6:n<=6)(hX:K.drop j=a::F)(hY:∀y∈K,y<18446744073709551616/\ah y=true/\ab (fQ y)<=p2 100)
  (hb:b<18446744073709551616) (fb:ah b=true) (H:p2 (-101)<=ab (fQ b))
  (N:(fQ b=fQ (bM (a::F))/\fQ a<=0)\/(fQ b= -fQ (bM (a::F))/\0<=fQ a)) (hd:d=aV a (fN b)) (ht:t=dV (aV b (fN a)) b) (O:G=F.map (fun x=>dV x d)):
  Bj n (vl j (4607182418800017408::G)) (fQ t) (1/8796093022208)/\ah t=true/\1000*ab (fQ t)<=2001/\(∀v∈4607182418800017408::G,ah v=true/\1000*ab (fQ v)<=1001)/\j+(4607182418800017408::G).length=n/\
  ∃u I,lP (mV t (cH 0 (4607182418800017408::G) (a::F))) (4607182418800017408::G) (a::F)=u::I/\I.length=F.length/\
   ∀q,Bd n (fc K) q->Bd n (fun i=>fc (K.take j++b::List.replicate I.length 0) i+(-1)*fc (K.take j++u::I) i) (2208/9007199254740992*q):=by
 have aI:(K.drop j).length=F.length+1:=by rw[hX];rfl
 rw[List.length_drop]at aI;have U:j+(F.length+1)=n:=by omega
 have Z:(a::F).length<=6:=by rw[List.length_cons];omega
 have a0:∀x∈a::F,x<18446744073709551616/\ah x=true/\ab (fQ x)<=p2 100:=fun x hx=>hY x (List.mem_of_mem_drop (by rw[hX];exact hx))
 have aa:ab (fQ b)=ab (fQ (bM (a::F))):=by
  rcases N with⟨e,_⟩|⟨e,_⟩<;>rw[e]
  unfold ab;grind
 have pl:=av (-101);have h0:bT 0 (a::F)≠0:=fun e=>by
  have e2:bM (a::F)=0:=by unfold bM;rw[if_pos (.inl e)];exact e
  rw[aa,e2,jk]at H;unfold ab at H
  grind
 have hT:=Pb (a::F) (by omega) a0 h0 (by rw[<-aa];exact H);have b0:fK b≠0:=fun e=>by
  rw[bf b e]at H;unfold ab at H
  grind
 obtain⟨f1,f2,f3,f4,f5,f6,f7,f8,f9,ap,ax⟩:=nU a b d t F G (by omega) hT h0 hb fb b0 N hd ht O;obtain⟨n1,n2,n3,n4,n5,n6,n7⟩:=nQ (a::F) (by omega) hT h0;have ae:G.length=F.length:=by rw[O];simp
 have am:j+(4607182418800017408::G).length=n:=by rw[List.length_cons,ae];exact U
 refine⟨N9 j t _ n am.symm f6 (by grind),f1,f2,f5,am,?_⟩;obtain⟨u,I,hu⟩:∃u I,lP (mV t (cH 0 (4607182418800017408::G) (a::F))) (4607182418800017408::G) (a::F)=u::I:=⟨_,_,rfl⟩;have L:I.length=F.length:=by
  have a1:∀(t:Nat) (G J:H3),G.length=J.length->(lP t G J).length=J.length:=by
   intro t G
   induction G with
   |nil=>intro J h;cases J with|nil=>rfl|cons y J=>simp at h
   |cons v G ih=>
    intro J h
    cases J with
    |nil=>simp at h
    |cons y J=>show(_::lP t G J).length=_;rw[List.length_cons,List.length_cons,ih J (by simpa using h)]
  have k:=a1 (mV t (cH 0 (4607182418800017408::G) (a::F))) (4607182418800017408::G) (a::F) (by rw[List.length_cons,List.length_cons,ae]);rw[hu,List.length_cons,List.length_cons]at k;omega
 refine⟨u,I,hu,L,fun q hq=>?_⟩;obtain⟨o1,o2,o3⟩:=zp a b d t u F G I Z hT h0 hb fb b0 N hd ht O hu.symm (by rw[L];simp only[List.length_cons]at Z;omega);have q0:=hq.1;have q1:=hq.2;have tl:(K.take j).length=j:=by rw[List.length_take];omega
 have M:=AE j (K.take j) I u b tl;rw[L,U,<-L]at M;refine⟨by grind,?_⟩;rw[M];rw[<-hn,rB]at q1;have S1:=Ij K j;rw[hX]at S1;have eb:fQ b*fQ b=fQ (bM (a::F))*fQ (bM (a::F)):=by
  rcases N with⟨e,_⟩|⟨e,_⟩<;>rw[e]<;>grind
 rw[<-eb]at n4;have l:=aw (fQ b*fQ b-aL (a::F));have S0:=bW (a::F);have k:100000*(fQ b*fQ b)<=100001*(q*q):=by
  generalize ab (fQ b*fQ b-aL (a::F))=z at*;generalize aL (a::F)=S at*;generalize fQ b*fQ b=B at*;generalize q*q=Q at*;clear N M o1 o2 ax f9 ap f8 O hu
  grind
 have e:2208/9007199254740992*q*(2208/9007199254740992*q)=4875264/81129638414606681695789005144064*(q*q):=by grind
 rw[e];have Q0:=ak q;generalize fQ b*fQ b=B at*;generalize q*q=Q at*;generalize (fQ u-fQ b)*(fQ u-fQ b)+aL I=D at*;clear N M ax f9 ap f8 O hu n4 l S0 S1 q1 n7 n5 n6
 grind
end Go.Proofs.YtcbcmlaogehimaaGreatDoor
