/- Part 17 of the texts. -/
import Derived.Test.YtcbcmlaogehimaaGreatDoorPartu16
namespace Go.Proofs.YtcbcmlaogehimaaGreatDoor
open Go.RowKit
theorem JS(N d:Nat)(h:0<d):dC N d*d<=2*N+d/\2*N<=dC N d*d+d:=by
 have l:=Nat.div_add_mod N d;have t:=Nat.mod_lt N h;unfold dC
 split
 ·have e:(2*(N/d)+0)*d=2*(d*(N/d)):=by rw[Nat.add_zero,Nat.mul_assoc,Nat.mul_comm d]
  rw[e];generalize d*(N/d)=Q at*;omega
 ·have e:(2*(N/d)+1)*d=2*(d*(N/d))+d:=by rw[Nat.add_mul,Nat.mul_assoc,Nat.one_mul,Nat.mul_comm d]
  rw[e];generalize d*(N/d)=Q at*;omega
theorem rx(a b:Nat)(h:a<18446744073709551616)(l:b<18446744073709551616)(t:ah a=true)(D:ah b=true)(F:fK a≠0)(G:fK b≠0):
  340282366920938463463374607431768211456*(xE (qS a b) (fX a-fX b-181)*ab (fQ b))<=340282366920938463463374607431768211456*ab (fQ a)+ab (fQ a)/\
  340282366920938463463374607431768211456*ab (fQ a)<=340282366920938463463374607431768211456*(xE (qS a b) (fX a-fX b-181)*ab (fQ b))+ab (fQ a):=by
 obtain⟨x1,x2,x3,x4,x5,x6,x7,x8,x9⟩:=gf a h t F;obtain⟨y1,y2,y3,y4,y5,y6,y7,y8,y9⟩:=gf b l D G;have K:ab (fQ a)=(((fD a).natAbs*2^180:Nat):Rat)*(2*p2 (fX a-181)):=by
  have e:=rt a h t F 0;rw[Int.add_zero,oR,Rat.mul_one,<-jp]at e;rw[<-e];unfold xE;rw[Rat.natCast_mul,<-cN,show fX a=((180:Nat):Int)+(fX a-181+1) by omega,bR,bu,show((180:Nat):Int)+(fX a-181+1)-181=fX a-181 by omega]
  grind
 have L:ab (fQ b)=((fD b).natAbs:Rat)*p2 (fX b):=by
  have e:=rt b l D G 0;rw[Int.add_zero,oR,Rat.mul_one,<-jp]at e;exact e.symm
 have eX:xE (qS a b) (fX a-fX b-181)*ab (fQ b)=((qS a b*(fD b).natAbs:Nat):Rat)*p2 (fX a-181):=by
  rw[L];unfold xE;rw[Rat.natCast_mul,show fX a-181=(fX a-fX b-181)+fX b by omega,bR]
  grind
 obtain⟨s1,s2⟩:=JS ((fD a).natAbs*2^180) (fD b).natAbs (by omega);have H:=av (fX a-181);have hd:340282366920938463463374607431768211456*(fD b).natAbs<=2*((fD a).natAbs*2^180):=by
  have M:2^181<=(fD a).natAbs*2^181:=Nat.le_mul_of_pos_left _ (by omega);have O:(2:Nat)^181=340282366920938463463374607431768211456*9007199254740992:=by decide
  have Q:(2:Nat)^181=2^180*2:=by decide
  have U:340282366920938463463374607431768211456*(fD b).natAbs<=340282366920938463463374607431768211456*9007199254740992:=Nat.mul_le_mul_left _ (by omega);rw[<-O]at U;rw[Q,<-Nat.mul_assoc]at M;omega
 have hq:qS a b=dC ((fD a).natAbs*2^180) (fD b).natAbs:=rfl;rw[<-hq]at s1 s2;rw[eX,K];generalize (fD a).natAbs*2^180=N at*;generalize qS a b*(fD b).natAbs=Z at*;have g1:340282366920938463463374607431768211456*Z<=340282366920938463463374607431768211456*(2*N)+2*N:=by omega
 have g2:340282366920938463463374607431768211456*(2*N)<=340282366920938463463374607431768211456*Z+2*N:=by omega
 have I:=Rat.mul_le_mul_of_nonneg_left (Rat.natCast_le_natCast.2 g1) (Rat.le_of_lt H);have J:=Rat.mul_le_mul_of_nonneg_left (Rat.natCast_le_natCast.2 g2) (Rat.le_of_lt H);rw[Rat.natCast_add,Rat.natCast_mul 340282366920938463463374607431768211456,Rat.natCast_mul 340282366920938463463374607431768211456,Rat.natCast_mul 2]at I J;have k1:((340282366920938463463374607431768211456:Nat):Rat)=340282366920938463463374607431768211456:=rfl;have k2:((2:Nat):Rat)=2:=rfl;rw[k1,k2]at I J
 constructor<;>grind
theorem uM(a b:Nat)(O:a<18446744073709551616)(Q:b<18446744073709551616)(F:ah a=true)(G:ah b=true)(H:fK a≠0)(I:fK b≠0)(U:ah (dV a b)=true):
  10633823966279326983230456482242756608*ab (fQ (dV a b)*fQ b-fQ a)<=1180591620717411303425*ab (fQ a)\/
  (fR (dV a b)<=4503599627370496/\170141183460469231731687303715884105728*ab (fQ (dV a b)*fQ b-fQ a)<=170141183460469231731687303715884105728*(p2 (-1075)*ab (fQ b))+ab (fQ a)):=by
 have J:=kN _ U;have K:=(rh a b F G H I).1;have Z:qV a b<=9218868437227405312:=ej _ _;have L:fR (dV a b)=qV a b:=by rw[K,iL _ _ (by omega)]
 have hS:fS (dV a b)=(fS a^^fS b):=by rw[K,kg _ _ (by omega)]
 rw[L]at J;have e:=nM (qS a b) (fX a-fX b-181) J;obtain⟨q1,q2⟩:=rx a b O Q F G H I;have aa:0<=xE (qS a b) (fX a-fX b-181):=Rat.mul_nonneg Rat.natCast_nonneg (Rat.le_of_lt (av _));have hy:(rv (qV a b):Rat)*p2 (-1074)=yE (qS a b) (fX a-fX b-181):=rfl;have t:p2 (-1074)=2*p2 (-1075):=by rw[show(-1074:Int)= -1075+1 by rfl,bu]
 have hp:=av (-1075);have n0:=rq (fR a);have l:=rq (fR b);rw[jp,jp]at*;rw[dD (dV a b),hS,L,hy,dD a,dD b];generalize (rv (fR a):Rat)*p2 (-1074)=A at*;generalize (rv (fR b):Rat)*p2 (-1074)=B at*;generalize yE (qS a b) (fX a-fX b-181)=Y at*;generalize xE (qS a b) (fX a-fX b-181)=X at*;rw[t]at e;generalize p2 (-1075)=η at*;have h:10633823966279326983230456482242756608*ab (Y*B-A)<=1180591620717411303425*A\/(qV a b<=4503599627370496/\170141183460469231731687303715884105728*ab (Y*B-A)<=170141183460469231731687303715884105728*(η*B)+A):=by
  rcases e with⟨D,N⟩|⟨D,N,e3,e4⟩
  ·refine .inl ?_
   have c1:=Rat.mul_le_mul_of_nonneg_left D l;have c2:=Rat.mul_le_mul_of_nonneg_left N l;unfold ab
   grind
  ·refine .inr ⟨D,?_⟩
   have c1:=Rat.mul_le_mul_of_nonneg_left e3 l;have c2:=Rat.mul_le_mul_of_nonneg_left e4 l;unfold ab
   grind
 have M:ab (Y*B-A)=ab (A-Y*B):=rp _ _
 cases fS a<;>cases fS b<;>simp only[Bool.xor_false,Bool.xor_true,Bool.not_true,Bool.not_false,Bool.false_eq_true,if_true,if_false]
 ·exact h
 ·rw[show-Y* -B-A=Y*B-A by grind];exact h
 ·rw[show-Y*B- -A=A-Y*B by grind,<-M];exact h
 ·rw[show Y* -B- -A=A-Y*B by grind,<-M];exact h
theorem oU(e:Int)(h:-975<=e):1267650600228229401496703205376*p2 (-1075)<=p2 e:=by
 have l:=aq h;have t:p2 (-975)=1267650600228229401496703205376*p2 (-1075):=by
  rw[show(-975:Int)=((100:Nat):Int)+-1075 by rfl,bR,cN];rfl
 rw[<-t];exact l
theorem kR(a b:Nat)(t:ah a=true)(D:ah b=true)(h:ab (fQ a*fQ b)<p2 1023):
  ah (mV a b)=true/\9007199254740992*ab (fQ (mV a b)-fQ a*fQ b)<=ab (fQ a*fQ b)+9007199254740992*p2 (-1075):=by
 have F:=uJ a b t D h;have l:p2 (-1074)=2*p2 (-1075):=by rw[show(-1074:Int)= -1075+1 by rfl,bu]
 have G:=av (-1075);have H:=bK (fQ a*fQ b);refine⟨F,?_⟩;rcases uI a b t D F with e|e
 ·grind
 ·have:=e.2
  rw[l]at this
  grind
theorem Bf(a b:Nat)(L:a<18446744073709551616)(H:b<18446744073709551616)(I:ah a=true)(l:ah b=true)(J:fK a≠0)(t:fK b≠0)(h:ab (fQ a)<=1024*ab (fQ b)):ah (dV a b)=true:=by
 obtain⟨q1,q2⟩:=rx a b L H I l J t;have M:=iN b H l t;have N:=av (eX b);have O:0<=xE (qS a b) (fX a-fX b-181):=Rat.mul_nonneg Rat.natCast_nonneg (Rat.le_of_lt (av _));have D:xE (qS a b) (fX a-fX b-181)<p2 1023:=by
  have Z:(2048:Rat)<=p2 1023:=by
   have h:=aq (show(11:Int)<=1023 by decide);have h3:p2 11=2048:=by rw[show(11:Int)=((11:Nat):Int) by rfl,cN];rfl
   grind
  generalize xE (qS a b) (fX a-fX b-181)=X at*;rcases Rat.le_total (a:=2048) (b:=X)with g|g
  ·exfalso
   have F:=Rat.mul_le_mul_of_nonneg_left g (show 0<=ab (fQ b) by grind);have:=bK (fQ a);generalize ab (fQ a)=A at*;have G:ab (fQ b)*X=X*ab (fQ b):=Rat.mul_comm _ _;rw[G]at F;generalize X*ab (fQ b)=U at*
   grind
  ·rcases Rat.le_total (a:=X) (b:=2047)with K|K
   ·grind
   ·exfalso
    have F:=Rat.mul_le_mul_of_nonneg_left K (show 0<=ab (fQ b) by grind);have:=bK (fQ a);generalize ab (fQ a)=A at*;have G:ab (fQ b)*X=X*ab (fQ b):=Rat.mul_comm _ _;rw[G]at F;generalize X*ab (fQ b)=U at*
    grind
 have:=jd _ _ D;have Q:qV a b<=9218868437227405312:=ej _ _;exact(cY _).2.2.2 (by rw[(rh a b I l J t).1,iL _ _ (by omega)];exact this)
theorem wI(a b:Nat)(l:a<18446744073709551616)(t:b<18446744073709551616)(D:ah a=true)(F:ah b=true)(G:fK a≠0)(H:fK b≠0)(h:ab (fQ a)<=1024*ab (fQ b))
  (J:1267650600228229401496703205376*(p2 (-1075)*ab (fQ b))<=ab (fQ a)):
  ah (dV a b)=true/\9007199254740992*ab (fQ (dV a b)*fQ b-fQ a)<=2*ab (fQ a):=by
 have I:=Bf a b l t D F G H h;refine⟨I,?_⟩;have K:=bK (fQ a);have L:=bK (fQ (dV a b)*fQ b-fQ a);rcases uM a b l t D F G H I with e|e
 ·grind
 ·have:=e.2
  generalize p2 (-1075)*ab (fQ b)=z at*
  grind
def cH:Nat->H3->H3->Nat
 |s,x::xs,y::ys=>cH (aV s (mV x y)) xs ys
 |s,_,_=>s
def cG:H3->H3->Rat
 |x::xs,y::ys=>fQ x*fQ y+cG xs ys
 |_,_=>0
def mQ:H3->H3->Rat
 |x::xs,y::ys=>ab (fQ x*fQ y)+mQ xs ys
 |_,_=>0
theorem FU:∀(l h:H3),0<=mQ l h:=by
 intro l
 induction l with
 |nil=>intro h;exact Rat.le_refl
 |cons x l ih=>
  intro h
  cases h with
  |nil=>exact Rat.le_refl
  |cons y h=>
   have t:=ih h;have D:=bK (fQ x*fQ y);show 0<=ab (fQ x*fQ y)+mQ l h
   grind
theorem zn:∀(l h:H3),ab (cG l h)<=mQ l h:=by
 intro l
 induction l with
 |nil=>intro h;show ab 0<=0;unfold ab;grind
 |cons x l ih=>
  intro h
  cases h with
  |nil=>show ab 0<=0;unfold ab;grind
  |cons y h=>
   have t:=ih h;have D:=zf (fQ x*fQ y) (cG l h);show ab (fQ x*fQ y+cG l h)<=ab (fQ x*fQ y)+mQ l h
   grind
theorem FW(s x y:Nat)(T W H:Rat)(h:ah s=true)(D:ah x=true)(F:ah y=true)(G:0<=W)(Z:W<=p2 1000)(I:9007199254740992*(4*p2 (-1075))<=W)
  (hT:ab T+ab (fQ x*fQ y)<=W) (hH:H<=192*W) (he:9007199254740992*ab (fQ s-T)<=H):
  ah (aV s (mV x y))=true/\9007199254740992*ab (fQ (aV s (mV x y))-(T+fQ x*fQ y))<=H+3*W:=by
 have T0:=bK T;have J:=bK (fQ x*fQ y);have K:16*p2 1000<=p2 1023/\0<p2 1000:=by
  have L:=aq (show(1000+1+1+1+1:Int)<=1023 by decide);simp only[bu]at L;exact⟨by grind,av _⟩
 obtain⟨B1,B2⟩:=K;obtain⟨n1,n2,n3⟩:=dg;obtain⟨t,e1⟩:=kR x y D F (by grind);have M:=aw (fQ (mV x y)-fQ x*fQ y);have N:=aw (fQ s-T);have O:=aw T;have Q:=aw (fQ x*fQ y);have tt:=bP (x:=fQ s+fQ (mV x y)) (y:=ab (fQ s-T)+ab (fQ (mV x y)-fQ x*fQ y)+ab T+ab (fQ x*fQ y)) (by grind) (by grind);have l:=gy _ _ h t (by grind);have ea:=gS _ _ h t l;refine⟨l,?_⟩;have U:=aw (fQ (aV s (mV x y))-(fQ s+fQ (mV x y)));have ll:=bP (x:=fQ (aV s (mV x y))-(T+fQ x*fQ y)) (y:=ab (fQ (aV s (mV x y))-(fQ s+fQ (mV x y)))+ab (fQ (mV x y)-fQ x*fQ y)+ab (fQ s-T)) (by grind) (by grind);clear M N O Q U;generalize ab (fQ (aV s (mV x y))-(T+fQ x*fQ y))=z0 at*;generalize ab (fQ (aV s (mV x y))-(fQ s+fQ (mV x y)))=z1 at*;generalize ab (fQ (mV x y)-fQ x*fQ y)=z2 at*;generalize ab (fQ s-T)=z3 at*;generalize ab (fQ s+fQ (mV x y))=z4 at*;generalize ab (fQ x*fQ y)=z5 at*;generalize ab T=z6 at*;generalize p2 (-1075)=η at*
 grind
theorem JT(W:Rat)(t:0<=W)(Q:W<=p2 1000)(I:9007199254740992*(4*p2 (-1075))<=W):∀(h l:H3) (s:Nat) (T H:Rat),(∀x∈h,ah x=true)->(∀y∈l,ah y=true)->ah s=true->
  ab T+mQ h l<=W->H+3*((h.length:Rat)*W)<=192*W->9007199254740992*ab (fQ s-T)<=H->
  ah (cH s h l)=true/\9007199254740992*ab (fQ (cH s h l)-(T+cG h l))<=H+3*((h.length:Rat)*W):=by
 intro h
 induction h with
 |nil=>
  intro l s T H _ _ G _ _ M;have D:cH s [] l=s:=by cases l<;>rfl
  have F:cG [] l=0:=by cases l<;>rfl
  have K:(([]:H3).length:Rat)=0:=rfl;rw[D,F,K,Rat.add_zero];exact⟨G,by grind⟩
 |cons x h ih=>
  intro l s T H N O G hT hH M;have K:((x::h).length:Rat)=(h.length:Rat)+1:=by rw[List.length_cons,Rat.natCast_add];rfl
  have l0:0<=(h.length:Rat)*W:=Rat.mul_nonneg Rat.natCast_nonneg t;have L:((x::h).length:Rat)*W=(h.length:Rat)*W+W:=by rw[K];grind
  cases l with
  |nil=>
   have D:cH s (x::h) []=s:=rfl;have F:cG (x::h) []=0:=rfl;rw[D,F,L,Rat.add_zero];exact⟨G,by grind⟩
  |cons y l=>
   have D:cH s (x::h) (y::l)=cH (aV s (mV x y)) h l:=rfl;have F:cG (x::h) (y::l)=fQ x*fQ y+cG h l:=rfl;have U:mQ (x::h) (y::l)=ab (fQ x*fQ y)+mQ h l:=rfl;have d0:=FU h l;rw[U]at hT;rw[L]at hH⊢;obtain⟨Z,g2⟩:=FW s x y T W H G (N x List.mem_cons_self) (O y List.mem_cons_self) t Q I (by grind) (by grind) M;have ht:=zf T (fQ x*fQ y);obtain⟨i1,i2⟩:=ih l (aV s (mV x y)) (T+fQ x*fQ y) (H+3*W) (fun z J=>N z (List.mem_cons_of_mem _ J)) (fun z J=>O z (List.mem_cons_of_mem _ J)) Z (by grind) (by grind) g2;rw[D,F];refine⟨i1,?_⟩;rw[show T+(fQ x*fQ y+cG h l)=T+fQ x*fQ y+cG h l by grind]
   grind
theorem nP(W:Rat)(h l:H3)(G:h.length<=64)(H:W<=p2 1000)(D:9007199254740992*(4*p2 (-1075))<=W)(I:∀x∈h,ah x=true)(J:∀y∈l,ah y=true)(Q:mQ h l<=W):
  ah (cH 0 h l)=true/\9007199254740992*ab (fQ (cH 0 h l)-cG h l)<=3*((h.length:Rat)*W):=by
 have U:=av (-1075);have t:0<=W:=by grind
 have K:fQ 0=0:=bf 0 (by decide);have F:ab 0=0:=by unfold ab;grind
 have L:(h.length:Rat)<=64:=Rat.natCast_le_natCast.2 G;have M:=Rat.mul_nonneg (show 0<=64-(h.length:Rat) by grind) t;obtain⟨N,O⟩:=JT W t H D h l 0 0 0 I J (by decide) (by rw[F];grind) (by grind) (by rw[K,show(0:Rat)-0=0 by grind,F];grind);refine⟨N,?_⟩;rw[Rat.zero_add]at O
 grind
def gz:H3->Rat
 | []=>0
 |x::xs=>ab (fQ x)+gz xs
theorem ry(h:H3):0<=gz h:=by
 induction h with
 |nil=>exact Rat.le_refl
 |cons x h ih=>
  have:=bK (fQ x);unfold gz
  grind
theorem bW(h:H3):0<=aL h:=by
 induction h with
 |nil=>exact Rat.le_refl
 |cons x h ih=>
  have:=ak (fQ x);unfold aL
  grind
theorem N6:∀(l:H3),gz l*gz l<=(l.length:Rat)*aL l:=by
 intro l
 induction l with
 |nil=>
  have t:gz []=0:=rfl;have D:(([]:H3).length:Rat)=0:=rfl;rw[t,D];grind
 |cons x l ih=>
  have t:gz (x::l)=ab (fQ x)+gz l:=rfl;have I:aL (x::l)=fQ x*fQ x+aL l:=rfl;have D:((x::l).length:Rat)=(l.length:Rat)+1:=by rw[List.length_cons,Rat.natCast_add];rfl
  have F:=ak (fQ x);have G:ab (fQ x)*ab (fQ x)=fQ x*fQ x:=by rw[<-aM];exact aQ F
  have U:=bW l;have Z:=ry l;have n0:(0:Rat)<=(l.length:Rat):=Rat.natCast_nonneg;rw[t,I,D]
  by_cases J:l.length=0
  ·have K:l= []:=List.length_eq_zero_iff.1 J
   subst K;have L:gz []=0:=rfl;have H:aL []=0:=rfl;have M:(([]:H3).length:Rat)=0:=rfl;rw[L,H,M]
   grind
  ·have O:(0:Rat)<(l.length:Rat):=Rat.natCast_pos.2 (by omega)
   refine Rat.le_of_mul_le_mul_left (c:=(l.length:Rat)) ?_ O;have h:=ak ((l.length:Rat)*ab (fQ x)-gz l);have H:=Rat.mul_le_mul_of_nonneg_left ih (show 0<=(l.length:Rat)+1 by grind);generalize (l.length:Rat)=N at*;generalize ab (fQ x)=p at*;generalize gz l=Y at*;generalize aL l=Q at*;rw[<-G];clear G F
   grind
theorem rz(a b R t g:Rat)(O:0<=R)(l:0<ab b)(G:ab (a-b)=ab a+ab b)(Q:9007199254740992*ab (b*b-(a*a+R))<=135*(a*a+R))
  (H:9007199254740992*ab (g-(b-a))<=ab (b-a)) (U:9007199254740992*ab (t*b-g)<=2*ab g):
  9007199254740992*ab (t*b+(a-b))<=4*ab (a-b)/\4503599627370496*ab a<=4503599627370496*ab b+70*ab b:=by
 obtain⟨D,F⟩:∃D,a-b=D:=⟨_,rfl⟩;have I:ab (b-a)=ab D:=by rw[<-F];exact rp _ _
 rw[I,show b-a= -D by grind]at H;rw[F]at G⊢;have Z:=aw (g- -D);have l2:=aw (t*b-g);have l3:=aw D;have l4:=aw g;have D0:=bK D;have J:=bK a
 constructor
 ·have gg:=bP (x:=g) (y:=ab (g- -D)+ab D) (by grind) (by grind)
  refine Rat.le_trans (Rat.mul_le_mul_of_nonneg_left (bP (y:=ab (t*b-g)+ab (g- -D)) (by grind) (by grind)) (by decide)) ?_
  grind
 ·have K:=ak a;have L:=ak b
  have ea:ab a*ab a=a*a:=by rw[<-aM];exact aQ K
  have M:ab b*ab b=b*b:=by rw[<-aM];exact aQ L
  have l5:=aw (b*b-(a*a+R));rcases Rat.le_total (a:=4503599627370496*ab a) (b:=4503599627370496*ab b+70*ab b)with h|h
  ·exact h
  ·exfalso
   have m1:=Rat.mul_nonneg (show 0<=4503599627370496*ab a-(4503599627370496*ab b+70*ab b) by grind) J;have m2:=Rat.mul_nonneg (show 0<=4503599627370496*ab a-(4503599627370496*ab b+70*ab b) by grind) (show 0<=ab b by grind);have N:=Rat.mul_pos l l;rw[M]at N;generalize ab (b*b-(a*a+R))=z at*
   grind
theorem jQ{x y:Rat}(h:ab x<=1):ab (x*y)<=ab y:=by
 rw[aM];have:=Rat.mul_le_mul_of_nonneg_left h (bK y)
 grind
theorem jR(a:Nat)(h:a<18446744073709551616):fQ (fN a)= -fQ a:=by
 unfold fQ;rw[PH a h,Rat.intCast_neg,Rat.neg_mul]
theorem qf:∀(l:H3) (x:Nat),x∈l->fQ x*fQ x<=aL l:=by
 intro l
 induction l with
 |nil=>intro x h;cases h
 |cons y ys ih=>
  intro x h;have t:=bW ys;have D:=ak (fQ y);have e:aL (y::ys)=fQ y*fQ y+aL ys:=rfl;rw[e];rcases List.mem_cons.1 h with rfl|h
  ·grind
  ·have:=ih x h
   grind
theorem qg(B:Rat):∀(t:H3),(∀x∈t,ab (fQ x)<=B)->aL t<=(t.length:Rat)*(B*B):=by
 intro t
 induction t with
 |nil=>
  intro _;have e:aL []=0:=rfl;have D:(([]:H3).length:Rat)=0:=rfl;rw[e,D]
  grind
 |cons y ys ih=>
  intro h;have G:=ih (fun x F=>h x (List.mem_cons_of_mem _ F));have H:=h y List.mem_cons_self;have l:=aw (fQ y);have m:=Rat.mul_nonneg (show 0<=B-fQ y by grind) (show 0<=B+fQ y by grind);have e:aL (y::ys)=fQ y*fQ y+aL ys:=rfl;have D:((y::ys).length:Rat)=(ys.length:Rat)+1:=by rw[List.length_cons,Rat.natCast_add];rfl
  rw[e,D]
  grind
theorem dr{x y:Rat}(l:0<=y)(h:x*x<=y*y):x<=y:=by
 rcases Rat.le_total (a:=x) (b:=y)with g|g
 ·exact g
 ·by_cases e:x=y
  ·rw[e];exact Rat.le_refl
  ·have m:=Rat.mul_pos (show 0<x-y by grind) (show 0<x+y by grind)
   grind
def lP(t:Nat):H3->H3->H3
 |v::vs,y::ys=>aV y (fN (mV t v))::lP t vs ys
 |_,_=>[]
def cr(c E:Rat):H3->H3->H3->Prop
 |v::vs,y::ys,u::us=>(ah u=true/\9007199254740992*ab (fQ u-(fQ y-c*fQ v))<=E)/\cr c E vs ys us
 | [],[],[]=>True
 |_,_,_=>False
theorem FX:∀(t l:H3),(∀v∈t,1000*ab (fQ v)<=1001)->1000*mQ t l<=1001*gz l:=by
 intro t
 induction t with
 |nil=>
  intro l _;have D:mQ [] l=0:=by cases l<;>rfl
  have:=ry l;rw[D]
  grind
 |cons v t ih=>
  intro l h
  cases l with
  |nil=>
   have D:mQ (v::t) []=0:=rfl;have F:gz []=0:=rfl;rw[D,F]
   grind
  |cons y l=>
   have i:=ih l (fun w G=>h w (List.mem_cons_of_mem _ G));have D:mQ (v::t) (y::l)=ab (fQ v*fQ y)+mQ t l:=rfl;have F:gz (y::l)=ab (fQ y)+gz l:=rfl;have m:=Rat.mul_le_mul_of_nonneg_left (h v List.mem_cons_self) (bK (fQ y));rw[D,F,aM]
   grind
theorem N7(t v y:Nat)(c Y:Rat)(U:ah t=true)(Z:ah v=true)(D:ah y=true)(F:1000*ab (fQ v)<=1001)(hy:ab (fQ y)<=Y)(hY:Y<=p2 900)(hη:1267650600228229401496703205376*p2 (-1075)<=Y)
  (hc:100*ab c<=201*Y) (he:9007199254740992*ab (fQ t-c)<=39*Y):
  ah (aV y (fN (mV t v)))=true/\9007199254740992*ab (fQ (aV y (fN (mV t v)))-(fQ y-c*fQ v))<=46*Y:=by
 have hp:=av (-1075);have Y0:0<=Y:=by grind
 have y0:=bK (fQ y);have v0:=bK (fQ v);have G:=aw (fQ t-c);have H:=aw c;have aa:1000*ab (fQ t)<=2011*Y:=by
  have:=bP (x:=fQ t) (y:=ab (fQ t-c)+ab c) (by grind) (by grind)
  grind
 have ae:16*p2 900<=p2 1023/\0<p2 900:=by
  have h1:=aq (show(900+1+1+1+1:Int)<=1023 by decide);simp only[bu]at h1;exact⟨by grind,av _⟩
 have t0:=bK (fQ t);have m1:=Rat.mul_le_mul_of_nonneg_left F t0;have h:ab (fQ t*fQ v)=ab (fQ t)*ab (fQ v):=aM _ _;have am:1000*ab (fQ t*fQ v)<=2014*Y:=by rw[h];grind
 obtain⟨f1,e1⟩:=kR t v U Z (by grind);have pl:=iQ t v;have I:ah (fN (mV t v))=true:=by rw[gu _ pl];exact f1
 have J:=jR _ pl;have K:=aw (fQ (mV t v)-fQ t*fQ v);have L:=aw (fQ t*fQ v);have M:=aw (fQ y);have ap:=bP (x:=fQ y+-fQ (mV t v)) (y:=ab (fQ y)+ab (fQ (mV t v)-fQ t*fQ v)+ab (fQ t*fQ v)) (by grind) (by grind);have N:=gy y (fN (mV t v)) D I (by rw[J];grind);have ea:=gS y (fN (mV t v)) D I N;rw[J]at ea;refine⟨N,?_⟩;have O:=aw (fQ (aV y (fN (mV t v)))-(fQ y+-fQ (mV t v)));have l:9007199254740992*ab ((fQ t-c)*fQ v)<=40*Y:=by
  rw[aM];have m2:=Rat.mul_le_mul_of_nonneg_left F (bK (fQ t-c));rw[show ab (fQ t-c)*(1000*ab (fQ v))=1000*(ab (fQ t-c)*ab (fQ v)) by grind]at m2;generalize ab (fQ t-c)*ab (fQ v)=z at*;clear K L M O G H
  grind
 have Q:=aw ((fQ t-c)*fQ v);have w:(fQ t-c)*fQ v=fQ t*fQ v-c*fQ v:=by grind
 rw[w]at Q l;have ax:=bP (x:=fQ (aV y (fN (mV t v)))-(fQ y-c*fQ v)) (y:=ab (fQ (aV y (fN (mV t v)))-(fQ y+-fQ (mV t v)))+ab (fQ (mV t v)-fQ t*fQ v)+ab (fQ t*fQ v-c*fQ v)) (by grind) (by grind);clear K L M O Q G H w m1 h;generalize ab (fQ (aV y (fN (mV t v)))-(fQ y-c*fQ v))=z0 at*;generalize ab (fQ (aV y (fN (mV t v)))-(fQ y+-fQ (mV t v)))=z1 at*;generalize ab (fQ (mV t v)-fQ t*fQ v)=z2 at*;generalize ab (fQ t*fQ v-c*fQ v)=z3 at*;generalize ab (fQ y+-fQ (mV t v))=z4 at*;generalize ab (fQ t*fQ v)=z5 at*;generalize ab (fQ y)=z6 at*;generalize p2 (-1075)=η at*
 grind
theorem FY(t:Nat)(c Y:Rat)(J:ah t=true)(K:Y<=p2 900)(F:1267650600228229401496703205376*p2 (-1075)<=Y)(L:100*ab c<=201*Y)(M:9007199254740992*ab (fQ t-c)<=39*Y):
  ∀(l h:H3),l.length=h.length->(∀v∈l,ah v=true/\1000*ab (fQ v)<=1001)->(∀y∈h,ah y=true/\ab (fQ y)<=Y)->cr c (46*Y) l h (lP t l h):=by
 intro l
 induction l with
 |nil=>
  intro h D _ _
  cases h with
  |nil=>exact trivial
  |cons y h=>simp at D
 |cons v l ih=>
  intro h D H I
  cases h with
  |nil=>simp at D
  |cons y h=>
   obtain⟨N,O⟩:=H v List.mem_cons_self;obtain⟨Q,U⟩:=I y List.mem_cons_self;show cr c (46*Y) (v::l) (y::h) (aV y (fN (mV t v))::lP t l h);unfold cr;exact⟨N7 t v y c Y J N Q O U K F L M,ih h (by simpa using D) (fun w G=>H w (List.mem_cons_of_mem _ G)) (fun w G=>I w (List.mem_cons_of_mem _ G))⟩
theorem zo:∀(l:H3) (x:Nat),x∈l->ab (fQ x)<=gz l:=by
 intro l
 induction l with
 |nil=>intro x h;cases h
 |cons y ys ih=>
  intro x h;have t:=ry ys;have D:=bK (fQ y);have e:gz (y::ys)=ab (fQ y)+gz ys:=rfl;rw[e];rcases List.mem_cons.1 h with rfl|h
  ·grind
  ·have:=ih x h
   grind
theorem JU(t:Nat)(D l:H3)(I:D.length<=6)(J:ah t=true)(F:1000*ab (fQ t)<=2001)(G:∀v∈D,ah v=true/\1000*ab (fQ v)<=1001)(K:∀y∈l,ah y=true)
  (hY:gz l<=p2 900) (L:1267650600228229401496703205376*p2 (-1075)<=gz l):
  ah (mV t (cH 0 D l))=true/\100*ab (fQ t*cG D l)<=201*gz l/\9007199254740992*ab (fQ (mV t (cH 0 D l))-fQ t*cG D l)<=39*gz l/\1000*ab (cG D l)<=1001*gz l:=by
 have hp:=av (-1075);have Y0:=ry l;have M:16*p2 900<=p2 1023/\0<p2 900/\16*p2 900<=p2 1000:=by
  have N:=aq (show(900+1+1+1+1:Int)<=1023 by decide);have O:=aq (show(900+1+1+1+1:Int)<=1000 by decide);simp only[bu]at N O;exact⟨by grind,av _,by grind⟩
 have Q:=FX D l (fun v h=>(G v h).2);have U:=zn D l;have Z:1000*ab (cG D l)<=1001*gz l:=by grind
 obtain⟨W,hW⟩:∃W,1000*W=1001*gz l:=⟨1001*gz l/1000,by grind⟩;obtain⟨f1,e1⟩:=nP W D l (by omega) (by grind) (by grind) (fun v h=>(G v h).1) K (by grind);have aa:(D.length:Rat)<=6:=Rat.natCast_le_natCast.2 I;have e2:9007199254740992*ab (fQ (cH 0 D l)-cG D l)<=18*W:=by
  have:=Rat.mul_nonneg (show 0<=6-(D.length:Rat) by grind) (show 0<=W by grind)
  grind
 have l1:=aw (fQ (cH 0 D l)-cG D l);have l2:=aw (cG D l);have hw:=bP (x:=fQ (cH 0 D l)) (y:=ab (fQ (cH 0 D l)-cG D l)+ab (cG D l)) (by grind) (by grind);have t0:=bK (fQ t);have w0:=bK (fQ (cH 0 D l));have m1:=Rat.mul_le_mul_of_nonneg_left F w0;have m2:=Rat.mul_le_mul_of_nonneg_left F (bK (cG D l));have m3:=Rat.mul_le_mul_of_nonneg_left F (bK (fQ (cH 0 D l)-cG D l));have n1:1000*ab (fQ t*fQ (cH 0 D l))<=2001*ab (fQ (cH 0 D l)):=by rw[aM];grind
 have n2:1000*ab (fQ t*cG D l)<=2001*ab (cG D l):=by rw[aM];grind
 have n3:1000*ab (fQ t*(fQ (cH 0 D l)-cG D l))<=2001*ab (fQ (cH 0 D l)-cG D l):=by rw[aM];grind
 obtain⟨f2,e3⟩:=kR t (cH 0 D l) J f1 (by grind);refine⟨f2,by grind,?_,Z⟩;have l3:=aw (fQ (mV t (cH 0 D l))-fQ t*fQ (cH 0 D l));have H:=aw (fQ t*(fQ (cH 0 D l)-cG D l));have w:fQ t*(fQ (cH 0 D l)-cG D l)=fQ t*fQ (cH 0 D l)-fQ t*cG D l:=by grind
 rw[w]at H n3;have ae:=bP (x:=fQ (mV t (cH 0 D l))-fQ t*cG D l) (y:=ab (fQ (mV t (cH 0 D l))-fQ t*fQ (cH 0 D l))+ab (fQ t*fQ (cH 0 D l)-fQ t*cG D l)) (by grind) (by grind);clear l1 l2 l3 H m1 m2 m3 w e1;generalize ab (fQ (mV t (cH 0 D l))-fQ t*cG D l)=z0 at*;generalize ab (fQ (mV t (cH 0 D l))-fQ t*fQ (cH 0 D l))=z1 at*;generalize ab (fQ t*fQ (cH 0 D l)-fQ t*cG D l)=z2 at*;generalize ab (fQ (cH 0 D l)-cG D l)=z3 at*;generalize ab (fQ t*fQ (cH 0 D l))=z4 at*;generalize ab (fQ (cH 0 D l))=z5 at*;generalize ab (cG D l)=z6 at*;generalize gz l=Y at*;generalize p2 (-1075)=η at*
 grind
theorem jx:fQ 4607182418800017408=1:=by
 have h:fS 4607182418800017408=false:=by decide
 have l:fR 4607182418800017408=4607182418800017408:=by decide
 obtain⟨K,F⟩:∃K:Nat,K=1022:=⟨_,rfl⟩;have t:rv 4607182418800017408=4503599627370496*2^K:=by
  have:=PJ 4607182418800017408 (by decide);rw[this,show gM 4607182418800017408=4503599627370496 by decide,show 4607182418800017408/4503599627370496-1=K by omega]
 rw[dD,h,if_neg (by decide),l,t,Rat.natCast_mul,<-cN];have e:p2 ((K:Nat):Int)=4503599627370496*p2 970:=by
  rw[show((K:Nat):Int)=970+52 by omega,A6]
 have D:4503599627370496*(4503599627370496*p2 970)=p2 1074:=by
  rw[<-A6,<-A6];rfl
 have k:((4503599627370496:Nat):Rat)=4503599627370496:=rfl;rw[k,e,D,Rat.mul_comm];exact rk 1074
theorem wJ{l x:Rat}(h:l<=5)(t:0<=x):l*x<=5*x:=by
 have:=Rat.mul_le_mul_of_nonneg_left h t
 grind
end Go.Proofs.YtcbcmlaogehimaaGreatDoor
