/- Part 25 of the texts. -/
import Derived.Test.YtmpkkhackbpflaaGreatDoorPartg24
namespace Go.Proofs.YtmpkkhackbpflaaGreatDoor
open Go.RowKit
theorem pP(e:Int)(h:-975≤e):1267650600228229401496703205376*p2 (-1075)≤p2 e:=by
 have d:=aA h
 have l:p2 (-975)=1267650600228229401496703205376*p2 (-1075):=by
  rw[show(-975:Int)=((100:Nat):Int)+-1075 by rfl,cQ,cR]
  rfl
 rw[←l]
 exact d
theorem pQ(a b:Nat)(l:ah a=true)(t:ah b=true)(h:ab (fQ a*fQ b)<p2 1023):
  ah (mV a b)=true∧9007199254740992*ab (fQ (mV a b)-fQ a*fQ b)≤ab (fQ a*fQ b)+9007199254740992*p2 (-1075):=by
 have z:=s6 a b l t h
 have d:p2 (-1074)=2*p2 (-1075):=by rw[show(-1074:Int)= -1075+1 by rfl,bR]
 have D:=aw (-1075)
 have F:=bK (fQ a*fQ b)
 refine⟨z,?_⟩
 rcases sZ a b l t z with e|e
 ·grind
 ·have:=e.2
  rw[d]at this
  grind
theorem zv(a b:Nat)(J:a<18446744073709551616)(F:b<18446744073709551616)(G:ah a=true)(d:ah b=true)(H:fK a≠0)(l:fK b≠0)(h:ab (fQ a)≤1024*ab (fQ b)):ah (dV a b)=true:=by
 obtain⟨V,Y⟩:=pO a b J F G d H l
 have L:=jv b F d l
 have M:=aw (eX b)
 have N:0≤xE (qS a b) (fX a-fX b-181):=Rat.mul_nonneg Rat.natCast_nonneg (Rat.le_of_lt (aw _))
 have t:xE (qS a b) (fX a-fX b-181)<p2 1023:=by
  have T:(2048:Rat)≤p2 1023:=by
   have h:=aA (show(11:Int)≤1023 by decide)
   have U:p2 11=2048:=by rw[show(11:Int)=((11:Nat):Int) by rfl,cR];rfl
   grind
  generalize xE (qS a b) (fX a-fX b-181)=X at*
  rcases Rat.le_total (a:=2048) (b:=X)with g|g
  ·exfalso
   have z:=Rat.mul_le_mul_of_nonneg_left g (show 0≤ab (fQ b) by grind)
   have:=bK (fQ a)
   generalize ab (fQ a)=A at*
   have D:ab (fQ b)*X=X*ab (fQ b):=Rat.mul_comm _ _
   rw[D]at z
   generalize X*ab (fQ b)=Q at*
   grind
  ·rcases Rat.le_total (a:=X) (b:=2047)with I|I
   ·grind
   ·exfalso
    have z:=Rat.mul_le_mul_of_nonneg_left I (show 0≤ab (fQ b) by grind)
    have:=bK (fQ a)
    generalize ab (fQ a)=A at*
    have D:ab (fQ b)*X=X*ab (fQ b):=Rat.mul_comm _ _
    rw[D]at z
    generalize X*ab (fQ b)=Q at*
    grind
 have:=il _ _ t
 have O:qV a b≤9218868437227405312:=di _ _
 exact(cF _).2.2.2 (by rw[(px a b G d H l).1,gu _ _ (by omega)];exact this)
theorem D4(a b:Nat)(d:a<18446744073709551616)(l:b<18446744073709551616)(t:ah a=true)(D:ah b=true)(F:fK a≠0)(G:fK b≠0)(h:ab (fQ a)≤1024*ab (fQ b))
  (I:1267650600228229401496703205376*(p2 (-1075)*ab (fQ b))≤ab (fQ a)):
  ah (dV a b)=true∧9007199254740992*ab (fQ (dV a b)*fQ b-fQ a)≤2*ab (fQ a):=by
 have H:=zv a b d l t D F G h
 refine⟨H,?_⟩
 have J:=bK (fQ a)
 have L:=bK (fQ (dV a b)*fQ b-fQ a)
 rcases tc a b d l t D F G H with e|e
 ·grind
 ·have:=e.2
  generalize p2 (-1075)*ab (fQ b)=z at*
  grind
def eh:Nat→List Nat→List Nat→Nat
 |s,x::xs,y::ys=>eh (aV s (mV x y)) xs ys
 |s,_,_=>s
def dC:List Nat→List Nat→Rat
 |x::xs,y::ys=>fQ x*fQ y+dC xs ys
 |_,_=>0
def zw:List Nat→List Nat→Rat
 |x::xs,y::ys=>ab (fQ x*fQ y)+zw xs ys
 |_,_=>0
theorem MY:∀(h d:List Nat),0≤zw h d:=by
 intro h
 induction h with
 |nil=>intro d;exact Rat.le_refl
 |cons x h ih=>
  intro d
  cases d with
  |nil=>exact Rat.le_refl
  |cons y d=>
   have l:=ih d
   have t:=bK (fQ x*fQ y)
   show 0≤ab (fQ x*fQ y)+zw h d
   grind
theorem Kq:∀(h d:List Nat),ab (dC h d)≤zw h d:=by
 intro h
 induction h with
 |nil=>intro d;show ab 0≤0;unfold ab;grind
 |cons x h ih=>
  intro d
  cases d with
  |nil=>show ab 0≤0;unfold ab;grind
  |cons y d=>
   have l:=ih d
   have t:=DU (fQ x*fQ y) (dC h d)
   show ab (fQ x*fQ y+dC h d)≤ab (fQ x*fQ y)+zw h d
   grind
theorem D5(s x y:Nat)(T W H:Rat)(d:ah s=true)(t:ah x=true)(z:ah y=true)(D:0≤W)(U:W≤p2 1000)(F:9007199254740992*(4*p2 (-1075))≤W)
  (V:ab T+ab (fQ x*fQ y)≤W) (X:H≤192*W) (Y:9007199254740992*ab (fQ s-T)≤H):
  ah (aV s (mV x y))=true∧9007199254740992*ab (fQ (aV s (mV x y))-(T+fQ x*fQ y))≤H+3*W:=by
 have Z:=bK T;have G:=bK (fQ x*fQ y)
 have I:16*p2 1000≤p2 1023∧0<p2 1000:=by
  have J:=aA (show(1000+1+1+1+1:Int)≤1023 by decide)
  simp only[bR]at J
  exact⟨by grind,aw _⟩
 obtain⟨B1,B2⟩:=I
 obtain⟨n1,n2,n3⟩:=fm
 obtain⟨l,e1⟩:=pQ x y t z (by grind)
 have L:=au (fQ (mV x y)-fQ x*fQ y);have M:=au (fQ s-T);have N:=au T;have O:=au (fQ x*fQ y)
 have tt:=bU (x:=fQ s+fQ (mV x y)) (y:=ab (fQ s-T)+ab (fQ (mV x y)-fQ x*fQ y)+ab T+ab (fQ x*fQ y)) (by grind) (by grind)
 have h:=iD _ _ d l (by grind)
 have ea:=iC _ _ d l h
 refine⟨h,?_⟩
 have Q:=au (fQ (aV s (mV x y))-(fQ s+fQ (mV x y)))
 have ll:=bU (x:=fQ (aV s (mV x y))-(T+fQ x*fQ y)) (y:=ab (fQ (aV s (mV x y))-(fQ s+fQ (mV x y)))+ab (fQ (mV x y)-fQ x*fQ y)+ab (fQ s-T)) (by grind) (by grind)
 clear L M N O Q
 generalize ab (fQ (aV s (mV x y))-(T+fQ x*fQ y))=z0 at*
 generalize ab (fQ (aV s (mV x y))-(fQ s+fQ (mV x y)))=z1 at*
 generalize ab (fQ (mV x y)-fQ x*fQ y)=z2 at*
 generalize ab (fQ s-T)=z3 at*
 generalize ab (fQ s+fQ (mV x y))=z4 at*
 generalize ab (fQ x*fQ y)=z5 at*
 generalize ab T=z6 at*
 generalize p2 (-1075)=η at*
 grind
theorem GS(W:Rat)(l:0≤W)(Q:W≤p2 1000)(G:9007199254740992*(4*p2 (-1075))≤W):∀(d h:List Nat) (s:Nat) (T H:Rat),(∀x∈d,ah x=true)→(∀y∈h,ah y=true)→ah s=true→
  ab T+zw d h≤W→H+3*((d.length:Rat)*W)≤192*W→9007199254740992*ab (fQ s-T)≤H→
  ah (eh s d h)=true∧9007199254740992*ab (fQ (eh s d h)-(T+dC d h))≤H+3*((d.length:Rat)*W):=by
 intro d
 induction d with
 |nil=>
  intro h s T H _ _ F _ _ M
  have t:eh s [] h=s:=by cases h<;>rfl
  have D:dC [] h=0:=by cases h<;>rfl
  have J:(([]:List Nat).length:Rat)=0:=rfl
  rw[t,D,J,Rat.add_zero]
  exact⟨F,by grind⟩
 |cons x d ih=>
  intro h s T H N O F Z hH M
  have J:((x::d).length:Rat)=(d.length:Rat)+1:=by rw[List.length_cons,Rat.natCast_add];rfl
  have l0:0≤(d.length:Rat)*W:=Rat.mul_nonneg Rat.natCast_nonneg l
  have L:((x::d).length:Rat)*W=(d.length:Rat)*W+W:=by rw[J];grind
  cases h with
  |nil=>
   have t:eh s (x::d) []=s:=rfl
   have D:dC (x::d) []=0:=rfl
   rw[t,D,L,Rat.add_zero]
   exact⟨F,by grind⟩
  |cons y h=>
   have t:eh s (x::d) (y::h)=eh (aV s (mV x y)) d h:=rfl
   have D:dC (x::d) (y::h)=fQ x*fQ y+dC d h:=rfl
   have U:zw (x::d) (y::h)=ab (fQ x*fQ y)+zw d h:=rfl
   have d0:=MY d h
   rw[U]at Z
   rw[L]at hH⊢
   obtain⟨V,X⟩:=D5 s x y T W H F (N x List.mem_cons_self) (O y List.mem_cons_self) l Q G (by grind) (by grind) M
   have ht:=DU T (fQ x*fQ y)
   obtain⟨Y,i2⟩:=ih h (aV s (mV x y)) (T+fQ x*fQ y) (H+3*W) (fun z I=>N z (List.mem_cons_of_mem _ I)) (fun z I=>O z (List.mem_cons_of_mem _ I)) V (by grind) (by grind) X
   rw[t,D]
   refine⟨Y,?_⟩
   rw[show T+(fQ x*fQ y+dC d h)=T+fQ x*fQ y+dC d h by grind]
   grind
theorem D6(W:Rat)(d h:List Nat)(D:d.length≤64)(F:W≤p2 1000)(t:9007199254740992*(4*p2 (-1075))≤W)(G:∀x∈d,ah x=true)(H:∀y∈h,ah y=true)(O:zw d h≤W):
  ah (eh 0 d h)=true∧9007199254740992*ab (fQ (eh 0 d h)-dC d h)≤3*((d.length:Rat)*W):=by
 have Q:=aw (-1075)
 have l:0≤W:=by grind
 have I:fQ 0=0:=bu 0 (by decide)
 have z:ab 0=0:=by unfold ab;grind
 have J:(d.length:Rat)≤64:=Rat.natCast_le_natCast.2 D
 have L:=Rat.mul_nonneg (show 0≤64-(d.length:Rat) by grind) l
 obtain⟨M,N⟩:=GS W l F t d h 0 0 0 G H (by decide) (by rw[z];grind) (by grind) (by rw[I,show(0:Rat)-0=0 by grind,z];grind)
 refine⟨M,?_⟩
 rw[Rat.zero_add]at N
 grind
def mT:List Nat→Rat
 | []=>0
 |x::xs=>ab (fQ x)+mT xs
theorem zA(d:List Nat):0≤mT d:=by
 induction d with
 |nil=>exact Rat.le_refl
 |cons x d ih=>
  have:=bK (fQ x)
  unfold mT
  grind
theorem bw(d:List Nat):0≤aJ d:=by
 induction d with
 |nil=>exact Rat.le_refl
 |cons x d ih=>
  have:=al (fQ x)
  unfold aJ
  grind
theorem Kr:∀(d:List Nat),mT d*mT d≤(d.length:Rat)*aJ d:=by
 intro d
 induction d with
 |nil=>
  have l:mT []=0:=rfl
  have t:(([]:List Nat).length:Rat)=0:=rfl
  rw[l,t];grind
 |cons x d ih=>
  have l:mT (x::d)=ab (fQ x)+mT d:=rfl
  have G:aJ (x::d)=fQ x*fQ x+aJ d:=rfl
  have t:((x::d).length:Rat)=(d.length:Rat)+1:=by rw[List.length_cons,Rat.natCast_add];rfl
  have z:=al (fQ x)
  have D:ab (fQ x)*ab (fQ x)=fQ x*fQ x:=by rw[←aK];exact aQ z
  have O:=bw d
  have T:=zA d
  have U:(0:Rat)≤(d.length:Rat):=Rat.natCast_nonneg
  rw[l,G,t]
  by_cases H:d.length=0
  ·have I:d= []:=List.length_eq_zero_iff.1 H
   subst I
   have J:mT []=0:=rfl
   have F:aJ []=0:=rfl
   have L:(([]:List Nat).length:Rat)=0:=rfl
   rw[J,F,L]
   grind
  ·have M:(0:Rat)<(d.length:Rat):=Rat.natCast_pos.2 (by omega)
   refine Rat.le_of_mul_le_mul_left (c:=(d.length:Rat)) ?_ M
   have h:=al ((d.length:Rat)*ab (fQ x)-mT d)
   have F:=Rat.mul_le_mul_of_nonneg_left ih (show 0≤(d.length:Rat)+1 by grind)
   generalize (d.length:Rat)=N at*
   generalize ab (fQ x)=p at*
   generalize mT d=Y at*
   generalize aJ d=Q at*
   rw[←D]
   clear D z
   grind
theorem xA(a b R t g:Rat)(O:0≤R)(d:0<ab b)(F:ab (a-b)=ab a+ab b)(Q:9007199254740992*ab (b*b-(a*a+R))≤135*(a*a+R))
  (G:9007199254740992*ab (g-(b-a))≤ab (b-a)) (T:9007199254740992*ab (t*b-g)≤2*ab g):
  9007199254740992*ab (t*b+(a-b))≤4*ab (a-b)∧4503599627370496*ab a≤4503599627370496*ab b+70*ab b:=by
 obtain⟨D,l⟩:∃D,a-b=D:=⟨_,rfl⟩
 have H:ab (b-a)=ab D:=by rw[←l];exact pI _ _
 rw[H,show b-a= -D by grind]at G
 rw[l]at F⊢
 have U:=au (g- -D);have V:=au (t*b-g);have X:=au D;have Y:=au g;have Z:=bK D;have I:=bK a
 constructor
 ·have gg:=bU (x:=g) (y:=ab (g- -D)+ab D) (by grind) (by grind)
  refine Rat.le_trans (Rat.mul_le_mul_of_nonneg_left (bU (y:=ab (t*b-g)+ab (g- -D)) (by grind) (by grind)) (by decide)) ?_
  grind
 ·have J:=al a;have L:=al b
  have ea:ab a*ab a=a*a:=by rw[←aK];exact aQ J
  have M:ab b*ab b=b*b:=by rw[←aK];exact aQ L
  have l5:=au (b*b-(a*a+R))
  rcases Rat.le_total (a:=4503599627370496*ab a) (b:=4503599627370496*ab b+70*ab b)with h|h
  ·exact h
  ·exfalso
   have m1:=Rat.mul_nonneg (show 0≤4503599627370496*ab a-(4503599627370496*ab b+70*ab b) by grind) I
   have m2:=Rat.mul_nonneg (show 0≤4503599627370496*ab a-(4503599627370496*ab b+70*ab b) by grind) (show 0≤ab b by grind)
   have N:=Rat.mul_pos d d
   rw[M]at N
   generalize ab (b*b-(a*a+R))=z at*
   grind
theorem iY{x y:Rat}(h:ab x≤1):ab (x*y)≤ab y:=by
 rw[aK]
 have:=Rat.mul_le_mul_of_nonneg_left h (bK y)
 grind
theorem mv(a:Nat)(d:a<18446744073709551616):fQ (fN a)= -fQ a:=by
 unfold fQ
 rw[MG a d,Rat.intCast_neg,Rat.neg_mul]
theorem zB:∀(h:List Nat) (x:Nat),x∈h→fQ x*fQ x≤aJ h:=by
 intro h
 induction h with
 |nil=>intro x d;cases d
 |cons y ys ih=>
  intro x d
  have l:=bw ys
  have t:=al (fQ y)
  have e:aJ (y::ys)=fQ y*fQ y+aJ ys:=rfl
  rw[e]
  rcases List.mem_cons.1 d with rfl|d
  ·grind
  ·have:=ih x d
   grind
theorem mw(B:Rat):∀(d:List Nat),(∀x∈d,ab (fQ x)≤B)→aJ d≤(d.length:Rat)*(B*B):=by
 intro d
 induction d with
 |nil=>
  intro _
  have e:aJ []=0:=rfl
  have t:(([]:List Nat).length:Rat)=0:=rfl
  rw[e,t]
  grind
 |cons y ys ih=>
  intro h
  have D:=ih (fun x z=>h x (List.mem_cons_of_mem _ z))
  have F:=h y List.mem_cons_self
  have l:=au (fQ y)
  have m:=Rat.mul_nonneg (show 0≤B-fQ y by grind) (show 0≤B+fQ y by grind)
  have e:aJ (y::ys)=fQ y*fQ y+aJ ys:=rfl
  have t:((y::ys).length:Rat)=(ys.length:Rat)+1:=by rw[List.length_cons,Rat.natCast_add];rfl
  rw[e,t]
  grind
theorem bW{x y:Rat}(d:0≤y)(h:x*x≤y*y):x≤y:=by
 rcases Rat.le_total (a:=x) (b:=y)with g|g
 ·exact g
 ·by_cases e:x=y
  ·rw[e];exact Rat.le_refl
  ·have m:=Rat.mul_pos (show 0<x-y by grind) (show 0<x+y by grind)
   grind
def sm:Nat→(Nat→Rat)→Rat
 |0,_=>0
 |n+1,f=>sm n f+f n
theorem Ks(n:Nat)(f g:Nat→Rat):sm n (fun i=>f i+g i)=sm n f+sm n g:=by
 induction n with
 |zero=>show(0:Rat)=0+0;grind
 |succ n ih=>show sm n _+(f n+g n)=sm n f+f n+(sm n g+g n);rw[ih];grind
theorem Kt(n:Nat)(c:Rat)(f:Nat→Rat):sm n (fun i=>c*f i)=c*sm n f:=by
 induction n with
 |zero=>show(0:Rat)=c*0;grind
 |succ n ih=>show sm n _+c*f n=c*(sm n f+f n);rw[ih];grind
theorem gI{n:Nat}{f g:Nat→Rat}(h:∀i,i<n→f i=g i):sm n f=sm n g:=by
 induction n with
 |zero=>rfl
 |succ n ih=>show sm n f+f n=sm n g+g n;rw[ih (fun i d=>h i (by omega)),h n (by omega)]
theorem rN{n:Nat}{f:Nat→Rat}(h:∀i,i<n→0≤f i):0≤sm n f:=by
 induction n with
 |zero=>exact Rat.le_refl
 |succ n ih=>
  have l:=ih (fun i d=>h i (by omega))
  have t:=h n (by omega)
  show 0≤sm n f+f n
  grind
theorem MZ{n:Nat}{f g:Nat→Rat}(h:∀i,i<n→f i≤g i):sm n f≤sm n g:=by
 induction n with
 |zero=>exact Rat.le_refl
 |succ n ih=>
  have l:=ih (fun i d=>h i (by omega))
  have t:=h n (by omega)
  show sm n f+f n≤sm n g+g n
  grind
theorem Ku{n:Nat}{f:Nat→Rat}(h:∀i,i<n→0≤f i){k:Nat}(l:k<n):f k≤sm n f:=by
 induction n with
 |zero=>omega
 |succ n ih=>
  have t:=h n (by omega)
  have z:0≤sm n f:=rN (fun i d=>h i (by omega))
  show f k≤sm n f+f n
  by_cases e:k=n
  ·subst e;grind
  ·have:=ih (fun i d=>h i (by omega)) (by omega)
   grind
def dt(n:Nat)(x y:Nat→Rat):Rat:=sm n (fun i=>x i*y i)
theorem jw(n:Nat)(x y:Nat→Rat):dt n x y=dt n y x:=gI (fun _ _=>Rat.mul_comm _ _)
theorem xB(n:Nat)(x y z:Nat→Rat):dt n (fun i=>x i+y i) z=dt n x z+dt n y z:=by
 unfold dt
 rw[←Ks]
 exact gI (fun i _=>by grind)
theorem pR(n:Nat)(c:Rat)(x z:Nat→Rat):dt n (fun i=>c*x i) z=c*dt n x z:=by
 unfold dt
 rw[←Kt]
 exact gI (fun i _=>by grind)
theorem kp(n:Nat)(x y z:Nat→Rat):dt n z (fun i=>x i+y i)=dt n z x+dt n z y:=by
 rw[jw,xB,jw n x,jw n y]
theorem my(n:Nat)(c:Rat)(x z:Nat→Rat):dt n z (fun i=>c*x i)=c*dt n z x:=by
 rw[jw,pR,jw n x]
theorem kN(n:Nat)(x:Nat→Rat):0≤dt n x x:=rN (fun i _=>al (x i))
theorem dp{n:Nat}{x y d l:Nat→Rat}(h:∀i,i<n→x i=d i)(k:∀i,i<n→y i=l i):dt n x y=dt n d l:=
 gI (fun i t=>by rw[h i t,k i t])
theorem vg(n:Nat)(x y:Nat→Rat):dt n x y*dt n x y≤dt n x x*dt n y y:=by
 induction n with
 |zero=>show(0:Rat)*0≤0*0;exact Rat.le_refl
 |succ n ih=>
  have l:=kN n x
  have t:=kN n y
  have z:dt (n+1) x y=dt n x y+x n*y n:=rfl
  have D:dt (n+1) x x=dt n x x+x n*x n:=rfl
  have F:dt (n+1) y y=dt n y y+y n*y n:=rfl
  rw[z,D,F]
  generalize dt n x y=S at*
  generalize dt n x x=X at*
  generalize dt n y y=Y at*
  generalize x n=a at*
  generalize y n=b at*
  have d:=al a
  have h:=al b
  have G:0≤X*(b*b)+Y*(a*a):=by
   have:=Rat.mul_nonneg l h
   have:=Rat.mul_nonneg t d
   grind
  have H:(2*S*(a*b))*(2*S*(a*b))≤(X*(b*b)+Y*(a*a))*(X*(b*b)+Y*(a*a)):=by
   have I:=Rat.mul_nonneg (show 0≤X*Y-S*S by grind) (Rat.mul_nonneg d h)
   have J:=al (X*(b*b)-Y*(a*a))
   grind
  have L:=bW G H
  grind
def Bd(n:Nat)(x:Nat→Rat)(a:Rat):Prop:=0≤a∧dt n x x≤a*a
theorem Bd.dot{n:Nat}{x y:Nat→Rat}{a b:Rat}(d:Bd n x a)(l:Bd n y b):ab (dt n x y)≤a*b:=by
 have t:=Rat.mul_nonneg d.1 l.1
 have c:=vg n x y
 have z:=kN n x
 have D:=Rat.mul_nonneg (show 0≤a*a-dt n x x by have:=d.2;grind) (kN n y)
 have F:=Rat.mul_nonneg (al a) (show 0≤b*b-dt n y y by have:=l.2;grind)
 have h:ab (dt n x y)*ab (dt n x y)≤(a*b)*(a*b):=by
  rw[←aK,aQ (al _)]
  grind
 exact bW t h
theorem Bd.add{n:Nat}{x y:Nat→Rat}{a b:Rat}(h:Bd n x a)(t:Bd n y b):Bd n (fun i=>x i+y i) (a+b):=by
 have z:=h.1
 have D:=t.1
 refine⟨by grind,?_⟩
 have d:=h.dot t
 have l:=au (dt n x y)
 rw[xB,kp,kp,jw n y x]
 have:=h.2
 have:=t.2
 grind
theorem Bd.mul{n:Nat}{x:Nat→Rat}{a:Rat}(d:Bd n x a)(c:Rat):Bd n (fun i=>c*x i) (ab c*a):=by
 refine⟨Rat.mul_nonneg (bK c) d.1,?_⟩
 rw[pR,my]
 have e:ab c*ab c=c*c:=by rw[←aK];exact aQ (al c)
 have k:=Rat.mul_nonneg (al c) (show 0≤a*a-dt n x x by have:=d.2;grind)
 rw[show ab c*a*(ab c*a)=ab c*ab c*(a*a) by grind,e]
 grind
theorem Bd.mono{n:Nat}{x:Nat→Rat}{a b:Rat}(d:Bd n x a)(h:a≤b):Bd n x b:=by
 have l:=d.1
 refine⟨by grind,?_⟩
 have k:=Rat.mul_nonneg (show 0≤b-a by grind) (show 0≤b+a by grind)
 have:=d.2
 grind
theorem Bd.congr{n:Nat}{x y:Nat→Rat}{a:Rat}(d:Bd n x a)(h:∀i,i<n→x i=y i):Bd n y a:=
 ⟨d.1,by rw[←dp h h];exact d.2⟩
theorem Bd.nought(n:Nat):Bd n (fun _=>0) 0:=by
 refine⟨Rat.le_refl,?_⟩
 have:dt n (fun _=>0) (fun _=>0)=0*dt n (fun _=>0) (fun _=>0):=by
  rw[←pR]
  exact dp (fun i _=>by grind) (fun i _=>rfl)
 rw[this]
 grind
theorem Bd.at{n:Nat}{x:Nat→Rat}{a:Rat}(d:Bd n x a){k:Nat}(l:k<n):ab (x k)≤a:=by
 have h:=Ku (f:=fun i=>x i*x i) (fun i _=>al (x i)) l
 refine bW d.1 ?_
 rw[←aK,aQ (al _)]
 have:=d.2
 unfold dt at this
 grind
def dE(n:Nat)(v:Nat→Rat)(t:Rat)(y:Nat→Rat):Nat→Rat:=fun i=>y i+(-(t*dt n v y))*v i
theorem zC(n:Nat)(v:Nat→Rat)(t:Rat)(y z:Nat→Rat):dt n (dE n v t y) (dE n v t z)=dt n y z+t*(t*dt n v v-2)*(dt n v y*dt n v z):=by
 unfold dE
 rw[xB,kp,kp,pR,pR,my,my,jw n y v]
 grind
theorem zD(n:Nat)(v:Nat→Rat)(t:Rat)(y z:Nat→Rat)(i:Nat):dE n v t (fun i=>y i+z i) i=dE n v t y i+dE n v t z i:=by
 unfold dE
 rw[kp]
 grind
theorem zE(n:Nat)(v:Nat→Rat)(t c:Rat)(y:Nat→Rat)(i:Nat):dE n v t (fun i=>c*y i) i=c*dE n v t y i:=by
 unfold dE
 rw[my]
 grind
structure zF (n:Nat) (v:Nat→Rat) (t ε:Rat):Prop where
 eps:0≤ε
 one:ε≤1
 two:ab (t*dt n v v-2)≤ε
 pos:0≤t
theorem zF.size{n:Nat}{v:Nat→Rat}{t ε:Rat}(h:zF n v t ε):t*dt n v v≤3:=by
 have:=au (t*dt n v v-2)
 have:=h.two
 have:=h.one
 grind
theorem zF.near{n:Nat}{v:Nat→Rat}{t ε a b:Rat}{y z:Nat→Rat}(h:zF n v t ε)(D:Bd n y a)(F:Bd n z b):ab (t*(t*dt n v v-2)*(dt n v y*dt n v z))≤3*ε*(a*b):=by
 have I:=vg n v y
 have J:=vg n v z
 have l:=kN n v
 have L:=h.size
 have G:=D.1
 have H:=F.1
 have d:=Rat.mul_nonneg G H
 --(v y) (v z) is at most|v|^2 a b
 have k:ab (dt n v y*dt n v z)≤dt n v v*(a*b):=by
  refine bW (Rat.mul_nonneg l d) ?_
  rw[←aK,aQ (al _)]
  have M:dt n v y*dt n v y≤dt n v v*(a*a):=by
   have:=Rat.mul_nonneg l (show 0≤a*a-dt n y y by have:=D.2;grind)
   grind
  have p2:dt n v z*dt n v z≤dt n v v*(b*b):=by
   have:=Rat.mul_nonneg l (show 0≤b*b-dt n z z by have:=F.2;grind)
   grind
  have N:=Rat.mul_nonneg (show 0≤dt n v v*(a*a)-dt n v y*dt n v y by grind) (al (dt n v z))
  have O:=Rat.mul_nonneg (Rat.mul_nonneg l (al a)) (show 0≤dt n v v*(b*b)-dt n v z*dt n v z by grind)
  grind
 have e:ab (t*(t*dt n v v-2)*(dt n v y*dt n v z))=t*(ab (t*dt n v v-2)*ab (dt n v y*dt n v z)):=by
  rw[aK,aK,aQ h.pos]
  grind
 rw[e]
 have Q:=Rat.mul_nonneg (show 0≤ε-ab (t*dt n v v-2) by have:=h.two;grind) (bK (dt n v y*dt n v z))
 have T:=Rat.mul_nonneg h.eps (show 0≤dt n v v*(a*b)-ab (dt n v y*dt n v z) by grind)
 have U:=Rat.mul_nonneg h.pos (show 0≤ε*(dt n v v*(a*b))-ab (t*dt n v v-2)*ab (dt n v y*dt n v z) by grind)
 have V:=Rat.mul_nonneg (Rat.mul_nonneg h.eps d) (show 0≤3-t*dt n v v by grind)
 grind
end Go.Proofs.YtmpkkhackbpflaaGreatDoor
