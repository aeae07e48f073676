/- Part 28 of the texts. -/
import Derived.Test.YtmpkkhackbpflaaGreatDoorPartg27
namespace Go.Proofs.YtmpkkhackbpflaaGreatDoor
open Go.RowKit
theorem xK(d μ κ:Rat)(H:0<μ)(I:κ≤μ)(O:1000000*μ≤1000001*ab d):∀(l h:List Nat),gJ d κ l h→(∀x∈h,1000000*ab (fQ x)≤1000001*μ)→∀v∈l,1000*ab (fQ v)≤1001:=by
 intro l
 induction l with
 |nil=>intro h _ _ v D;cases D
 |cons w l ih=>
  intro h F G v D
  cases h with
  |nil=>exact absurd F (by unfold gJ;exact id)
  |cons x h=>
   unfold gJ at F
   rcases List.mem_cons.1 D with rfl|D
   ·have Q:=F.1
    have T:=G x List.mem_cons_self
    have L:=au (fQ v*d-fQ x);have M:=au (fQ x)
    have t:=bU (x:=fQ v*d) (y:=ab (fQ v*d-fQ x)+ab (fQ x)) (by grind) (by grind)
    rw[aK]at t
    rcases Rat.le_total (a:=1000*ab (fQ v)) (b:=1001)with g|g
    ·exact g
    ·exfalso
     have N:0<ab d:=by grind
     have m:=Rat.mul_le_mul_of_nonneg_left g (Rat.le_of_lt N)
     rw[show ab d*(1000*ab (fQ v))=1000*(ab (fQ v)*ab d) by grind]at m
     generalize ab (fQ v)*ab d=z at*
     generalize ab (fQ v*d-fQ x)=z1 at*
     clear L M
     grind
   ·exact ih h F.2 (fun y J=>G y (List.mem_cons_of_mem _ J)) v D
theorem vr(d:Nat)(Y:Rat)(l t:List Nat)(I:l.length≤6)(J:ah d=true)(z:1000*ab (fQ d)≤2001)(G:∀v∈l,ah v=true∧1000*ab (fQ v)≤1001)(L:∀y∈t,ah y=true)
  (D:mT t≤Y) (hY:Y≤p2 900) (M:1267650600228229401496703205376*p2 (-1075)≤Y):
  ah (mV d (eh 0 l t))=true∧100*ab (fQ d*dC l t)≤201*Y∧9007199254740992*ab (fQ (mV d (eh 0 l t))-fQ d*dC l t)≤39*Y∧1000*ab (dC l t)≤1001*Y:=by
 have hp:=aw (-1075)
 have N:=zA t
 have Y0:0≤Y:=by grind
 have O:16*p2 900≤p2 1023∧0<p2 900∧16*p2 900≤p2 1000:=by
  have Q:=aA (show(900+1+1+1+1:Int)≤1023 by decide)
  have T:=aA (show(900+1+1+1+1:Int)≤1000 by decide)
  simp only[bR]at Q T
  exact⟨by grind,aw _,by grind⟩
 have F:=M4 l t (fun v h=>(G v h).2)
 have U:=Kq l t
 have V:1000*ab (dC l t)≤1001*Y:=by grind
 obtain⟨W,hW⟩:∃W,1000*W=1001*Y:=⟨1001*Y/1000,by grind⟩
 obtain⟨f1,e1⟩:=D6 W l t (by omega) (by grind) (by grind) (fun v h=>(G v h).1) L (by grind)
 have X:(l.length:Rat)≤6:=Rat.natCast_le_natCast.2 I
 have e2:9007199254740992*ab (fQ (eh 0 l t)-dC l t)≤18*W:=by
  have:=Rat.mul_nonneg (show 0≤6-(l.length:Rat) by grind) (show 0≤W by grind)
  grind
 have Z:=au (fQ (eh 0 l t)-dC l t);have l2:=au (dC l t)
 have hw:=bU (x:=fQ (eh 0 l t)) (y:=ab (fQ (eh 0 l t)-dC l t)+ab (dC l t)) (by grind) (by grind)
 have t0:=bK (fQ d)
 have w0:=bK (fQ (eh 0 l t))
 have m1:=Rat.mul_le_mul_of_nonneg_left z w0
 have m2:=Rat.mul_le_mul_of_nonneg_left z (bK (dC l t))
 have m3:=Rat.mul_le_mul_of_nonneg_left z (bK (fQ (eh 0 l t)-dC l t))
 have n1:1000*ab (fQ d*fQ (eh 0 l t))≤2001*ab (fQ (eh 0 l t)):=by rw[aK];grind
 have n2:1000*ab (fQ d*dC l t)≤2001*ab (dC l t):=by rw[aK];grind
 have n3:1000*ab (fQ d*(fQ (eh 0 l t)-dC l t))≤2001*ab (fQ (eh 0 l t)-dC l t):=by rw[aK];grind
 obtain⟨f2,e3⟩:=pQ d (eh 0 l t) J f1 (by grind)
 refine⟨f2,by grind,?_,V⟩
 have l3:=au (fQ (mV d (eh 0 l t))-fQ d*fQ (eh 0 l t));have H:=au (fQ d*(fQ (eh 0 l t)-dC l t))
 have w:fQ d*(fQ (eh 0 l t)-dC l t)=fQ d*fQ (eh 0 l t)-fQ d*dC l t:=by grind
 rw[w]at H n3
 have aa:=bU (x:=fQ (mV d (eh 0 l t))-fQ d*dC l t) (y:=ab (fQ (mV d (eh 0 l t))-fQ d*fQ (eh 0 l t))+ab (fQ d*fQ (eh 0 l t)-fQ d*dC l t)) (by grind) (by grind)
 clear Z l2 l3 H m1 m2 m3 w e1
 generalize ab (fQ (mV d (eh 0 l t))-fQ d*dC l t)=z0 at*
 generalize ab (fQ (mV d (eh 0 l t))-fQ d*fQ (eh 0 l t))=z1 at*
 generalize ab (fQ d*fQ (eh 0 l t)-fQ d*dC l t)=z2 at*
 generalize ab (fQ (eh 0 l t)-dC l t)=z3 at*
 generalize ab (fQ d*fQ (eh 0 l t))=z4 at*
 generalize ab (fQ (eh 0 l t))=z5 at*
 generalize ab (dC l t)=z6 at*
 clear D N F
 generalize p2 (-1075)=η at*
 grind
theorem rP(d:Nat)(Y:Rat)(t l:List Nat)(J:t.length≤6)(z:t.length=l.length)(L:ah d=true)(M:1000*ab (fQ d)≤2001)(G:∀v∈t,ah v=true∧1000*ab (fQ v)≤1001)(H:∀y∈l,ah y=true)
  (D:mT l≤Y) (I:Y≤p2 900) (F:1267650600228229401496703205376*p2 (-1075)≤Y):
  dU (fQ d*dC t l) (46*Y) t l (mU (mV d (eh 0 t l)) t l):=by
 obtain⟨N,O,Q,T⟩:=vr d Y t l J L M G H D I F
 exact KD _ (fQ d*dC t l) Y N I F O Q t l z G (fun y h=>⟨H y h,Rat.le_trans (KG l y h) D⟩)
def fc(xs:List Nat)(i:Nat):Rat:=fQ (xs.getD i 0)
def vl(j:Nat)(xs:List Nat)(i:Nat):Rat:=if i<j then 0 else fc xs (i-j)
theorem ix:fQ 0=0:=bu 0 (by decide)
theorem mA:∀(n:Nat) (f:Nat→Rat),sm (n+1) f=f 0+sm n (fun i=>f (i+1)):=by
 intro n
 induction n with
 |zero=>intro f;show(0:Rat)+f 0=f 0+0;grind
 |succ n ih=>
  intro f
  show sm (n+1) f+f (n+1)=f 0+(sm n (fun i=>f (i+1))+f (n+1))
  rw[ih]
  grind
theorem vt(j:Nat)(f:Nat→Rat):∀n,sm (j+n) f=sm j f+sm n (fun i=>f (j+i)):=by
 intro n
 induction n with
 |zero=>show sm j f=sm j f+0;grind
 |succ n ih=>
  show sm (j+n) f+f (j+n)=sm j f+(sm n (fun i=>f (j+i))+f (j+n))
  rw[ih]
  grind
theorem k8:∀(n:Nat) (f:Nat→Rat),(∀i,i<n→f i=0)→sm n f=0:=by
 intro n
 induction n with
 |zero=>intro f _;rfl
 |succ n ih=>
  intro f h
  show sm n f+f n=0
  rw[ih f (fun i d=>h i (by omega)),h n (by omega)]
  grind
theorem Jp:∀(l d:List Nat),l.length=d.length→dt l.length (fc l) (fc d)=dC l d:=by
 intro l
 induction l with
 |nil=>
  intro d h
  have:d= []:=by cases d with|nil=>rfl|cons y d=>simp at h
  subst this
  rfl
 |cons v l ih=>
  intro d h
  cases d with
  |nil=>simp at h
  |cons y d=>
   have e:=ih d (by simpa using h)
   have t:dC (v::l) (y::d)=fQ v*fQ y+dC l d:=rfl
   rw[t,←e]
   show sm (l.length+1) _=_
   rw[mA]
   rfl
theorem k9:∀(d:List Nat),dt d.length (fc d) (fc d)=aJ d:=by
 intro d
 induction d with
 |nil=>rfl
 |cons x d ih=>
  have h:aJ (x::d)=fQ x*fQ x+aJ d:=rfl
  rw[h,←ih]
  show sm (d.length+1) _=_
  rw[mA]
  rfl
theorem vu(j n:Nat)(d:List Nat)(y:Nat→Rat):dt (j+n) (vl j d) y=dt n (fc d) (fun i=>y (j+i)):=by
 unfold dt
 rw[vt,k8 j _ (fun i h=>by unfold vl;rw[if_pos h];grind)]
 rw[show∀z:Rat,(0:Rat)+z=z from fun z=>by grind]
 exact gI (fun i _=>by
  show vl j d (j+i)*y (j+i)=fc d i*y (j+i)
  unfold vl
  rw[if_neg (by omega),show j+i-j=i by omega])
theorem zL(d:List Nat)(j i:Nat):fc d (j+i)=fc (d.drop j) i:=by
 unfold fc
 rw[List.getD_eq_getElem?_getD,List.getD_eq_getElem?_getD,List.getElem?_drop]
theorem zM(d l:List Nat)(i:Nat)(h:i<d.length):fc (d++l) i=fc d i:=by
 unfold fc
 rw[List.getD_eq_getElem?_getD,List.getD_eq_getElem?_getD,List.getElem?_append_left h]
theorem vw(d h:List Nat)(i:Nat):fc (d++h) (d.length+i)=fc h i:=by
 unfold fc
 rw[List.getD_eq_getElem?_getD,List.getD_eq_getElem?_getD,List.getElem?_append_right (by omega),show d.length+i-d.length=i by omega]
theorem zN(d:List Nat)(j i:Nat)(h:i<j):fc (d.take j) i=fc d i:=by
 unfold fc
 rw[List.getD_eq_getElem?_getD,List.getD_eq_getElem?_getD,List.getElem?_take_of_lt h]
theorem zO(c E:Rat):∀(t d l:List Nat),dU c E t d l→l.length=d.length∧∀i,i<d.length→9007199254740992*ab (fc l i-(fc d i-c*fc t i))≤E:=by
 intro t
 induction t with
 |nil=>
  intro d l h
  cases d with
  |cons y d=>exact absurd h (by unfold dU;exact id)
  |nil=>
   cases l with
   |cons u l=>exact absurd h (by unfold dU;exact id)
   |nil=>exact⟨rfl,fun i z=>absurd z (by simp)⟩
 |cons v t ih=>
  intro d l h
  cases d with
  |nil=>exact absurd h (by unfold dU;exact id)
  |cons y d=>
   cases l with
   |nil=>exact absurd h (by unfold dU;exact id)
   |cons u l=>
    unfold dU at h
    obtain⟨⟨_,D⟩,F⟩:=h
    obtain⟨G,H⟩:=ih d l F
    refine⟨by simp[G],fun i z=>?_⟩
    cases i with
    |zero=>exact D
    |succ i=>exact H i (by simpa using z)
theorem Ba(n:Nat)(d:n≤6)(x:Nat→Rat)(e:Rat)(F:0≤e)(h:∀i,i<n→ab (x i)≤e):Bd n x (5/2*e):=by
 refine⟨by grind,?_⟩
 have k:∀m,m≤n→dt m x x≤(m:Rat)*(e*e):=by
  intro m
  induction m with
  |zero=>intro _;show(0:Rat)≤((0:Nat):Rat)*_;have:((0:Nat):Rat)=0:=rfl;rw[this];grind
  |succ m ih=>
   intro O
   have G:=ih (by omega)
   have l:dt (m+1) x x=dt m x x+x m*x m:=rfl
   have t:((m+1:Nat):Rat)=(m:Rat)+1:=by rw[Rat.natCast_add];rfl
   have q:x m*x m≤e*e:=by
    have H:=h m (by omega)
    have I:=bK (x m)
    have z:x m*x m=ab (x m)*ab (x m):=by rw[←aK];exact(aQ (al _)).symm
    have J:=Rat.mul_nonneg (show 0≤e-ab (x m) by grind) (show 0≤e+ab (x m) by grind)
    rw[z]
    grind
   rw[l,t]
   grind
 have L:=k n (Nat.le_refl _)
 have D:(n:Rat)≤6:=Rat.natCast_le_natCast.2 d
 have M:=Rat.mul_nonneg (show 0≤6-(n:Rat) by grind) (al e)
 have N:=al e
 grind
theorem vx(j t:Nat)(Y:Rat)(l d:List Nat)(O:d.length≤6)(F:j+l.length=d.length)(Q:ah t=true)(T:1000*ab (fQ t)≤2001)(U:∀v∈l,ah v=true∧1000*ab (fQ v)≤1001)(V:∀y∈d,ah y=true)
  (I:mT (d.drop j)≤Y) (X:Y≤p2 900) (J:1267650600228229401496703205376*p2 (-1075)≤Y):
  Bd d.length (fun i=>fc (d.take j++mU (mV t (eh 0 l (d.drop j))) l (d.drop j)) i+(-1)*dE d.length (vl j l) (fQ t) (fc d) i) (115/9007199254740992*Y):=by
 have G:(d.drop j).length=l.length:=by rw[List.length_drop];omega
 have L:=rP t Y l (d.drop j) (by omega) G.symm Q T U (fun y h=>V y (List.mem_of_mem_drop h)) I X J
 generalize mU (mV t (eh 0 l (d.drop j))) l (d.drop j)=D at*
 obtain⟨l1,l2⟩:=zO _ _ l (d.drop j) D L
 have M:dt d.length (vl j l) (fc d)=dC l (d.drop j):=by
  rw[←F,vu,←Jp l (d.drop j) G.symm]
  exact dp (fun _ _=>rfl) (fun i _=>zL d j i)
 have hp:=aw (-1075)
 have b:=Ba d.length O (fun i=>fc (d.take j++D) i+(-1)*dE d.length (vl j l) (fQ t) (fc d) i) (46/9007199254740992*Y) (by grind) (fun i hi=>by
  have Z:(d.take j).length=j:=by rw[List.length_take];omega
  unfold dE
  rw[M]
  rcases Nat.lt_or_ge i j with g|g
  ·have H:=zM (d.take j) D i (by omega)
   rw[zN d j i g]at H
   have N:vl j l i=0:=by unfold vl;rw[if_pos g]
   rw[H,N,show fc d i+(-1)*(fc d i+-(fQ t*dC l (d.drop j))*0)=0 by grind]
   unfold ab
   grind
  ·obtain⟨k,rfl⟩:∃k,i=j+k:=⟨i-j,by omega⟩
   have H:=vw (d.take j) D k
   rw[Z]at H
   have N:vl j l (j+k)=fc l k:=by unfold vl;rw[if_neg (by omega),show j+k-j=k by omega]
   have e3:=zL d j k
   have h:=l2 k (by omega)
   rw[H,N,e3,show fc D k+(-1)*(fc (d.drop j) k+-(fQ t*dC l (d.drop j))*fc l k)=fc D k-(fc (d.drop j) k-fQ t*dC l (d.drop j)*fc l k) by grind]
   generalize ab (fc D k-(fc (d.drop j) k-fQ t*dC l (d.drop j)*fc l k))=z at*
   grind)
 exact b.mono (by grind)
theorem jW(a b:Nat)(D:ah a=true)(F:ah b=true)(h:fQ a*fQ b=0):ah (mV a b)=true∧fQ (mV a b)=0:=by
 have G:ab (0:Rat)=0:=by unfold ab;grind
 have H:=s6 a b D F (by rw[h,G];exact aw _)
 refine⟨H,?_⟩
 have e:=sZ a b D F H
 rw[h,G,show fQ (mV a b)-0=fQ (mV a b) by grind]at e
 rcases e with e|⟨_,e⟩
 ·have:=au (fQ (mV a b));have:=bK (fQ (mV a b));grind
 ·have d:=aw (-1074)
  unfold fQ at e⊢
  rw[aK,aQ (Rat.le_of_lt d)]at e
  obtain⟨z,I⟩:∃z:Int,fZ (mV a b)=z:=⟨_,rfl⟩
  rw[I]at e⊢
  rcases Int.lt_trichotomy z 0 with g|g|g
  ·exfalso
   have k:(z:Rat)≤((-1:Int):Rat):=Rat.intCast_le_intCast.2 (by omega)
   have t:((-1:Int):Rat)= -1:=rfl
   have l:=au (z:Rat)
   have m:=Rat.mul_le_mul_of_nonneg_left (show 1≤ab (z:Rat) by grind) (Rat.le_of_lt d)
   generalize p2 (-1074)=P at*
   grind
  ·rw[g]
   have t:((0:Int):Rat)=0:=rfl
   rw[t]
   grind
  ·exfalso
   have k:((1:Int):Rat)≤(z:Rat):=Rat.intCast_le_intCast.2 (by omega)
   have t:((1:Int):Rat)=1:=rfl
   have l:=au (z:Rat)
   have m:=Rat.mul_le_mul_of_nonneg_left (show 1≤ab (z:Rat) by grind) (Rat.le_of_lt d)
   generalize p2 (-1074)=P at*
   grind
theorem ol(a b:Nat)(d:ah a=true)(l:ah b=true)(h:fQ a+fQ b=0):ah (aV a b)=true∧fQ (aV a b)=0:=by
 have t:ab (0:Rat)=0:=by unfold ab;grind
 have z:=iD a b d l (by rw[h,t];exact aw _)
 refine⟨z,?_⟩
 have e:=iC a b d l z
 rw[h,t,show fQ (aV a b)-0=fQ (aV a b) by grind]at e
 have:=au (fQ (aV a b));have:=bK (fQ (aV a b));grind
theorem vy:∀(h d:List Nat) (s:Nat),ah s=true→fQ s=0→(∀v∈h,ah v=true)→(∀y∈d,ah y=true∧fQ y=0)→ah (eh s h d)=true∧fQ (eh s h d)=0:=by
 intro h
 induction h with
 |nil=>
  intro d s l t _ _
  have e:eh s [] d=s:=by cases d<;>rfl
  rw[e]
  exact⟨l,t⟩
 |cons v h ih=>
  intro d s l t D F
  cases d with
  |nil=>exact⟨l,t⟩
  |cons y d=>
   obtain⟨G,H⟩:=F y List.mem_cons_self
   obtain⟨I,J⟩:=jW v y (D v List.mem_cons_self) G (by rw[H];grind)
   obtain⟨L,M⟩:=ol s (mV v y) l I (by rw[t,J];grind)
   exact ih d _ L M (fun w z=>D w (List.mem_cons_of_mem _ z)) (fun w z=>F w (List.mem_cons_of_mem _ z))
theorem xL(t:Nat)(H:ah t=true)(I:fQ t=0):∀(l d:List Nat),l.length=d.length→(∀v∈l,ah v=true)→(∀y∈d,ah y=true∧fQ y=0)→∀E,0≤E→dU 0 E l d (mU t l d):=by
 intro l
 induction l with
 |nil=>
  intro d h _ _ E _
  cases d with
  |nil=>exact trivial
  |cons y d=>simp at h
 |cons v l ih=>
  intro d h F G E U
  cases d with
  |nil=>simp at h
  |cons y d=>
   obtain⟨M,D⟩:=G y List.mem_cons_self
   obtain⟨N,O⟩:=jW t v H (F v List.mem_cons_self) (by rw[I];grind)
   have pl:=kL t v
   have J:ah (fN (mV t v))=true:=by rw[gY _ pl];exact N
   have L:=mv _ pl
   obtain⟨Q,T⟩:=ol y (fN (mV t v)) M J (by rw[L,O,D];grind)
   show dU 0 E (v::l) (y::d) (aV y (fN (mV t v))::mU t l d)
   unfold dU
   refine⟨⟨Q,?_⟩,ih d (by simpa using h) (fun w z=>F w (List.mem_cons_of_mem _ z)) (fun w z=>G w (List.mem_cons_of_mem _ z)) E U⟩
   rw[T,D,show(0:Rat)-(0-0*fQ v)=0 by grind,show ab (0:Rat)=0 by unfold ab;grind]
   grind
theorem GY:∀(z l d:List Nat) (c E:Rat),dU c E z l d→∀u∈d,ah u=true:=by
 intro z
 induction z with
 |nil=>
  intro l d c E h u t
  cases l with
  |cons y l=>exact absurd h (by unfold dU;exact id)
  |nil=>
   cases d with
   |nil=>cases t
   |cons w d=>exact absurd h (by unfold dU;exact id)
 |cons v z ih=>
  intro l d c E h u t
  cases l with
  |nil=>exact absurd h (by unfold dU;exact id)
  |cons y l=>
   cases d with
   |nil=>cases t
   |cons w d=>
    unfold dU at h
    rcases List.mem_cons.1 t with rfl|t
    ·exact h.1.1
    ·exact ih l d c E h.2 u t
theorem Jq(d:List Nat)(j:Nat)(G:d.length≤6)(a:Rat)(l:Bd d.length (fc d) a):mT (d.drop j)≤5/2*a:=by
 have H:=l.1
 have t:=l.2
 rw[k9]at t
 have I:aJ (d.drop j)≤aJ d:=by
  have h:∀(zs:List Nat) (j:Nat),aJ (zs.drop j)≤aJ zs:=by
   intro zs
   induction zs with
   |nil=>intro j;rw[List.drop_nil];exact Rat.le_refl
   |cons z zs ih=>
    intro j
    cases j with
    |zero=>exact Rat.le_refl
    |succ j=>
     have i:=ih j
     have e:aJ (z::zs)=fQ z*fQ z+aJ zs:=rfl
     have q:=al (fQ z)
     rw[List.drop_succ_cons,e]
     grind
  exact h d j
 have q:=Kr (d.drop j)
 have D:=bw (d.drop j)
 have F:((d.drop j).length:Rat)≤6:=Rat.natCast_le_natCast.2 (show(d.drop j).length≤6 by rw[List.length_drop];omega)
 have m:=Rat.mul_nonneg (show 0≤6-((d.drop j).length:Rat) by grind) D
 refine bW (by grind) ?_
 have:=al a
 grind
theorem KH(j t:Nat)(d:List Nat)(n:Nat)(h:n=j+d.length)(z:8796093022208*ab (fQ t*aJ d-2)≤1)(l:0≤fQ t):zF n (vl j d) (fQ t) (1/8796093022208):=by
 have e:dt n (vl j d) (vl j d)=aJ d:=by
  rw[h,vu,←k9]
  exact dp (fun _ _=>rfl) (fun i _=>by
   show vl j d (j+i)=fc d i
   unfold vl
   rw[if_neg (by omega),show j+i-j=i by omega])
 refine⟨by grind,by grind,?_,l⟩
 rw[e]
 grind
theorem Ed(a b:Nat)(J:a<18446744073709551616)(F:b<18446744073709551616)(G:ah a=true)(d:ah b=true)(H:fK a≠0)(l:fK b≠0)(h:ab (fQ a)≤p2 1000*ab (fQ b)):ah (dV a b)=true:=by
 obtain⟨Y,U⟩:=pO a b J F G d H l
 have t:=jv b F d l
 have L:=aw (eX b)
 have z:xE (qS a b) (fX a-fX b-181)<p2 1023:=by
  have M:16*p2 1000≤p2 1023∧0<p2 1000:=by
   have N:=aA (show(1000+1+1+1+1:Int)≤1023 by decide)
   simp only[bR]at N
   exact⟨by grind,aw _⟩
  generalize xE (qS a b) (fX a-fX b-181)=X at*
  rcases Rat.le_total (a:=X) (b:=2*p2 1000)with g|g
  ·grind
  ·exfalso
   have I:0<ab (fQ b):=by grind
   have O:=Rat.mul_le_mul_of_nonneg_left g (Rat.le_of_lt I)
   have V:=Rat.mul_pos M.2 I
   have Q:ab (fQ b)*X=X*ab (fQ b):=Rat.mul_comm _ _
   have D:ab (fQ b)*(2*p2 1000)=2*(p2 1000*ab (fQ b)):=by grind
   rw[Q,D]at O
   generalize X*ab (fQ b)=Z at*
   generalize p2 1000*ab (fQ b)=PB at*
   generalize ab (fQ a)=A at*
   clear t U
   grind
 have:=il _ _ z
 have T:qV a b≤9218868437227405312:=di _ _
 exact(cF _).2.2.2 (by rw[(px a b G d H l).1,gu _ _ (by omega)];exact this)
theorem Ee(a b:Nat)(t:a<18446744073709551616)(D:b<18446744073709551616)(F:ah a=true)(l:ah b=true)(G:fK b≠0)(h:ab (fQ a)≤p2 1000*ab (fQ b)):
  ah (dV a b)=true∧9007199254740992*ab (fQ (dV a b)*fQ b-fQ a)≤2*ab (fQ a)+9007199254740992*(p2 (-1075)*ab (fQ b)):=by
 have L:=Rat.mul_nonneg (Rat.le_of_lt (aw (-1075))) (bK (fQ b))
 have M:=bK (fQ a)
 by_cases d:fK a=0
 ·have q:=bu a d
  obtain⟨O,J⟩:=bY l
  have e:dV a b=gc (fS a^^fS b) 0:=by
   unfold dV
   rw[if_neg (by rintro(k|k);omega;exact J k),if_neg (by rintro⟨k,_⟩;omega),if_neg (by omega),if_pos (.inr d)]
  have H:ah (dV a b)=true∧fQ (dV a b)=0:=by
   rw[e]
   cases fS a^^fS b
   ·rw[cn];exact⟨by decide,ix⟩
   ·rw[fI];exact⟨by decide,bu _ (by decide)⟩
  refine⟨H.1,?_⟩
  rw[H.2,q,show(0:Rat)*fQ b-0=0 by grind,show ab (0:Rat)=0 by unfold ab;grind]
  grind
 ·have I:=Ed a b t D F l d G h
  refine⟨I,?_⟩
  have N:=bK (fQ (dV a b)*fQ b-fQ a)
  rcases tc a b t D F l d G I with e|e
  ·grind
  ·have:=e.2
   generalize p2 (-1075)*ab (fQ b)=z at*
   grind
end Go.Proofs.YtmpkkhackbpflaaGreatDoor
