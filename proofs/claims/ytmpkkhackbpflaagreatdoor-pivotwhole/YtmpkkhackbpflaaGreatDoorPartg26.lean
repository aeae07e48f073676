/- Part 26 of the texts. -/
import Derived.Test.YtmpkkhackbpflaaGreatDoorPartg25
namespace Go.Proofs.YtmpkkhackbpflaaGreatDoor
theorem iZ(b f g:Nat→Int)(p q:Int):∀n,aU b n (fun c=>p*f c+q*g c)=p*aU b n f+q*aU b n g
 |0=>by show(0:Int)=p*0+q*0;simp
 |n+1=>by
  show aU b n (fun c=>p*f c+q*g c)+b n*(p*f n+q*g n)=p*(aU b n f+b n*f n)+q*(aU b n g+b n*g n)
  rw[iZ b f g p q n]
  grind
theorem eE(b f:Nat→Int):∀n,aU b n f=aU f n b
 |0=>rfl
 |n+1=>by
  show aU b n f+b n*f n=aU f n b+f n*b n
  rw[eE b f n,Int.mul_comm]
theorem jx{b d f l:Nat→Int}:∀n,(∀c,c<n→b c=d c)→(∀c,c<n→f c=l c)→aU b n f=aU d n l
 |0,_,_=>rfl
 |n+1,h,k=>by
  show aU b n f+b n*f n=aU d n l+d n*l n
  rw[jx n (fun c t=>h c (by omega)) (fun c t=>k c (by omega)),h n (Nat.lt_succ_self n),k n (Nat.lt_succ_self n)]
theorem kq(b Y:Nat→Int)(v:Nat→Nat→Int)(n:Nat):∀t,aU b n (fun c=>gp Y v t c)=aU Y t (fun i=>aU b n (v i))
 |0=>kg b n _ (fun _ _=>rfl)
 |t+1=>by
  have h:=iZ b (fun c=>gp Y v t c) (v t) 1 (Y t) n
  rw[kq b Y v n t]at h
  have e:(fun c=>gp Y v (t+1) c)=fun c=>1*gp Y v t c+Y t*v t c:=by
   funext c
   show gp Y v t c+Y t*v t c=_
   omega
  rw[e,h,Int.one_mul]
  rfl
theorem kr(b:Nat→Int):∀n,0≤aU b n b
 |0=>Int.le_refl _
 |n+1=>by
  have:=kr b n
  have d:0≤b n*b n:=by
   rcases Int.le_total 0 (b n)with g|g
   ·exact Int.mul_nonneg g g
   ·exact Int.mul_nonneg_of_nonpos_of_nonpos g g
  show 0≤aU b n b+b n*b n
  omega
theorem kY(b:Nat→Int):∀n,aU b n b=0→∀c,c<n→b c=0
 |0,_,c,hc=>absurd hc (Nat.not_lt_zero c)
 |n+1,h,c,hc=>by
  have d:aU b n b+b n*b n=0:=h
  have l:=kr b n
  have t:0≤b n*b n:=by
   rcases Int.le_total 0 (b n)with g|g
   ·exact Int.mul_nonneg g g
   ·exact Int.mul_nonneg_of_nonpos_of_nonpos g g
  rcases Nat.lt_or_ge c n with g|g
  ·exact kY b n (by omega) c g
  ·obtain rfl:c=n:=by omega
   have:b c*b c=0:=by omega
   rcases Int.mul_eq_zero.1 this with e|e<;>exact e
theorem zG(b f:Nat→Int)(d:∀c,-4≤b c∧b c≤4)(h:∀c,-4≤f c∧f c≤4):∀n:Nat,-(16*(n:Int))≤aU b n f∧aU b n f≤16*(n:Int)
 |0=>by show-(16*0)≤(0:Int)∧(0:Int)≤16*0;omega
 |n+1=>by
  have i:=zG b f d h n
  obtain⟨F,G⟩:=d n
  obtain⟨H,I⟩:=h n
  have l:=Int.mul_nonneg (show 0≤4-b n by omega) (show 0≤4-f n by omega)
  have t:=Int.mul_nonneg (show 0≤4+b n by omega) (show 0≤4+f n by omega)
  have z:=Int.mul_nonneg (show 0≤4-b n by omega) (show 0≤4+f n by omega)
  have D:=Int.mul_nonneg (show 0≤4+b n by omega) (show 0≤4-f n by omega)
  show-(16*((n+1:Nat):Int))≤aU b n f+b n*f n∧aU b n f+b n*f n≤16*((n+1:Nat):Int)
  grind
def kZ(g:Nat→Nat→Int):Nat→Int
 |0=>1
 |1=>g 0 0
 |2=>g 0 0*g 1 1-g 0 1*g 0 1
 |_=>g 0 0*(g 1 1*g 2 2-g 1 2*g 1 2)-g 0 1*(g 0 1*g 2 2-g 1 2*g 0 2)+g 0 2*(g 0 1*g 1 2-g 1 1*g 0 2)
def FP(g:Nat→Nat→Int)(h:Nat→Int):Nat→Nat→Int
 |1,_=>h 0
 |2,i=>if i=0 then h 0*g 1 1-h 1*g 0 1 else h 1*g 0 0-h 0*g 0 1
 |3,i=>if i=0 then(g 1 1*g 2 2-g 1 2*g 1 2)*h 0+(g 0 2*g 1 2-g 0 1*g 2 2)*h 1+(g 0 1*g 1 2-g 0 2*g 1 1)*h 2
   else if i=1 then(g 0 2*g 1 2-g 0 1*g 2 2)*h 0+(g 0 0*g 2 2-g 0 2*g 0 2)*h 1+(g 0 1*g 0 2-g 0 0*g 1 2)*h 2
   else(g 0 1*g 1 2-g 0 2*g 1 1)*h 0+(g 0 1*g 0 2-g 0 0*g 1 2)*h 1+(g 0 0*g 1 1-g 0 1*g 0 1)*h 2
 |_,_=>0
theorem D7(g:Nat→Nat→Int)(h:Nat→Int)(d:∀i k,g i k=g k i):∀j,j≤3→∀i,i<j→kZ g j*h i-aU (FP g h j) j (fun k=>g k i)=0:=by
 intro j D i F
 have l:=d 1 0;have t:=d 2 0;have z:=d 2 1
 match j,i with
 |1,0=>
  show g 0 0*h 0-(0+h 0*g 0 0)=0
  grind
 |2,0=>
  show(g 0 0*g 1 1-g 0 1*g 0 1)*h 0-(0+(h 0*g 1 1-h 1*g 0 1)*g 0 0+(h 1*g 0 0-h 0*g 0 1)*g 1 0)=0
  grind
 |2,1=>
  show(g 0 0*g 1 1-g 0 1*g 0 1)*h 1-(0+(h 0*g 1 1-h 1*g 0 1)*g 0 1+(h 1*g 0 0-h 0*g 0 1)*g 1 1)=0
  grind
 |3,0=>
  show(g 0 0*(g 1 1*g 2 2-g 1 2*g 1 2)-g 0 1*(g 0 1*g 2 2-g 1 2*g 0 2)+g 0 2*(g 0 1*g 1 2-g 1 1*g 0 2))*h 0-(0+((g 1 1*g 2 2-g 1 2*g 1 2)*h 0+(g 0 2*g 1 2-g 0 1*g 2 2)*h 1+(g 0 1*g 1 2-g 0 2*g 1 1)*h 2)*g 0 0+((g 0 2*g 1 2-g 0 1*g 2 2)*h 0+(g 0 0*g 2 2-g 0 2*g 0 2)*h 1+(g 0 1*g 0 2-g 0 0*g 1 2)*h 2)*g 1 0+((g 0 1*g 1 2-g 0 2*g 1 1)*h 0+(g 0 1*g 0 2-g 0 0*g 1 2)*h 1+(g 0 0*g 1 1-g 0 1*g 0 1)*h 2)*g 2 0)=0
  grind
 |3,1=>
  show(g 0 0*(g 1 1*g 2 2-g 1 2*g 1 2)-g 0 1*(g 0 1*g 2 2-g 1 2*g 0 2)+g 0 2*(g 0 1*g 1 2-g 1 1*g 0 2))*h 1-(0+((g 1 1*g 2 2-g 1 2*g 1 2)*h 0+(g 0 2*g 1 2-g 0 1*g 2 2)*h 1+(g 0 1*g 1 2-g 0 2*g 1 1)*h 2)*g 0 1+((g 0 2*g 1 2-g 0 1*g 2 2)*h 0+(g 0 0*g 2 2-g 0 2*g 0 2)*h 1+(g 0 1*g 0 2-g 0 0*g 1 2)*h 2)*g 1 1+((g 0 1*g 1 2-g 0 2*g 1 1)*h 0+(g 0 1*g 0 2-g 0 0*g 1 2)*h 1+(g 0 0*g 1 1-g 0 1*g 0 1)*h 2)*g 2 1)=0
  grind
 |3,2=>
  show(g 0 0*(g 1 1*g 2 2-g 1 2*g 1 2)-g 0 1*(g 0 1*g 2 2-g 1 2*g 0 2)+g 0 2*(g 0 1*g 1 2-g 1 1*g 0 2))*h 2-(0+((g 1 1*g 2 2-g 1 2*g 1 2)*h 0+(g 0 2*g 1 2-g 0 1*g 2 2)*h 1+(g 0 1*g 1 2-g 0 2*g 1 1)*h 2)*g 0 2+((g 0 2*g 1 2-g 0 1*g 2 2)*h 0+(g 0 0*g 2 2-g 0 2*g 0 2)*h 1+(g 0 1*g 0 2-g 0 0*g 1 2)*h 2)*g 1 2+((g 0 1*g 1 2-g 0 2*g 1 1)*h 0+(g 0 1*g 0 2-g 0 0*g 1 2)*h 1+(g 0 0*g 1 1-g 0 1*g 0 1)*h 2)*g 2 2)=0
  grind
theorem GT(g:Nat→Nat→Int)(d:∀i k,g i k=g k i):∀j,j≤2→kZ g j*g j j-aU (FP g (fun i=>g i j) j) j (fun k=>g k j)=kZ g (j+1):=by
 intro j z
 have h:=d 1 0;have l:=d 2 0;have t:=d 2 1
 match j with
 |0=>show 1*g 0 0-0=g 0 0;omega
 |1=>
  show g 0 0*g 1 1-(0+g 0 1*g 0 1)=g 0 0*g 1 1-g 0 1*g 0 1
  omega
 |2=>
  show(g 0 0*g 1 1-g 0 1*g 0 1)*g 2 2-(0+(g 0 2*g 1 1-g 1 2*g 0 1)*g 0 2+(g 1 2*g 0 0-g 0 2*g 0 1)*g 1 2)=g 0 0*(g 1 1*g 2 2-g 1 2*g 1 2)-g 0 1*(g 0 1*g 2 2-g 1 2*g 0 2)+g 0 2*(g 0 1*g 1 2-g 1 1*g 0 2)
  grind
theorem GU(g:Nat→Nat→Int)(l:∀i k,-64≤g i k∧g i k≤64):∀j,j≤3→kZ g j≤2097152:=by
 have t:∀{x y A B:Int},-A≤x→x≤A→-B≤y→y≤B→-(A*B)≤x*y∧x*y≤A*B:=fun{x y A B} z D F G=>by
  have H:=Int.mul_nonneg (show 0≤A-x by omega) (show 0≤B-y by omega)
  have I:=Int.mul_nonneg (show 0≤A+x by omega) (show 0≤B+y by omega)
  have J:=Int.mul_nonneg (show 0≤A-x by omega) (show 0≤B+y by omega)
  have L:=Int.mul_nonneg (show 0≤A+x by omega) (show 0≤B-y by omega)
  grind
 have h:∀a b c d,-(4096:Int)≤g a b*g c d∧g a b*g c d≤4096:=fun a b c d=>t (A:=64) (B:=64) (l a b).1 (l a b).2 (l c d).1 (l c d).2
 intro j Z
 match j with
 |0=>show(1:Int)≤2097152;decide
 |1=>have:=l 0 0;show g 0 0≤_;omega
 |2=>have z:=h 0 0 1 1;have D:=h 0 1 0 1;show g 0 0*g 1 1-g 0 1*g 0 1≤_;omega
 |3=>
  have M:=h 1 1 2 2;have N:=h 1 2 1 2;have O:=h 0 1 2 2;have Q:=h 1 2 0 2;have T:=h 0 1 1 2;have U:=h 1 1 0 2
  have V:=t (x:=g 0 0) (y:=g 1 1*g 2 2-g 1 2*g 1 2) (A:=64) (B:=8192) (l 0 0).1 (l 0 0).2 (by omega) (by omega)
  have X:=t (x:=g 0 1) (y:=g 0 1*g 2 2-g 1 2*g 0 2) (A:=64) (B:=8192) (l 0 1).1 (l 0 1).2 (by omega) (by omega)
  have Y:=t (x:=g 0 2) (y:=g 0 1*g 1 2-g 1 1*g 0 2) (A:=64) (B:=8192) (l 0 2).1 (l 0 2).2 (by omega) (by omega)
  show g 0 0*(g 1 1*g 2 2-g 1 2*g 1 2)-g 0 1*(g 0 1*g 2 2-g 1 2*g 0 2)+g 0 2*(g 0 1*g 1 2-g 1 1*g 0 2)≤_
  omega
def kG(n:Nat)(v:Nat→Nat→Int)(j:Nat)(c:Nat→Int):Nat→Int:=fun x=>kZ (fun i k=>aU (v i) n (v k)) j*c x+(-1)*gp (FP (fun i k=>aU (v i) n (v k)) (fun i=>aU (v i) n c) j) v j x
theorem nI(n:Nat)(v:Nat→Nat→Int)(c:Nat→Int){j i:Nat}(d:j≤3)(h:i<j):aU (v i) n (kG n v j c)=0:=by
 unfold kG
 rw[iZ (v i) c (fun x=>gp _ v j x) _ (-1) n,kq]
 have:=D7 (fun i k=>aU (v i) n (v k)) (fun i=>aU (v i) n c) (fun i k=>eE _ _ n) j d i h
 have e:aU (FP (fun i k=>aU (v i) n (v k)) (fun i=>aU (v i) n c) j) j (fun k=>aU (v k) n (v i))=aU (FP (fun i k=>aU (v i) n (v k)) (fun i=>aU (v i) n c) j) j (fun k=>aU (v i) n (v k)):=jx j (fun _ _=>rfl) (fun k _=>eE _ _ n)
 rw[e]at this
 omega
theorem pT(n:Nat)(v:Nat→Nat→Int)(c:Nat→Int){j:Nat}(d:j≤3):aU (kG n v j c) n (kG n v j c)=kZ (fun i k=>aU (v i) n (v k)) j*aU (kG n v j c) n c:=by
 have h:aU (kG n v j c) n (kG n v j c)=kZ (fun i k=>aU (v i) n (v k)) j*aU (kG n v j c) n c+(-1)*aU (kG n v j c) n (fun x=>gp (FP (fun i k=>aU (v i) n (v k)) (fun i=>aU (v i) n c) j) v j x):=iZ (kG n v j c) c _ _ (-1) n
 rw[kq,kg _ j _ (fun i l=>by rw[eE];exact nI n v c d l)]at h
 omega
theorem D8(n:Nat)(v:Nat→Nat→Int){j:Nat}(d:j≤2):aU (kG n v j (v j)) n (v j)=kZ (fun i k=>aU (v i) n (v k)) (j+1):=by
 rw[←GT (fun i k=>aU (v i) n (v k)) (fun i k=>eE _ _ n) j d,eE]
 unfold kG
 rw[iZ (v j) (v j) (fun x=>gp _ v j x) _ (-1) n,kq]
 have e:aU (FP (fun i k=>aU (v i) n (v k)) (fun i=>aU (v i) n (v j)) j) j (fun k=>aU (v k) n (v j))=aU (FP (fun i k=>aU (v i) n (v k)) (fun i=>aU (v i) n (v j)) j) j (fun k=>aU (v j) n (v k)):=jx j (fun _ _=>rfl) (fun k _=>eE _ _ n)
 rw[e]
 omega
theorem oN(b f:Nat→Int):∀n,dt n (fun i=>(b i:Rat)) (fun i=>(f i:Rat))=((aU b n f:Int):Rat)
 |0=>rfl
 |n+1=>by
  have i:=oN b f n
  show dt n (fun i=>(b i:Rat)) (fun i=>(f i:Rat))+(b n:Rat)*(f n:Rat)=((aU b n f+b n*f n:Int):Rat)
  rw[i,Rat.intCast_add,Rat.intCast_mul]
def iw(x:Nat→Rat)(v:Nat→Nat→Int):Nat→Nat→Rat
 |0,_=>0
 |t+1,i=>iw x v t i+x t*(v t i:Rat)
theorem zH(n:Nat)(b c:Nat→Int)(x:Nat→Rat)(v:Nat→Nat→Int):∀t,(∀k,k<t→aU b n (v k)=0)→dt n (fun i=>(b i:Rat)) (fun i=>(c i:Rat)+(-1)*iw x v t i)=((aU b n c:Int):Rat)
 |0,_=>by
  rw[←oN b c n]
  exact dp (fun _ _=>rfl) (fun i _=>by show(c i:Rat)+(-1)*0=_;grind)
 |t+1,h=>by
  have i:=zH n b c x v t (fun k d=>h k (by omega))
  have e:dt n (fun i=>(b i:Rat)) (fun i=>(c i:Rat)+(-1)*iw x v (t+1) i)=dt n (fun i=>(b i:Rat)) (fun i=>((c i:Rat)+(-1)*iw x v t i)+(-(x t))*(v t i:Rat)):=
   dp (fun _ _=>rfl) (fun i _=>by show(c i:Rat)+(-1)*(iw x v t i+x t*(v t i:Rat))=_;grind)
  rw[e,kp,i,my,oN b (v t) n,h t (Nat.lt_succ_self t)]
  show _+-(x t)*0=_
  grind
theorem GV(n:Nat)(v:Nat→Nat→Int)(c:Nat→Int)(x:Nat→Rat){j:Nat}(t:j≤3)(z:0<kZ (fun i k=>aU (v i) n (v k)) j)(D:kZ (fun i k=>aU (v i) n (v k)) j≤2097152)
  (N:4398046511104*dt n (fun i=>(c i:Rat)+(-1)*iw x v j i) (fun i=>(c i:Rat)+(-1)*iw x v j i)<1):∀i,i<n→kG n v j c i=0:=by
 have H:=zH n (kG n v j c) c x v j (fun k F=>by rw[eE];exact nI n v c t F)
 have I:=vg n (fun i=>(kG n v j c i:Rat)) (fun i=>(c i:Rat)+(-1)*iw x v j i)
 rw[H,oN]at I
 have J:=pT n v c t
 have O:=kr (kG n v j c) n
 refine kY _ n ?_
 generalize aU (kG n v j c) n (kG n v j c)=B at*
 generalize aU (kG n v j c) n c=C at*
 generalize kZ (fun i k=>aU (v i) n (v k)) j=G at*
 rcases Int.lt_or_le 0 B with g|g
 ·exfalso
  have l:=kN n (fun i=>(c i:Rat)+(-1)*iw x v j i)
  generalize dt n (fun i=>(c i:Rat)+(-1)*iw x v j i) (fun i=>(c i:Rat)+(-1)*iw x v j i)=Z at*
  have L:(B:Rat)=(G:Rat)*(C:Rat):=by rw[J,Rat.intCast_mul]
  have Q:(1:Rat)≤(B:Rat):=by
   have:((1:Int):Rat)≤(B:Rat):=Rat.intCast_le_intCast.2 (by omega)
   exact this
  have T:(0:Rat)<(G:Rat):=by
   have:((0:Int):Rat)<(G:Rat):=Rat.intCast_lt_intCast.2 z
   exact this
  have U:(G:Rat)≤2097152:=by
   have:(G:Rat)≤((2097152:Int):Rat):=Rat.intCast_le_intCast.2 D
   exact this
  generalize (B:Rat)=b at*
  generalize (C:Rat)=h at*
  generalize (G:Rat)=d at*
  --b b=d d (h h)<=d d b Z
  have V:=Rat.mul_nonneg (al d) (show 0≤b*Z-h*h by grind)
  have M:d*d≤4398046511104:=by
   have:=Rat.mul_nonneg (show 0≤2097152-d by grind) (show 0≤2097152+d by grind)
   grind
  have X:=Rat.mul_nonneg (show 0≤4398046511104-d*d by grind) l
  have Y:d*d*Z<1:=by grind
  have m4:=Rat.mul_pos (show 0<b by grind) (show 0<b-d*d*Z by grind)
  have e2:b*b=d*d*(h*h):=by rw[L];grind
  grind
 ·omega
open Go.RowKit
theorem zF.bd{n:Nat}{v:Nat→Rat}{t ε a:Rat}{y:Nat→Rat}(h:zF n v t ε)(d:Bd n y a):Bd n (dE n v t y) ((1+2*ε)*a):=by
 have D:=d.1
 have z:=h.eps
 refine⟨Rat.mul_nonneg (by grind) D,?_⟩
 rw[zC]
 have k:=h.near d d
 have l:=au (t*(t*dt n v v-2)*(dt n v y*dt n v y))
 have m:=Rat.mul_nonneg z (al a)
 have F:=Rat.mul_nonneg (Rat.mul_nonneg z z) (al a)
 have:=d.2
 rw[show(1+2*ε)*a*((1+2*ε)*a)=a*a+4*(ε*(a*a))+4*(ε*ε*(a*a)) by grind]
 grind
theorem A7{n:Nat}{v:Nat→Rat}{t:Rat}{y z:Nat→Rat}(h:∀i,i<n→y i=z i):∀i,i<n→dE n v t y i=dE n v t z i:=by
 intro i d
 unfold dE
 rw[dp (fun _ _=>rfl) h,h i d]
def bJ(n:Nat):List ((Nat→Rat)×Rat)→(Nat→Rat)→Nat→Rat
 | [],y=>y
 |m::ms,y=>bJ n ms (dE n m.1 m.2 y)
theorem i9(n:Nat):∀(d:List ((Nat→Rat)×Rat)) (y z:Nat→Rat),(∀i,i<n→y i=z i)→∀i,i<n→bJ n d y i=bJ n d z i:=by
 intro d
 induction d with
 |nil=>intro y z h;exact h
 |cons m d ih=>intro y z h;exact ih _ _ (A7 h)
theorem zI(n:Nat):∀(d:List ((Nat→Rat)×Rat)) (y z:Nat→Rat) (i:Nat),i<n→bJ n d (fun i=>y i+z i) i=bJ n d y i+bJ n d z i:=by
 intro d
 induction d with
 |nil=>intro y z i _;rfl
 |cons m d ih=>
  intro y z i h
  show bJ n d (dE n m.1 m.2 (fun i=>y i+z i)) i=bJ n d (dE n m.1 m.2 y) i+bJ n d (dE n m.1 m.2 z) i
  rw[←ih _ _ i h]
  exact i9 n d _ _ (fun k _=>zD n m.1 m.2 y z k) i h
theorem te(n:Nat)(c:Rat):∀(d:List ((Nat→Rat)×Rat)) (y:Nat→Rat) (i:Nat),i<n→bJ n d (fun i=>c*y i) i=c*bJ n d y i:=by
 intro d
 induction d with
 |nil=>intro y i _;rfl
 |cons m d ih=>
  intro y i h
  show bJ n d (dE n m.1 m.2 (fun i=>c*y i)) i=c*bJ n d (dE n m.1 m.2 y) i
  rw[←ih _ i h]
  exact i9 n d _ _ (fun k _=>zE n m.1 m.2 c y k) i h
def xC(n:Nat)(ε:Rat)(ms:List ((Nat→Rat)×Rat)):Prop:=∀m∈ms,zF n m.1 m.2 ε
def gw(ε:Rat):Nat→Rat
 |0=>1
 |k+1=>(1+2*ε)*gw ε k
theorem Kv{n:Nat}{ε:Rat}:∀(d:List ((Nat→Rat)×Rat)) (y:Nat→Rat) (a:Rat),xC n ε d→Bd n y a→Bd n (bJ n d y) (gw ε d.length*a):=by
 intro d
 induction d with
 |nil=>
  intro y a _ h
  exact h.mono (by show a≤1*a;grind)
 |cons m d ih=>
  intro y a l h
  have z:=(l m List.mem_cons_self).bd h
  have D:=ih _ _ (fun x t=>l x (List.mem_cons_of_mem _ t)) z
  refine D.mono ?_
  show gw ε d.length*((1+2*ε)*a)≤(1+2*ε)*gw ε d.length*a
  grind
def bk(ε:Rat):Nat→Rat
 |0=>0
 |k+1=>3+(1+2*ε)*(1+2*ε)*bk ε k
def er(ε δ:Rat):Nat→Rat
 |0=>0
 |k+1=>gw ε k+er ε δ k*(1+2*ε+δ)
end Go.Proofs.YtmpkkhackbpflaaGreatDoor
namespace Go.Proofs.YtmpkkhackbpflaaGreatDoor
def ws(y:Nat→Rat)(F:Nat→Nat→Rat):Nat→Nat→Rat
 |0,_=>0
 |t+1,i=>ws y F t i+y t*F t i
def wb(y e:Nat→Rat):Nat→Rat
 |0=>0
 |t+1=>wb y e t+ab (y t)*e t
theorem vh(n:Nat)(y e:Nat→Rat)(F:Nat→Nat→Rat):∀j,(∀k,k<j→Bd n (F k) (e k))→Bd n (ws y F j) (wb y e j)
 |0,_=>Bd.nought n
 |j+1,h=>(vh n y e F j (fun k d=>h k (by omega))).add ((h j (Nat.lt_succ_self j)).mul (y j))
theorem xD(y:Nat→Rat)(F G:Nat→Nat→Rat)(i:Nat):∀j,ws y (fun k i=>F k i+(-1)*G k i) j i=ws y F j i+(-1)*ws y G j i
 |0=>by show(0:Rat)=0+(-1)*0;grind
 |j+1=>by
  show ws y (fun k i=>F k i+(-1)*G k i) j i+y j*(F j i+(-1)*G j i)=(ws y F j i+y j*F j i)+(-1)*(ws y G j i+y j*G j i)
  rw[xD y F G i j]
  grind
theorem tf(y:Nat→Rat)(F:Nat→Nat→Rat)(i:Nat):∀j,(∀k,k<j→F k i=0)→ws y F j i=0
 |0,_=>rfl
 |j+1,h=>by
  show ws y F j i+y j*F j i=0
  rw[tf y F i j (fun k d=>h k (by omega)),h j (Nat.lt_succ_self j)]
  grind
theorem xG(n:Nat)(d:List ((Nat→Rat)×Rat))(y:Nat→Rat)(V:Nat→Nat→Rat){i:Nat}(l:i<n):∀j,bJ n d (ws y V j) i=ws y (fun k=>bJ n d (V k)) j i
 |0=>by
  have h:=te n 0 d (fun _=>0) i l
  rw[i9 n d (ws y V 0) (fun i=>0*(fun _=>(0:Rat)) i) (fun i _=>by show(0:Rat)=0*0;grind) i l,h]
  show 0*_=(0:Rat)
  grind
 |j+1=>by
  have h:=zI n d (ws y V j) (fun i=>y j*V j i) i l
  rw[xG n d y V l j,te n (y j) d (V j) i l]at h
  exact h
theorem GW{n:Nat}{v:Nat→Rat}{t:Rat}(h:zF n v t (1/8796093022208))(z:Nat→Rat):1000000*dt n z z≤1000001*dt n (dE n v t z) (dE n v t z):=by
 have e:=zC n v t z z
 have H:=vg n v z
 have sz:=h.size
 have D:=kN n z
 have I:=kN n v
 have J:=h.3
 have d:=h.4
 rw[e]
 have q:=al (dt n v z)
 have l:=au (t*dt n v v-2)
 --t (t vv-2) (vz)^2
 have L:=Rat.mul_nonneg d (show 0≤dt n v v*dt n z z-dt n v z*dt n v z by grind)
 have M:=Rat.mul_nonneg (show 0≤3-t*dt n v v by grind) D
 have F:=Rat.mul_nonneg d q
 have N:t*(dt n v z*dt n v z)≤3*dt n z z:=by grind
 have G:t*(t*dt n v v-2)*(dt n v z*dt n v z)=(t*dt n v v-2)*(t*(dt n v z*dt n v z)):=by grind
 rw[G]
 have O:=Rat.mul_nonneg (show 0≤(t*dt n v v-2)+1/8796093022208 by grind) F
 generalize t*(dt n v z*dt n v z)=W at*
 generalize (t*dt n v v-2)=Q at*
 generalize dt n z z=T at*
 grind
theorem GX{n:Nat}:∀(d:List ((Nat→Rat)×Rat)),xC n (1/8796093022208) d→d.length≤4→∀z,1000*dt n z z≤1001*dt n (bJ n d z) (bJ n d z):=by
 have F:∀(d:List ((Nat→Rat)×Rat)),xC n (1/8796093022208) d→d.length≤4→∀z,1000000*dt n z z≤(1000000+2*(d.length:Rat))*dt n (bJ n d z) (bJ n d z):=by
  intro d
  induction d with
  |nil=>
   intro _ _ z
   show 1000000*dt n z z≤(1000000+2*((0:Nat):Rat))*dt n z z
   have:((0:Nat):Rat)=0:=rfl
   rw[this]
   grind
  |cons m d ih=>
   intro D h z
   have i:=ih (fun x N=>D x (List.mem_cons_of_mem _ N)) (by rw[List.length_cons]at h;omega) (dE n m.1 m.2 z)
   have l:=GW (D m List.mem_cons_self) z
   have e:((m::d).length:Rat)=(d.length:Rat)+1:=by rw[List.length_cons,Rat.natCast_add];rfl
   rw[e]
   have t:=kN n (bJ n d (dE n m.1 m.2 z))
   have G:(d.length:Rat)≤4:=Rat.natCast_le_natCast.2 (show d.length≤4 by rw[List.length_cons]at h;omega)
   have H:(0:Rat)≤(d.length:Rat):=Rat.natCast_le_natCast.2 (Nat.zero_le _)
   have I:=Rat.mul_nonneg (show 0≤4-(d.length:Rat) by grind) t
   have T:=Rat.mul_nonneg H t
   show 1000000*dt n z z≤(1000000+2*((d.length:Rat)+1))*dt n (bJ n d (dE n m.1 m.2 z)) (bJ n d (dE n m.1 m.2 z))
   have J:(1000000+2*(d.length:Rat))*dt n (bJ n d (dE n m.1 m.2 z)) (bJ n d (dE n m.1 m.2 z))=1000000*dt n (bJ n d (dE n m.1 m.2 z)) (bJ n d (dE n m.1 m.2 z))+2*((d.length:Rat)*dt n (bJ n d (dE n m.1 m.2 z)) (bJ n d (dE n m.1 m.2 z))):=by grind
   have L:(1000000+2*((d.length:Rat)+1))*dt n (bJ n d (dE n m.1 m.2 z)) (bJ n d (dE n m.1 m.2 z))=1000002*dt n (bJ n d (dE n m.1 m.2 z)) (bJ n d (dE n m.1 m.2 z))+2*((d.length:Rat)*dt n (bJ n d (dE n m.1 m.2 z)) (bJ n d (dE n m.1 m.2 z))):=by grind
   rw[J]at i
   rw[L]
   have M:(4-(d.length:Rat))*dt n (bJ n d (dE n m.1 m.2 z)) (bJ n d (dE n m.1 m.2 z))=4*dt n (bJ n d (dE n m.1 m.2 z)) (bJ n d (dE n m.1 m.2 z))-(d.length:Rat)*dt n (bJ n d (dE n m.1 m.2 z)) (bJ n d (dE n m.1 m.2 z)):=by grind
   rw[M]at I
   clear J L M ih
   generalize (d.length:Rat)*dt n (bJ n d (dE n m.1 m.2 z)) (bJ n d (dE n m.1 m.2 z))=U at*
   generalize dt n (bJ n d (dE n m.1 m.2 z)) (bJ n d (dE n m.1 m.2 z))=O at*
   generalize dt n (dE n m.1 m.2 z) (dE n m.1 m.2 z)=V at*
   generalize dt n z z=Q at*
   grind
 intro d D h z
 have k:=F d D h z
 have t:=kN n (bJ n d z)
 have G:(d.length:Rat)≤4:=Rat.natCast_le_natCast.2 h
 have I:=Rat.mul_nonneg (show 0≤4-(d.length:Rat) by grind) t
 generalize dt n (bJ n d z) (bJ n d z)=O at*
 generalize dt n z z=Q at*
 grind
theorem Kw{f a b:Rat}(d:0<f)(h:f*a≤f*b):a≤b:=by
 rcases Rat.le_total (a:=a) (b:=b)with g|g
 ·exact g
 ·rcases Classical.em (a=b)with e|e
  ·rw[e];exact Rat.le_refl
  ·exfalso
   have l:b<a:=by grind
   have:=Rat.mul_lt_mul_of_pos_left l d
   grind
structure Kx (j:Nat) (F:Nat→Nat→Rat):Prop where
 low:∀i p,i<j→i<p→F i p=0
 pos:∀p,p<j→0<ab (F p p)
 up:∀i p,i<j→p<i→1000*ab (F i p)≤1001*ab (F p p)
def t3:Nat→Nat→Rat
 |1,0=>1002/1000
 |2,0=>2005/1000
 |2,1=>1002/1000
 |3,0=>4012/1000
 |3,1=>2005/1000
 |3,2=>1002/1000
 |_,_=>0
theorem nJ{f a T δ S k:Rat}(d:0<ab f)(h:f*a=T+δ+S)(t:1000*ab T≤1001*ab f)(l:32768*ab δ≤ab f*k)(s:Rat)(z:1000*ab S≤ab f*(1001*s)):32768000*ab a≤32800768+1000*k+32800768*s:=by
 have e:ab f*ab a≤ab T+ab δ+ab S:=by
  rw[←aK,h]
  have D:=au T;have G:=au δ;have H:=au S
  exact bU (by grind) (by grind)
 refine Kw d ?_
 generalize ab f=F at*
 generalize ab a=A at*
 generalize ab T=I at*
 generalize ab δ=J at*
 generalize ab S=L at*
 grind
theorem rO{j:Nat}(X:j≤3){F:Nat→Nat→Rat}(h:Kx j F)(y T δ:Nat→Rat)(l:∀p,p<j→ws y F j p=T p+δ p)(z:∀p,p<j→1000*ab (T p)≤1001*ab (F p p))(d:∀p,p<j→32768*ab (δ p)≤ab (F p p)*(1+wb y (fun _=>1) j)):∀i,i<j→ab (y i)≤t3 j i:=by
 match j,X with
 |0,_=>intro i L;omega
 |1,_=>
  have w:wb y (fun _=>1) 1=0+ab (y 0)*1:=rfl
  have D:F 0 0*y 0=T 0+δ 0+0:=by have:(0:Rat)+y 0*F 0 0=T 0+δ 0:=l 0 (by omega);grind
  have G:=nJ (h.pos 0 (by omega)) D (z 0 (by omega)) (d 0 (by omega)) 0 (by unfold ab;grind)
  rw[w]at G
  intro i L
  obtain rfl:i=0:=by omega
  show ab (y 0)≤1002/1000
  grind
 |2,_=>
  have w:wb y (fun _=>1) 2=0+ab (y 0)*1+ab (y 1)*1:=rfl
  have z1:=h.low 0 1 (by omega) (by omega)
  have M:F 1 1*y 1=T 1+δ 1+0:=by have:(0:Rat)+y 0*F 0 1+y 1*F 1 1=T 1+δ 1:=l 1 (by omega);rw[z1]at this;grind
  have D:F 0 0*y 0=T 0+δ 0+-(y 1*F 1 0):=by have:(0:Rat)+y 0*F 0 0+y 1*F 1 0=T 0+δ 0:=l 0 (by omega);grind
  have u1:=h.up 1 0 (by omega) (by omega)
  have N:=bK (y 1)
  have Q:=Rat.mul_le_mul_of_nonneg_left u1 N
  have O:=nJ (h.pos 1 (by omega)) M (z 1 (by omega)) (d 1 (by omega)) 0 (by unfold ab;grind)
  have G:=nJ (h.pos 0 (by omega)) D (z 0 (by omega)) (d 0 (by omega)) (ab (y 1)) (by rw[ik,aK];grind)
  rw[w]at G O
  intro i L
  have Y:=bK (y 0)
  match i,L with
  |0,_=>show ab (y 0)≤2005/1000;grind
  |1,_=>show ab (y 1)≤1002/1000;grind
 |3,_=>
  have w:wb y (fun _=>1) 3=0+ab (y 0)*1+ab (y 1)*1+ab (y 2)*1:=rfl
  have z1:=h.low 0 1 (by omega) (by omega)
  have z2:=h.low 0 2 (by omega) (by omega)
  have Z:=h.low 1 2 (by omega) (by omega)
  have U:F 2 2*y 2=T 2+δ 2+0:=by have:(0:Rat)+y 0*F 0 2+y 1*F 1 2+y 2*F 2 2=T 2+δ 2:=l 2 (by omega);rw[z2,Z]at this;grind
  have M:F 1 1*y 1=T 1+δ 1+-(y 2*F 2 1):=by have:(0:Rat)+y 0*F 0 1+y 1*F 1 1+y 2*F 2 1=T 1+δ 1:=l 1 (by omega);rw[z1]at this;grind
  have D:F 0 0*y 0=T 0+δ 0+-(y 1*F 1 0+y 2*F 2 0):=by have:(0:Rat)+y 0*F 0 0+y 1*F 1 0+y 2*F 2 0=T 0+δ 0:=l 0 (by omega);grind
  have H:=h.up 2 1 (by omega) (by omega)
  have I:=h.up 1 0 (by omega) (by omega)
  have J:=h.up 2 0 (by omega) (by omega)
  have Y:=bK (y 0);have N:=bK (y 1);have V:=bK (y 2)
  have Q:=Rat.mul_le_mul_of_nonneg_left H V
  have m2:=Rat.mul_le_mul_of_nonneg_left I N
  have m3:=Rat.mul_le_mul_of_nonneg_left J V
  have b2:=nJ (h.pos 2 (by omega)) U (z 2 (by omega)) (d 2 (by omega)) 0 (by unfold ab;grind)
  have O:=nJ (h.pos 1 (by omega)) M (z 1 (by omega)) (d 1 (by omega)) (ab (y 2)) (by rw[ik,aK];grind)
  have G:=nJ (h.pos 0 (by omega)) D (z 0 (by omega)) (d 0 (by omega)) (ab (y 1)+ab (y 2)) (by
   rw[ik]
   have l1:=au (y 1*F 1 0);have l2:=au (y 2*F 2 0)
   have t:=bU (x:=y 1*F 1 0+y 2*F 2 0) (y:=ab (y 1*F 1 0)+ab (y 2*F 2 0)) (by grind) (by grind)
   rw[aK,aK]at t
   grind)
  rw[w]at G O b2
  clear Q m2 m3 D M U H I J l z d
  intro i L
  match i,L with
  |0,_=>show ab (y 0)≤4012/1000;grind
  |1,_=>show ab (y 1)≤2005/1000;grind
  |2,_=>show ab (y 2)≤1002/1000;grind
theorem g9{x:Rat}(h:0<ab x):x≠0:=fun e=>by rw[e]at h;unfold ab at h;grind
theorem A8{j:Nat}(I:j≤3){F:Nat→Nat→Rat}(h:Kx j F)(T:Nat→Rat):∃x:Nat→Rat,∀p,p<j→ws x F j p=T p:=by
 have D:∀{f:Rat},f≠0→∀a:Rat,∃z,z*f=a:=fun{f} J a=>⟨a*f⁻¹,by rw[Rat.mul_assoc,Rat.inv_mul_cancel f J,Rat.mul_one]⟩
 match j,I with
 |0,_=>exact⟨fun _=>0,fun p t=>absurd t (Nat.not_lt_zero p)⟩
 |1,_=>
  obtain⟨d,H⟩:=D (g9 (h.pos 0 (by omega))) (T 0)
  refine⟨fun _=>d,fun p t=>?_⟩
  obtain rfl:p=0:=by omega
  show(0:Rat)+d*F 0 0=T 0
  grind
 |2,_=>
  obtain⟨l,M⟩:=D (g9 (h.pos 1 (by omega))) (T 1)
  obtain⟨d,H⟩:=D (g9 (h.pos 0 (by omega))) (T 0-l*F 1 0)
  have z1:=h.low 0 1 (by omega) (by omega)
  refine⟨fun i=>if i=0 then d else l,fun p t=>?_⟩
  match p,t with
  |0,_=>show(0:Rat)+d*F 0 0+l*F 1 0=T 0;grind
  |1,_=>show(0:Rat)+d*F 0 1+l*F 1 1=T 1;rw[z1];grind
 |3,_=>
  obtain⟨G,N⟩:=D (g9 (h.pos 2 (by omega))) (T 2)
  obtain⟨l,M⟩:=D (g9 (h.pos 1 (by omega))) (T 1-G*F 2 1)
  obtain⟨d,H⟩:=D (g9 (h.pos 0 (by omega))) (T 0-l*F 1 0-G*F 2 0)
  have z1:=h.low 0 1 (by omega) (by omega)
  have z2:=h.low 0 2 (by omega) (by omega)
  have L:=h.low 1 2 (by omega) (by omega)
  refine⟨fun i=>if i=0 then d else if i=1 then l else G,fun p t=>?_⟩
  match p,t with
  |0,_=>show(0:Rat)+d*F 0 0+l*F 1 0+G*F 2 0=T 0;grind
  |1,_=>show(0:Rat)+d*F 0 1+l*F 1 1+G*F 2 1=T 1;rw[z1];grind
  |2,_=>show(0:Rat)+d*F 0 2+l*F 1 2+G*F 2 2=T 2;rw[z2,L];grind
theorem zJ(x:Nat→Rat)(v:Nat→Nat→Int)(i:Nat):∀j,iw x v j i=ws x (fun k i=>(v k i:Rat)) j i
 |0=>rfl
 |j+1=>by
  show iw x v j i+x j*(v j i:Rat)=ws x (fun k i=>(v k i:Rat)) j i+x j*(v j i:Rat)
  rw[zJ x v i j]
theorem zK(y:Nat→Rat){e f:Nat→Rat}:∀j,(∀k,k<j→e k≤f k)→wb y e j≤wb y f j
 |0,_=>Rat.le_refl
 |j+1,h=>by
  have i:=zK y j (fun k d=>h k (by omega))
  have m:=Rat.mul_le_mul_of_nonneg_left (h j (Nat.lt_succ_self j)) (bK (y j))
  show wb y e j+ab (y j)*e j≤wb y f j+ab (y j)*f j
  grind
theorem vi(y:Nat→Rat)(m:Rat):∀j,wb y (fun _=>m) j=m*wb y (fun _=>1) j
 |0=>by show(0:Rat)=m*0;grind
 |j+1=>by
  show wb y (fun _=>m) j+ab (y j)*m=m*(wb y (fun _=>1) j+ab (y j)*1)
  rw[vi y m j]
  grind
def wt(j:Nat)(e:Nat→Rat):Nat→Rat
 |0=>0
 |t+1=>wt j e t+t3 j t*e t
theorem D9(j:Nat)(y e:Nat→Rat):∀t,(∀k,k<t→0≤e k)→(∀k,k<t→ab (y k)≤t3 j k)→wb y e t≤wt j e t
 |0,_,_=>Rat.le_refl
 |t+1,h,hy=>by
  have i:=D9 j y e t (fun k d=>h k (by omega)) (fun k d=>hy k (by omega))
  have m:=Rat.mul_le_mul_of_nonneg_right (hy t (Nat.lt_succ_self t)) (h t (Nat.lt_succ_self t))
  show wb y e t+ab (y t)*e t≤wt j e t+t3 j t*e t
  grind
def xH(j:Nat)(x:Nat→Rat)(i:Nat):Rat:=if i<j then 0 else x i
theorem Ea{n j:Nat}{x:Nat→Rat}{a:Rat}(h:Bd n x a):Bd n (xH j x) a:=by
 refine⟨h.1,Rat.le_trans (MZ (fun i _=>?_)) h.2⟩
 unfold xH
 split
 ·have:=al (x i)
  grind
 ·exact Rat.le_refl
structure Ky (n j:Nat) (ms:List ((Nat→Rat)×Rat)) (V C:Nat→Nat→Rat) (e:Nat→Rat) (m:Rat):Prop where
 tri:Kx j C
 err:∀k,k<j→Bd n (fun i=>C k i+(-1)*bJ n ms (V k) i) (e k)
 le:∀k,k<j→e k≤m
 big:∀p,p<j→32768*m≤ab (C p p)
theorem xI{n j:Nat}(L:j≤3)(M:j≤n){l:List ((Nat→Rat)×Rat)}{V C:Nat→Nat→Rat}{e:Nat→Rat}{m:Rat}(h:Ky n j l V C e m)(y D d:Nat→Rat){t:Rat}
  (N:∀i,i<n→D i=ws y V j i) (O:Bd n (fun i=>d i+(-1)*bJ n l D i) t) (Y:t≤m) (Q:∀p,p<j→1000*ab (d p)≤1001*ab (C p p)):
  Bd n (xH j d) (t+wt j e j):=by
 have T:Bd n (ws y (fun k i=>C k i+(-1)*bJ n l (V k) i) j) (wb y e j):=vh n y e _ j h.err
 have J:=O.add (T.mul (-1))
 have U:ab (-1:Rat)=1:=by unfold ab;grind
 rw[U]at J
 have H:∀i,i<n→(d i+(-1)*bJ n l D i)+(-1)*ws y (fun k i=>C k i+(-1)*bJ n l (V k) i) j i=d i+(-1)*ws y C j i:=fun i F=>by
  rw[xD,i9 n l D (ws y V j) N i F,xG n l y V F j]
  grind
 have z:Bd n (fun i=>d i+(-1)*ws y C j i) (t+1*wb y e j):=J.congr H
 have Z:t+1*wb y e j≤m*(1+wb y (fun _=>1) j):=by
  have:=zK y j h.le
  rw[vi y m j]at this
  grind
 have X:=rO L h.tri y d (fun p=>-(d p+(-1)*ws y C j p)) (fun p I=>by grind) Q (fun p I=>by
  rw[ik]
  have a1:=z.at (show p<n by omega)
  have b1:=h.big p I
  have w0:0≤wb y (fun _=>1) j:=(vh n y (fun _=>1) (fun _ _=>0) j (fun k _=>(Bd.nought n).mono (by grind))).1
  have m1:=Rat.mul_nonneg (show 0≤ab (C p p)-32768*m by grind) (show 0≤1+wb y (fun _=>1) j by grind)
  generalize wb y (fun _=>1) j=W at*
  grind)
 have hW:=D9 j y e j (fun k G=>(h.err k G).1) X
 refine((Ea (j:=j) z).congr (fun i F=>?_)).mono (by grind)
 unfold xH
 split
 ·rfl
 ·show d i+(-1)*ws y C j i=d i
  rw[tf y C i j (fun k G=>h.tri.low k i G (by omega))]
  grind
theorem xJ{n j:Nat}(F:j≤3){d:List ((Nat→Rat)×Rat)}{v:Nat→Nat→Int}{C:Nat→Nat→Rat}{e:Nat→Rat}{m:Rat}(M:xC n (1/8796093022208) d)(N:d.length≤4)
  (h:Ky n j d (fun k i=>(v k i:Rat)) C e m) (l:Nat→Int) (t:Nat→Rat) {z β:Rat}
  (O:Bd n (fun i=>t i+(-1)*bJ n d (fun i=>(l i:Rat)) i) z) (Q:∀p,p<j→1000*ab (t p)≤1001*ab (C p p))
  (T:Bd n (xH j t) β) (hs:4000000*(β+z+wt j e j)≤1)
  (U:0<kZ (fun i k=>aU (v i) n (v k)) j) (V:kZ (fun i k=>aU (v i) n (v k)) j≤2097152):∀i,i<n→kG n v j l i=0:=by
 obtain⟨x,L⟩:=A8 F h.tri t
 have X:=rO F h.tri x t (fun _=>0) (fun p H=>by rw[L p H];grind) Q (fun p H=>by
  have w0:0≤wb x (fun _=>1) j:=(vh n x (fun _=>1) (fun _ _=>0) j (fun k _=>(Bd.nought n).mono (by grind))).1
  have Y:=Rat.mul_nonneg (bK (C p p)) (show 0≤1+wb x (fun _=>1) j by grind)
  have:ab (0:Rat)=0:=by unfold ab;grind
  rw[this]
  grind)
 have hW:=D9 j x e j (fun k G=>(h.err k G).1) X
 have Z:Bd n (ws x (fun k i=>C k i+(-1)*bJ n d (fun i=>(v k i:Rat)) i) j) (wb x e j):=vh n x e _ j h.err
 refine GV n v l x F U V ?_
 have e1:ab (-1:Rat)=1:=by unfold ab;grind
 have I:Bd n (bJ n d (fun i=>(l i:Rat)+(-1)*iw x v j i)) (β+z+wt j e j):=by
  have J:=(T.add (O.mul (-1))).add Z
  rw[e1]at J
  refine(J.congr (fun i D=>?_)).mono (by grind)
  have r1:=zI n d (fun i=>(l i:Rat)) (fun i=>(-1)*iw x v j i) i D
  have r2:=te n (-1) d (fun i=>iw x v j i) i D
  have r3:=i9 n d (fun i=>iw x v j i) (ws x (fun k i=>(v k i:Rat)) j) (fun i _=>zJ x v i j) i D
  have r4:=xG n d x (fun k i=>(v k i:Rat)) D j
  have r5:=xD x C (fun k=>bJ n d (fun i=>(v k i:Rat))) i j
  rw[r1,r2,r3,r4]
  have r6:xH j t i=t i+(-1)*ws x C j i:=by
   unfold xH
   split
   ·rename_i g;rw[L i g];grind
   ·rw[tf x C i j (fun k G=>h.tri.low k i G (by omega))];grind
  show(xH j t i+(-1)*(t i+(-1)*bJ n d (fun i=>(l i:Rat)) i))+ws x (fun k i=>C k i+(-1)*bJ n d (fun i=>(v k i:Rat)) i) j i=_
  rw[r6,r5]
  grind
 have lo:=GX d M N (fun i=>(l i:Rat)+(-1)*iw x v j i)
 have z0:=I.1
 have z2:=I.2
 generalize dt n (bJ n d (fun i=>(l i:Rat)+(-1)*iw x v j i)) (bJ n d (fun i=>(l i:Rat)+(-1)*iw x v j i))=A at*
 generalize dt n (fun i=>(l i:Rat)+(-1)*iw x v j i) (fun i=>(l i:Rat)+(-1)*iw x v j i)=B at*
 generalize β+z+wt j e j=S at*
 have Y:=Rat.mul_nonneg (show 0≤1-4000000*S by grind) (show 0≤1+4000000*S by grind)
 grind
open Go.RowKit
def jV(K:Int)(xs:List Nat):Prop:=(∀x∈xs,x<18446744073709551616∧ah x=true)∧(bS 0 xs=0∨(-K≤eX (bS 0 xs)∧eX (bS 0 xs)<K))
theorem gz(K:Int)(d:List Nat)(h:jV K d)(F:bS 0 d≠0):
  bS 0 d<9218868437227405312∧ah (bS 0 d)=true∧fK (bS 0 d)≠0∧fS (bS 0 d)=false∧-K≤eX (bS 0 d)∧eX (bS 0 d)<K∧
  (∀x∈d,ab (fQ x)≤fQ (bS 0 d))∧(∀x∈d,ab (dQ (eX (bS 0 d)) x)≤2)∧(∃x∈d,ab (fQ x)=fQ (bS 0 d)∧1≤dQ (eX (bS 0 d)) x*dQ (eX (bS 0 d)) x):=by
 obtain⟨T,g2,g3,t⟩:=mu d 0 (by decide) (fun x z=>(h.1 x z).2)
 have X:=h.2
 generalize hM:bS 0 d=M at*
 obtain⟨a1,U,G⟩:=iJ M (by omega)
 have fM:ah M=true:=(cF M).2.2.2 (by rw[U];exact T)
 have J:fK M≠0:=fun e=>F (by have:=(cP M).1 e;omega)
 have Y:=ju M G
 have L:fQ M=(rv M:Rat)*p2 (-1074):=by rw[df,G,U];rfl
 obtain⟨V,H⟩:=jv M (by omega) fM J
 rw[aQ Y]at V H
 have l:∀x∈d,ab (fQ x)≤fQ M:=fun x z=>by
  rw[iW,L]
  have Z:(rv (fR x):Rat)≤(rv M:Rat):=Rat.natCast_le_natCast.2 (jl (g3 x z))
  have:=Rat.mul_le_mul_of_nonneg_left Z (Rat.le_of_lt (aw (-1074)))
  grind
 obtain⟨y,hy,I⟩:∃x∈d,fR x=M:=by
  rcases t with t|t
  ·exact absurd t F
  ·exact t
 clear t
 have N:ab (fQ y)=fQ M:=by rw[iW,L,I]
 have D:=aw (-eX M)
 have aa:p2 (-eX M)*p2 (eX M)=1:=pz _
 rw[bR]at H
 have u1:=Rat.mul_le_mul_of_nonneg_left V (Rat.le_of_lt D)
 have u2:=Rat.mul_lt_mul_of_pos_left H D
 have O:∀x,ab (dQ (eX M) x)=ab (fQ x)*p2 (-eX M):=fun x=>by
  unfold dQ;rw[aK,aQ (Rat.le_of_lt D)]
 have Q:=X.resolve_left F
 refine⟨T,fM,J,G,Q.1,Q.2,l,?_,y,hy,N,?_⟩
 ·intro x z
  rw[O]
  have:=Rat.mul_le_mul_of_nonneg_left (l x z) (Rat.le_of_lt D)
  grind
 ·have e1:1≤ab (dQ (eX M) y):=by rw[O,N];grind
  have e2:dQ (eX M) y*dQ (eX M) y=ab (dQ (eX M) y)*ab (dQ (eX M) y):=by
   rw[←aK];exact(aQ (al _)).symm
  rw[e2]
  have:=Rat.mul_nonneg (show 0≤ab (dQ (eX M) y)-1 by grind) (show 0≤ab (dQ (eX M) y)-1 by grind)
  grind
theorem A9(K:Int)(hK:K≤900)(d:List Nat)(X:d.length≤64)(h:jV K d)(H:bS 0 d≠0):
  let k:=eX (bS 0 d);let s:=oK k 0 d
  aX d=xV (sV s) k∧ah s=true∧fS s=false∧fK s≠0∧1≤eO k d∧9007199254740992*ab (fQ s-eO k d)≤130*eO k d∧
  ah (sV s)=true∧sV s<18446744073709551616∧fS (sV s)=false∧1≤2*fQ (sV s)∧fQ (sV s)≤17∧ah (aX d)=true∧fS (aX d)=false∧fQ (aX d)=fQ (sV s)*p2 k:=by
 intro k s
 obtain⟨b1,b2,b3,b4,b5,b6,b7,N,y,hy,b9,ae⟩:=gz K d h H
 have z:aX d=xV (sV s) k:=by
  unfold aX
  rw[if_neg (by rw[b2];simp[H])]
 have I:1≤eO k d:=by have:=oL k d y hy;grind
 have Y:(d.length:Rat)≤64:=Rat.natCast_le_natCast.2 X
 have Z:eO k d≤256:=by have:=s9 k d N;grind
 have aa:=Rat.mul_nonneg (show 0≤64-(d.length:Rat) by grind) (show 0≤eO k d by grind)
 have z0:fQ 0=0:=bu 0 (by decide)
 obtain⟨O,Q,e3⟩:=s8 k (eO k d) I Z d 0 0 0 (fun x D=>⟨(h.1 x D).1,(h.1 x D).2,N x D⟩) (by decide) (by decide) (by grind) (by grind) (by rw[z0];unfold ab;grind)
 have e4:9007199254740992*ab (fQ s-eO k d)≤130*eO k d:=by
  have:(0:Rat)+eO k d=eO k d:=Rat.zero_add _
  rw[this]at e3
  grind
 have l:=au (fQ s-eO k d)
 have s1:1≤2*fQ s:=by grind
 have J:fK s≠0:=fun e=>by
  have:=bu s e
  grind
 obtain⟨G,T,U,r4,V,r6,r7⟩:=iX s O J Q
 have L:1≤2*fQ (sV s):=by
  rcases Rat.le_total (a:=1) (b:=2*fQ (sV s))with g|g
  ·exact g
  ·have:=Rat.mul_nonneg (show 0≤1-2*fQ (sV s) by grind) (show 0≤1+2*fQ (sV s) by grind)
   grind
 have M:fQ (sV s)≤17:=by
  rcases Rat.le_total (a:=fQ (sV s)) (b:=17)with g|g
  ·exact g
  ·have:=Rat.mul_nonneg (show 0≤fQ (sV s)-17 by grind) (show 0≤fQ (sV s)+17 by grind)
   grind
 have t:=aw k
 have x1:ab (fQ (sV s))*p2 k<p2 1023:=by
  rw[aQ V]
  have m1:=Rat.mul_le_mul_of_nonneg_left M (Rat.le_of_lt t)
  have F:=aA (show k+1+1+1+1+1≤1023 by omega)
  simp only[bR]at F
  grind
 have x2:p2 (-1022)≤ab (fQ (sV s))*p2 k:=by
  rw[aQ V]
  have m1:=Rat.mul_le_mul_of_nonneg_left L (Rat.le_of_lt t)
  have F:=aA (show-1022+1≤k by omega)
  rw[bR]at F
  grind
 obtain⟨y1,y2⟩:=oj (sV s) k U G x1 x2
 refine⟨z,O,Q,J,I,e4,G,U,T,L,M,by rw[z];exact y1,?_,by rw[z];exact y2⟩
 have q0:fK (sV s)≠0:=fun e=>by
  have:=bu (sV s) e
  grind
 rw[z,pL _ _ G q0]
 have ad:=di (fD (sV s)).natAbs (fX (sV s)+k)
 rw[js _ _ (by omega)]
 exact T
theorem pU(K:Int)(H:K≤900)(d:List Nat)(I:d.length≤64)(h:jV K d)(J:bS 0 d≠0):
  ah (aX d)=true∧fS (aX d)=false∧0<fQ (aX d)∧9007199254740992*ab (fQ (aX d)*fQ (aX d)-aJ d)≤135*aJ d:=by
 obtain⟨Y,N,O,U,Z,n6,n7,n8,n9,V,X,F,G,z⟩:=A9 K H d I h J
 have D:=aw (eX (bS 0 d))
 refine⟨F,G,?_,?_⟩
 ·rw[z]
  exact Rat.mul_pos (by grind) D
 obtain⟨r1,r2,r3,r4,r5,r6,r7⟩:=iX _ N U O
 rw[z,←GP (eX (bS 0 d)) d]
 generalize fQ (sV (oK (eX (bS 0 d)) 0 d))=R at*
 generalize fQ (oK (eX (bS 0 d)) 0 d)=S at*
 generalize eO (eX (bS 0 d)) d=T at*
 have t:=Rat.mul_pos D D
 have L:R*p2 (eX (bS 0 d))*(R*p2 (eX (bS 0 d)))-T*(p2 (eX (bS 0 d))*p2 (eX (bS 0 d)))=(R*R-T)*(p2 (eX (bS 0 d))*p2 (eX (bS 0 d))):=by grind
 rw[L,aK,aQ (Rat.le_of_lt t)]
 generalize p2 (eX (bS 0 d))*p2 (eX (bS 0 d))=Q at*
 have l:=au (S-T)
 have M:9007199254740992*ab (R*R-T)≤135*T:=by
  generalize R*R=RR at*
  unfold ab
  grind
 have:=Rat.mul_le_mul_of_nonneg_left M (Rat.le_of_lt t)
 grind
end Go.Proofs.YtmpkkhackbpflaaGreatDoor
