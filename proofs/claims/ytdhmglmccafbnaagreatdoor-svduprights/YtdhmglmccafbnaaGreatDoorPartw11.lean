/- Part 11 of the texts. -/
import Derived.Test.YtdhmglmccafbnaaGreatDoorPartw10
import Derived.Deep.Cut
set_option maxHeartbeats 4000000
namespace Go.Proofs.YtdhmglmccafbnaaGreatDoor
open Go.RowKit
def eY(z:Int):Int:=if z<0 then-1 else if z=0 then 0 else 1
def j8(sa x sb y:Int):Int:=bc (up sa x (bF sa x sb y)) (up sb y (bF sa x sb y))
theorem cs{u:Int}(h:u<0):eY u= -1:=by unfold eY;rw[if_pos h]
theorem fI:eY 0=0:=rfl
theorem ct{u:Int}(h:0<u):eY u=1:=by unfold eY;rw[if_neg (by omega),if_neg (by omega)]
theorem ie(s:Int)(k:Nat):eY (s*2^k)=eY s:=by
 have d:(0:Int)<2^k:=Int.pow_pos (by decide)
 rcases Int.lt_trichotomy s 0 with h|h|h
 ·rw[cs h,cs (Int.mul_neg_of_neg_of_pos h d)]
 ·subst h;rw[Int.zero_mul]
 ·rw[ct h,ct (Int.mul_pos h d)]
theorem mC(s x l:Int):eY (up s x l)=eY s:=ie s _
theorem jC{n:Bool}{L:List Nat}(h:al n L=true):gx n L.length=eY (ad n L):=by
 unfold gx
 have l:=aE h
 by_cases d:L.length=0
 ·rw[if_pos d,l.2 d];rfl
 ·have f:ad n L≠0:=fun e=>d (l.1 e)
  rw[if_neg d]
  unfold ad at f⊢
  cases n
  ·simp only[Bool.false_eq_true,if_false]at f⊢
   rw[ct (by omega)]
  ·simp only[if_true]at f⊢
   rw[cs (by omega)]
theorem zo{n:Bool}{L:List Nat}(h:al n L=true):uf n L.length=eY (ad n L):=by
 rw[←jC h]
 unfold uf gx
 cases n
 ·rfl
 ·have:L.length≠0:=fun e=>(au h).2.2 rfl (List.length_eq_zero_iff.1 e)
  simp[this]
theorem wU(u v:Int)(h:eY u≠eY v):bc (eY u) (eY v)=bc u v∧min 1 (max (-1) (eY u-eY v))=bc u v:=by
 rcases Int.lt_trichotomy u 0 with d|d|d<;>rcases Int.lt_trichotomy v 0 with f|f|f
 ·rw[cs d,cs f]at h;exact absurd rfl h
 ·subst f;rw[cs d,fI,dl d];decide
 ·rw[cs d,ct f,dl (show u<v by omega)];decide
 ·subst d;rw[cs f,fI,d9 f];decide
 ·subst d;subst f;exact absurd rfl h
 ·subst d;rw[ct f,fI,dl f];decide
 ·rw[ct d,cs f,d9 (show v<u by omega)];decide
 ·subst f;rw[ct d,fI,d9 d];decide
 ·rw[ct d,ct f]at h;exact absurd rfl h
theorem zp(z D u d f l:Nat)(F:z<2^u)(G:2^(d-1)≤D)(H:1≤d)(h:u+f<d+l):z*2^f<D*2^l:=by
 have J:z*2^f<2^(u+f):=by rw[Nat.pow_add];exact Nat.mul_lt_mul_of_pos_right F (Nat.pow_pos (by decide))
 have K:2^(d-1+l)≤D*2^l:=by rw[Nat.pow_add];exact Nat.mul_le_mul_right _ G
 have L:2^(u+f)≤2^(d-1+l):=Nat.pow_le_pow_right (by decide) (by omega)
 omega
theorem vE(n:Bool)(L:List Nat)(x l:Int):up (ad n L) x l=sg n (ai L*2^(x-l).toNat):=by
 unfold up
 rw[dn]
 unfold sg
 cases n
 ·simp
 ·simp[Int.neg_mul]
theorem wV(u v:Int):bc v u= -bc u v:=by
 unfold bc
 rcases Int.lt_trichotomy u v with h|h|h
 ·rw[if_neg (by omega),if_pos h,if_pos h];rfl
 ·subst h;simp
 ·rw[if_pos h,if_neg (by omega),if_pos h]
theorem nm(u v:Int):bc u v=eY (u-v):=by
 rcases Int.lt_trichotomy u v with h|h|h
 ·rw[dl h,cs (by omega)]
 ·subst h;rw[CY rfl,Int.sub_self];rfl
 ·rw[d9 h,ct (by omega)]
theorem pA{d f:Bool}{A B:List Nat}{x y:Int}(fA:aX A)(L:aX B)(z:al d A=true)(D:al f B=true)(F:A.length≠0)(G:B.length≠0)(M:d=f)(h:dw A+x<dw B+y):
  j8 (ad d A) x (ad f B) y=(if d then 1 else-1)∧j8 (ad f B) y (ad d A) x=(if d then-1 else 1):=by
 have H:ad d A≠0:=fun e=>F ((aE z).1 e)
 have J:ad f B≠0:=fun e=>G ((aE D).1 e)
 have N:=gQ A fA (au z).2.1 (fun e=>F (by rw[e];rfl))
 have K:=gQ B L (au D).2.1 (fun e=>G (by rw[e];rfl))
 rw[gP,gP]at h
 have u:∀l,l≤x→l≤y→bc (up (ad d A) x l) (up (ad f B) y l)=(if d then 1 else-1):=by
  intro l Q U
  have O:=zp (ai A) (ai B) (jr A) (jr B) (x-l).toNat (y-l).toNat N.2.2 K.2.1 K.1 (by omega)
  rw[vE,vE,←M]
  unfold sg
  cases d
  ·simp only[Bool.false_eq_true,if_false]
   exact dl (by omega)
  ·simp only[if_true]
   exact d9 (by omega)
 constructor
 ·unfold j8
  rw[ic _ _ _ _ H J]
  exact u _ (by omega) (by omega)
 ·unfold j8
  rw[ic _ _ _ _ J H,wV,u _ (by omega) (by omega)]
  cases d<;>rfl
theorem zq{d l:Bool}{A B:List Nat}{x y:Int}(fA:aX A)(u:aX B)(z:al d A=true)(D:al l B=true)(F:A.length≠0)(G:B.length≠0)(h:dw A+x=dw B+y):
  eu (ad d A) x (min x y)=0∧eu (ad l B) y (min x y)=0:=by
 have bl:∀(n:Bool) (L:List Nat),aX L→al n L=true→L.length≠0→1≤dw L∧dw L≤16384:=fun n L f r K=>by
  have s:=gQ L f (au r).2.1 (fun e=>K (by rw[e];rfl))
  have H:=(dJ L f (au r).2.1).2 (au r).1
  have M:32*kN=16384:=rfl
  rw[uj]at H
  have J:=vC (ai L) (jr L) 0 (32*kN) s.1 s.2.1 s.2.2
  rw[Nat.pow_zero,Nat.mul_one]at J
  have:=J.1 H
  rw[gP]
  omega
 have N:=bl d A fA z F
 have O:=bl l B u D G
 rw[vD d A x _ fA z (fun e=>F (by rw[e];rfl)) (by omega),vD l B y _ u D (fun e=>G (by rw[e];rfl)) (by omega)]
 omega
attribute [local go_sem ↓] Go.wp_at_zero Go.wp_at_succ
theorem zr{d f:Bool}{A B:List Nat}{x y:Int}(fA:aX A)(K:aX B)(L:jS d A x=true)(M:jS f B y=true):
  (gx d A.length≠gx f B.length∧bc (gx d A.length) (gx f B.length)=j8 (ad d A) x (ad f B) y∧min 1 (max (-1) (gx d A.length-gx f B.length))=j8 (ad d A) x (ad f B) y)∨
  (gx d A.length=gx f B.length∧∃s c:Int,(s=1∨s= -1)∧((c=1∧gy B y<gy A x)∨(c= -1∧gy A x<gy B y))∧gx d A.length=s∧bc (gy A x) (gy B y)=c∧j8 (ad d A) x (ad f B) y=s*c)∨
  (gx d A.length=gx f B.length∧gy A x=gy B y∧eu (ad d A) x (min x y)=0∧eu (ad f B) y (min x y)=0∧bc (up (ad d A) x (min x y)) (up (ad f B) y (min x y))=j8 (ad d A) x (ad f B) y∧bF (ad d A) x (ad f B) y=min x y):=by
 obtain⟨F,_,a1,a2,Z⟩:=bO L
 obtain⟨G,_,b1,b2,zy⟩:=bO M
 rw[jC F,jC G]
 by_cases l:eY (ad d A)=eY (ad f B)
 case neg=>
  left
  have h:=wU (up (ad d A) x (bF (ad d A) x (ad f B) y)) (up (ad f B) y (bF (ad d A) x (ad f B) y)) (by rw[mC,mC];exact l)
  rw[mC,mC]at h
  exact⟨l,h.1,h.2⟩
 right
 by_cases u:A.length=0
 ·have U:=(aE F).2 u
  have V:ad f B=0:=by
   rw[U,fI]at l
   rcases Int.lt_trichotomy (ad f B) 0 with h|h|h
   ·rw[cs h]at l;exact absurd l (by decide)
   ·exact h
   ·rw[ct h]at l;exact absurd l (by decide)
  have z:=(aE G).1 V
  right
  refine⟨l,by unfold gy;rw[if_pos u,if_pos z],?_⟩
  rw[U,V,Z u,zy z]
  refine⟨ib _ _ _ (by rw[fr];exact mA) (by decide),ib _ _ _ (by rw[fr];exact mA) (by decide),?_,by simp[bF]⟩
  unfold j8
  simp[fr]
 have N:ad d A≠0:=fun e=>u ((aE F).1 e)
 have O:ad f B≠0:=fun e=>by
  rw[e,fI]at l
  rcases Int.lt_trichotomy (ad d A) 0 with h|h|h
  ·rw[cs h]at l;exact absurd l (by decide)
  ·exact N h
  ·rw[ct h]at l;exact absurd l (by decide)
 have z:B.length≠0:=fun e=>O ((aE G).2 e)
 have D:d=f∧eY (ad d A)=if d then-1 else 1:=by
  have H:=jC F
  have Q:=jC G
  unfold gx at H Q
  rw[if_neg u]at H
  rw[if_neg z]at Q
  refine⟨?_,H.symm⟩
  rw[←H,←Q]at l
  cases d<;>cases f<;>first|rfl|exact absurd l (by decide)
 have Y:gy A x=dw A+x:=by unfold gy;rw[if_neg u]
 have tB:gy B y=dw B+y:=by unfold gy;rw[if_neg z]
 rw[Y,tB]
 rcases Int.lt_trichotomy (dw A+x) (dw B+y)with h|h|h
 ·left
  have J:=(pA fA K F G u z D.1 h).1
  refine⟨l,if d then-1 else 1,-1,?_,.inr ⟨rfl,h⟩,D.2,dl h,?_⟩
  ·cases d<;>simp
  ·rw[J];cases d<;>rfl
 ·right
  have X:=zq fA K F G u z h
  refine⟨l,h,X.1,X.2,?_,ic _ _ _ _ N O⟩
  unfold j8
  rw[ic _ _ _ _ N O]
 ·left
  have J:=(pA K fA G F z u D.1.symm h).2
  rw[←D.1]at J
  refine⟨l,if d then-1 else 1,1,?_,.inl ⟨rfl,h⟩,D.2,d9 h,?_⟩
  ·cases d<;>simp
  ·rw[D.1,←D.1,J];cases d<;>rfl
theorem Dr{neg:Bool}{L:List Nat}{m:Int}(l:bG L)(d:neg=decide (m<0))(f:ai L=m.natAbs):uf neg L.length=eY m:=by
 unfold uf
 rcases Int.lt_trichotomy m 0 with h|h|h
 ·rw[d,decide_eq_true h,if_pos rfl,cs h]
 ·subst h
  have:L= []:=(aG L l).1 (by rw[f];rfl)
  rw[d,this]
  rfl
 ·have u:L.length≠0:=fun e=>by
   have:L= []:=List.length_eq_zero_iff.1 e
   rw[this]at f;simp[ai]at f;omega
  rw[d,decide_eq_false (by omega),if_neg (by decide),if_neg u,ct h]
theorem vF(z:Int):eY (oM z)=eY z:=by
 by_cases h:z=0
 ·subst h;rw[cl]
 ·have:=(fq z h).1
  conv=>rhs;rw[this]
  rw[ie]
theorem nr(n:Bool)(k:Nat):gx n k= -1∨gx n k=0∨gx n k=1:=by
 unfold gx
 split
 ·exact .inr (.inl rfl)
 ·cases n
  ·exact .inr (.inr rfl)
  ·exact .inl rfl
theorem qv(z D:Bool)(H J:Option Addr)(K L:Nat)(A B:List Nat)(x y:Int)(w:World)(hA:ag w H K A)(hB:ag w J L B)(a7:jS z A x=true)(a9:jS D B y=true):
  Calls Tryz.prog 51 #[.agg #[.bool z,.slice H A.length K,.int .i64 x],.agg #[.bool D,.slice J B.length L,.int .i64 y]] w fun r w'=>r=.returned (.int .i64 (j8 (ad z A) x (ad D B) y))∧Below w.heap.size w w':=by
 have ax:=aa (zr hA.2.1 hB.2.1 a7 a9)
 obtain⟨ra,la,bn,bq,zx⟩:=bO a7
 obtain⟨rb,lb,bt,bv,zy⟩:=bO a9
 have aI:=aa (fun w'=>kV z H K A.length x w')
 have a0:=aa (fun w'=>kV D J L B.length y w')
 rw[zo ra,←jC ra]at aI
 rw[zo rb,←jC rb]at a0
 have a2:=aa (fun w' h=>ng z H K A x w' h (by omega) (by omega))
 have a3:=aa (fun w' h=>ng D J L B y w' h (by omega) (by omega))
 have am:=aa (fun(V:bF (ad z A) x (ad D B) y=min x y) (h1:eu (ad z A) x (min x y)=0) (h2:eu (ad D B) y (min x y)=0) w' h h'=>zm z D H J K L A B x y w' h h' ra rb ⟨bn,bq⟩ ⟨bt,bv⟩ (by rw[nl,V];exact h1) (by rw[nl,Dp,V];exact h2))
 have HZ:=aa (fun(V:bF (ad z A) x (ad D B) y=min x y)=>show eY (oM (dK (ad z A) x (-ad D B) y))=bc (up (ad z A) x (min x y)) (up (ad D B) y (min x y)) by
  rw[vF,nm]
  unfold dK
  rw[nl,V,zn,Int.sub_eq_add_neg])
 have a4:=aa (nr z A.length);have a6:=aa (nr D B.length)
 clear a7 a9 zx zy ra rb
 generalize oE (dK (ad z A) x (-ad D B) y) (bF (ad z A) x (-ad D B) y)=oe at*
 generalize oM (dK (ad z A) x (-ad D B) y)=om at*
 generalize j8 (ad z A) x (ad D B) y=cv at*
 generalize eu (ad z A) x (min x y)=ea at*
 generalize eu (ad D B) y (min x y)=eb at*
 generalize up (ad z A) x (min x y)=za at*
 generalize up (ad D B) y (min x y)=zb at*
 generalize gy A x=ta at*
 generalize gy B y=tb at*
 generalize gx z A.length=bz at*
 generalize gx D B.length=bA at*
 generalize bF (ad z A) x (ad D B) y=l at*
 have be:Below w.heap.size w ((w.alloc (.cells #[.bool z,.slice H A.length K,.int .i64 x] 41)).alloc (.cells #[.bool D,.slice J B.length L,.int .i64 y] 41)):=((Below.refl _ _).alloc (Nat.le_refl _) _).alloc (by simp) _
 have F:ay ((w.alloc (.cells #[.bool z,.slice H A.length K,.int .i64 x] 41)).alloc (.cells #[.bool D,.slice J B.length L,.int .i64 y] 41)) w.heap.size (.bool z) (.slice H A.length K) (.int .i64 x):=(ay.new _ _ _ _).old _
 have G:ay ((w.alloc (.cells #[.bool z,.slice H A.length K,.int .i64 x] 41)).alloc (.cells #[.bool D,.slice J B.length L,.int .i64 y] 41)) (w.heap.size+1) (.bool D) (.slice J B.length L) (.int .i64 y):=by
  have:=ay.new (w.alloc (.cells #[.bool z,.slice H A.length K,.int .i64 x] 41)) (.bool D) (.slice J B.length L) (.int .i64 y)
  simpa using this
 have B0:=aa be;have M:=aa F;have N:=aa G
 clear be F G
 rcases uH ax with⟨ba,_,hc⟩|⟨ap,s,c,hs,hc,rfl,bw,ae⟩|⟨ap,bx,h1,h2,ae,V⟩
 ·clear ax a2 a3 am HZ
  rcases uH a4 with rfl|rfl|rfl<;>rcases uH a6 with rfl|rfl|rfl
  all_goals first|exact absurd rfl ba|skip
  all_goals
   have ae:cv=_:=hc.symm
   clear ba hc a4 a6
   simp only[show min (1:Int) (max (-1) (-1-0))= -1 by decide,show min (1:Int) (max (-1) (-1-1))= -1 by decide,show min (1:Int) (max (-1) (0- -1))=1 by decide,show min (1:Int) (max (-1) (0-1))= -1 by decide,show min (1:Int) (max (-1) (1- -1))=1 by decide,show min (1:Int) (max (-1) (1-0))=1 by decide]at ae
   subst ae
   go_enter Tryz.func51,Tryz.ntmps51
   go_wp2_with fail
   refine aj (fun W=>Below w.heap.size w W∧ay W w.heap.size (.bool z) (.slice H A.length K) (.int .i64 x)∧ay W (w.heap.size+1) (.bool D) (.slice J B.length L) (.int .i64 y)) ⟨uH B0,uH M,uH N⟩ ?_
   clear B0 M N
   rintro f ⟨Q,F,G⟩
   have hK:∀w',Below f.heap.size f w'→Below f.heap.size f w'∧w'.cell? ⟨w.heap.size,0,none⟩=some (.bool z)∧w'.cell? ⟨w.heap.size,1,none⟩=some (.slice H A.length K)∧w'.cell? ⟨w.heap.size,2,none⟩=some (.int .i64 x)∧w'.cell? ⟨w.heap.size+1,0,none⟩=some (.bool D)∧w'.cell? ⟨w.heap.size+1,1,none⟩=some (.slice J B.length L)∧w'.cell? ⟨w.heap.size+1,2,none⟩=some (.int .i64 y):=fun w' h=>
    ⟨h,(F.all h).c0,(F.all h).c1,(F.all h).c2,(G.all h).c0,(G.all h).c1,(G.all h).c2⟩
   have X:=aa hK
   have HA:=aa (hA.below Q);have HB:=aa (hB.below Q);have Y:=aa Q;have M:=aa F;have N:=aa G
   clear hK Q F G
   go_region_held3(fun w'=>Below f.heap.size f w'∧w'.cell? ⟨w.heap.size,0,none⟩=some (.bool z)∧w'.cell? ⟨w.heap.size,1,none⟩=some (.slice H A.length K)∧w'.cell? ⟨w.heap.size,2,none⟩=some (.int .i64 x)∧w'.cell? ⟨w.heap.size+1,0,none⟩=some (.bool D)∧w'.cell? ⟨w.heap.size+1,1,none⟩=some (.slice J B.length L)∧w'.cell? ⟨w.heap.size+1,2,none⟩=some (.int .i64 y))
    (first|exact uH X _ (Below.refl _ _).drew|exact uH X _ (by assumption))
    (first|(go_at_call_of 104 (Value.agg #[.bool z,.slice H A.length K,.int .i64 x]);refine(uH aI _).mono ?_;rintro e O ⟨rfl,d⟩;have U:Below f.heap.size f O:=Below.trans (And.left (by assumption)) (d.mono (Below.size (And.left (by assumption))));clear d)|(go_at_call_of 104 (Value.agg #[.bool D,.slice J B.length L,.int .i64 y]);refine(uH a0 _).mono ?_;rintro e O ⟨rfl,d⟩;have U:Below f.heap.size f O:=Below.trans (And.left (by assumption)) (d.mono (Below.size (And.left (by assumption))));clear d))
   go_wp2_with fail
   have Z:Below f.heap.size f O:=And.left (by assumption)
   have b9:=(uH Y).trans (Z.mono (uH Y).size);have x9:=(uH M).all Z;have y9:=(uH N).all Z
   clear X HA HB Y M N Z
   have B0:=aa b9;have M:=aa x9;have N:=aa y9
   clear b9 x9 y9
   refine aj (fun W=>Below w.heap.size w W∧ay W w.heap.size (.bool z) (.slice H A.length K) (.int .i64 x)∧ay W (w.heap.size+1) (.bool D) (.slice J B.length L) (.int .i64 y)) ⟨uH B0,uH M,uH N⟩ ?_
   clear B0 M N
   rintro f ⟨Q,F,G⟩
   have hK:∀w',Below f.heap.size f w'→Below f.heap.size f w'∧w'.cell? ⟨w.heap.size,0,none⟩=some (.bool z)∧w'.cell? ⟨w.heap.size,1,none⟩=some (.slice H A.length K)∧w'.cell? ⟨w.heap.size,2,none⟩=some (.int .i64 x)∧w'.cell? ⟨w.heap.size+1,0,none⟩=some (.bool D)∧w'.cell? ⟨w.heap.size+1,1,none⟩=some (.slice J B.length L)∧w'.cell? ⟨w.heap.size+1,2,none⟩=some (.int .i64 y):=fun w' h=>
    ⟨h,(F.all h).c0,(F.all h).c1,(F.all h).c2,(G.all h).c0,(G.all h).c1,(G.all h).c2⟩
   have X:=aa hK
   have HA:=aa (hA.below Q);have HB:=aa (hB.below Q);have Y:=aa Q;have M:=aa F;have N:=aa G
   clear hK Q F G
   go_region_held3(fun w'=>Below f.heap.size f w'∧w'.cell? ⟨w.heap.size,0,none⟩=some (.bool z)∧w'.cell? ⟨w.heap.size,1,none⟩=some (.slice H A.length K)∧w'.cell? ⟨w.heap.size,2,none⟩=some (.int .i64 x)∧w'.cell? ⟨w.heap.size+1,0,none⟩=some (.bool D)∧w'.cell? ⟨w.heap.size+1,1,none⟩=some (.slice J B.length L)∧w'.cell? ⟨w.heap.size+1,2,none⟩=some (.int .i64 y))
    (first|exact uH X _ (Below.refl _ _).drew|exact uH X _ (by assumption))
    (first|(go_at_call_of 104 (Value.agg #[.bool z,.slice H A.length K,.int .i64 x]);refine(uH aI _).mono ?_;rintro e O ⟨rfl,d⟩;have U:Below f.heap.size f O:=Below.trans (And.left (by assumption)) (d.mono (Below.size (And.left (by assumption))));clear d)|(go_at_call_of 104 (Value.agg #[.bool D,.slice J B.length L,.int .i64 y]);refine(uH a0 _).mono ?_;rintro e O ⟨rfl,d⟩;have U:Below f.heap.size f O:=Below.trans (And.left (by assumption)) (d.mono (Below.size (And.left (by assumption))));clear d))
   go_wp2
   go_ret
   exact⟨rfl,(uH Y).trans (Below.mono (And.left (by assumption)) (uH Y).size)⟩
 ·subst ap
  have bg:=aa ae
  clear ax am HZ a4 a6 bw ae
  rcases hs with rfl|rfl
  all_goals
   rcases hc with⟨rfl,ht⟩|⟨rfl,ht⟩
  all_goals
   have ae:=uH bg
   simp only[show(1:Int)*1=1 by decide,show(1:Int)* -1= -1 by decide,show(-1:Int)*1= -1 by decide,show(-1:Int)* -1=1 by decide]at ae
   subst ae
   have ba:(ta != tb)=true:=by rw[bne_iff_ne];omega
   first|(have g:decide (tb<ta)=true:=decide_eq_true (by omega))|(have g:decide (tb<ta)=false:=decide_eq_false (by omega))
   clear bg
   go_enter Tryz.func51,Tryz.ntmps51
   go_wp2_with fail
   refine aj (fun W=>Below w.heap.size w W∧ay W w.heap.size (.bool z) (.slice H A.length K) (.int .i64 x)∧ay W (w.heap.size+1) (.bool D) (.slice J B.length L) (.int .i64 y)) ⟨uH B0,uH M,uH N⟩ ?_
   clear B0 M N
   rintro f ⟨Q,F,G⟩
   have hK:∀w',Below f.heap.size f w'→Below f.heap.size f w'∧w'.cell? ⟨w.heap.size,0,none⟩=some (.bool z)∧w'.cell? ⟨w.heap.size,1,none⟩=some (.slice H A.length K)∧w'.cell? ⟨w.heap.size,2,none⟩=some (.int .i64 x)∧w'.cell? ⟨w.heap.size+1,0,none⟩=some (.bool D)∧w'.cell? ⟨w.heap.size+1,1,none⟩=some (.slice J B.length L)∧w'.cell? ⟨w.heap.size+1,2,none⟩=some (.int .i64 y):=fun w' h=>
    ⟨h,(F.all h).c0,(F.all h).c1,(F.all h).c2,(G.all h).c0,(G.all h).c1,(G.all h).c2⟩
   have X:=aa hK
   have HA:=aa (hA.below Q);have HB:=aa (hB.below Q);have Y:=aa Q;have M:=aa F;have N:=aa G
   clear hK Q F G
   go_region_held3(fun w'=>Below f.heap.size f w'∧w'.cell? ⟨w.heap.size,0,none⟩=some (.bool z)∧w'.cell? ⟨w.heap.size,1,none⟩=some (.slice H A.length K)∧w'.cell? ⟨w.heap.size,2,none⟩=some (.int .i64 x)∧w'.cell? ⟨w.heap.size+1,0,none⟩=some (.bool D)∧w'.cell? ⟨w.heap.size+1,1,none⟩=some (.slice J B.length L)∧w'.cell? ⟨w.heap.size+1,2,none⟩=some (.int .i64 y))
    (first|exact uH X _ (Below.refl _ _).drew|exact uH X _ (by assumption))
    (first|(go_at_call_of 104 (Value.agg #[.bool z,.slice H A.length K,.int .i64 x]);refine(uH aI _).mono ?_;rintro e O ⟨rfl,d⟩;have U:Below f.heap.size f O:=Below.trans (And.left (by assumption)) (d.mono (Below.size (And.left (by assumption))));clear d)|(go_at_call_of 104 (Value.agg #[.bool D,.slice J B.length L,.int .i64 y]);refine(uH a0 _).mono ?_;rintro e O ⟨rfl,d⟩;have U:Below f.heap.size f O:=Below.trans (And.left (by assumption)) (d.mono (Below.size (And.left (by assumption))));clear d))
   go_wp2_with fail
   have Z:Below f.heap.size f O:=And.left (by assumption)
   have b9:=(uH Y).trans (Z.mono (uH Y).size);have x9:=(uH M).all Z;have y9:=(uH N).all Z
   clear X HA HB Y M N Z
   have B0:=aa b9;have M:=aa x9;have N:=aa y9
   clear b9 x9 y9
   refine aj (fun W=>Below w.heap.size w W∧ay W w.heap.size (.bool z) (.slice H A.length K) (.int .i64 x)∧ay W (w.heap.size+1) (.bool D) (.slice J B.length L) (.int .i64 y)) ⟨uH B0,uH M,uH N⟩ ?_
   clear B0 M N
   rintro f ⟨Q,F,G⟩
   have hK:∀w',Below f.heap.size f w'→Below f.heap.size f w'∧w'.cell? ⟨w.heap.size,0,none⟩=some (.bool z)∧w'.cell? ⟨w.heap.size,1,none⟩=some (.slice H A.length K)∧w'.cell? ⟨w.heap.size,2,none⟩=some (.int .i64 x)∧w'.cell? ⟨w.heap.size+1,0,none⟩=some (.bool D)∧w'.cell? ⟨w.heap.size+1,1,none⟩=some (.slice J B.length L)∧w'.cell? ⟨w.heap.size+1,2,none⟩=some (.int .i64 y):=fun w' h=>
    ⟨h,(F.all h).c0,(F.all h).c1,(F.all h).c2,(G.all h).c0,(G.all h).c1,(G.all h).c2⟩
   have X:=aa hK
   have HA:=aa (hA.below Q);have HB:=aa (hB.below Q);have Y:=aa Q;have M:=aa F;have N:=aa G
   clear hK Q F G
   go_region_held3(fun w'=>Below f.heap.size f w'∧w'.cell? ⟨w.heap.size,0,none⟩=some (.bool z)∧w'.cell? ⟨w.heap.size,1,none⟩=some (.slice H A.length K)∧w'.cell? ⟨w.heap.size,2,none⟩=some (.int .i64 x)∧w'.cell? ⟨w.heap.size+1,0,none⟩=some (.bool D)∧w'.cell? ⟨w.heap.size+1,1,none⟩=some (.slice J B.length L)∧w'.cell? ⟨w.heap.size+1,2,none⟩=some (.int .i64 y))
    (first|exact uH X _ (Below.refl _ _).drew|exact uH X _ (by assumption))
    (first|(go_at_call_of 105 (Value.agg #[.bool z,.slice H A.length K,.int .i64 x]);refine(uH a2 _ ((uH HA).below (And.left (by assumption)))).mono ?_;rintro e O ⟨rfl,d⟩;have U:Below f.heap.size f O:=Below.trans (And.left (by assumption)) (d.mono (Below.size (And.left (by assumption))));clear d)|(go_at_call_of 105 (Value.agg #[.bool D,.slice J B.length L,.int .i64 y]);refine(uH a3 _ ((uH HB).below (And.left (by assumption)))).mono ?_;rintro e O ⟨rfl,d⟩;have U:Below f.heap.size f O:=Below.trans (And.left (by assumption)) (d.mono (Below.size (And.left (by assumption))));clear d))
   go_wp2_with fail
   have Z:Below f.heap.size f O:=And.left (by assumption)
   have b9:=(uH Y).trans (Z.mono (uH Y).size);have x9:=(uH M).all Z;have y9:=(uH N).all Z
   clear X HA HB Y M N Z
   have B0:=aa b9;have M:=aa x9;have N:=aa y9
   clear b9 x9 y9
   refine aj (fun W=>Below w.heap.size w W∧ay W w.heap.size (.bool z) (.slice H A.length K) (.int .i64 x)∧ay W (w.heap.size+1) (.bool D) (.slice J B.length L) (.int .i64 y)) ⟨uH B0,uH M,uH N⟩ ?_
   clear B0 M N
   rintro f ⟨Q,F,G⟩
   have hK:∀w',Below f.heap.size f w'→Below f.heap.size f w'∧w'.cell? ⟨w.heap.size,0,none⟩=some (.bool z)∧w'.cell? ⟨w.heap.size,1,none⟩=some (.slice H A.length K)∧w'.cell? ⟨w.heap.size,2,none⟩=some (.int .i64 x)∧w'.cell? ⟨w.heap.size+1,0,none⟩=some (.bool D)∧w'.cell? ⟨w.heap.size+1,1,none⟩=some (.slice J B.length L)∧w'.cell? ⟨w.heap.size+1,2,none⟩=some (.int .i64 y):=fun w' h=>
    ⟨h,(F.all h).c0,(F.all h).c1,(F.all h).c2,(G.all h).c0,(G.all h).c1,(G.all h).c2⟩
   have X:=aa hK
   have HA:=aa (hA.below Q);have HB:=aa (hB.below Q);have Y:=aa Q;have M:=aa F;have N:=aa G
   clear hK Q F G
   go_region_held3(fun w'=>Below f.heap.size f w'∧w'.cell? ⟨w.heap.size,0,none⟩=some (.bool z)∧w'.cell? ⟨w.heap.size,1,none⟩=some (.slice H A.length K)∧w'.cell? ⟨w.heap.size,2,none⟩=some (.int .i64 x)∧w'.cell? ⟨w.heap.size+1,0,none⟩=some (.bool D)∧w'.cell? ⟨w.heap.size+1,1,none⟩=some (.slice J B.length L)∧w'.cell? ⟨w.heap.size+1,2,none⟩=some (.int .i64 y))
    (first|exact uH X _ (Below.refl _ _).drew|exact uH X _ (by assumption))
    (first|(go_at_call_of 105 (Value.agg #[.bool z,.slice H A.length K,.int .i64 x]);refine(uH a2 _ ((uH HA).below (And.left (by assumption)))).mono ?_;rintro e O ⟨rfl,d⟩;have U:Below f.heap.size f O:=Below.trans (And.left (by assumption)) (d.mono (Below.size (And.left (by assumption))));clear d)|(go_at_call_of 105 (Value.agg #[.bool D,.slice J B.length L,.int .i64 y]);refine(uH a3 _ ((uH HB).below (And.left (by assumption)))).mono ?_;rintro e O ⟨rfl,d⟩;have U:Below f.heap.size f O:=Below.trans (And.left (by assumption)) (d.mono (Below.size (And.left (by assumption))));clear d)|(go_at_call_of 104 (Value.agg #[.bool z,.slice H A.length K,.int .i64 x]);refine(uH aI _).mono ?_;rintro e O ⟨rfl,d⟩;have U:Below f.heap.size f O:=Below.trans (And.left (by assumption)) (d.mono (Below.size (And.left (by assumption))));clear d)|(go_at_call_of 104 (Value.agg #[.bool D,.slice J B.length L,.int .i64 y]);refine(uH a0 _).mono ?_;rintro e O ⟨rfl,d⟩;have U:Below f.heap.size f O:=Below.trans (And.left (by assumption)) (d.mono (Below.size (And.left (by assumption))));clear d))
   go_wp2
   go_ret
   exact⟨rfl,(uH Y).trans (Below.mono (And.left (by assumption)) (uH Y).size)⟩
 ·subst ap
  subst bx
  have hz:=uH HZ V
  rw[ae]at hz
  have bm:=aa hz
  have a1:=aa (uH am V h1 h2)
  have am:=a1
  clear ax a4 a6 HZ V h1 h2 ae hz a1
  go_enter Tryz.func51,Tryz.ntmps51
  go_wp2_with fail
  refine aj (fun W=>Below w.heap.size w W∧ay W w.heap.size (.bool z) (.slice H A.length K) (.int .i64 x)∧ay W (w.heap.size+1) (.bool D) (.slice J B.length L) (.int .i64 y)) ⟨uH B0,uH M,uH N⟩ ?_
  clear B0 M N
  rintro f ⟨Q,F,G⟩
  have hK:∀w',Below f.heap.size f w'→Below f.heap.size f w'∧w'.cell? ⟨w.heap.size,0,none⟩=some (.bool z)∧w'.cell? ⟨w.heap.size,1,none⟩=some (.slice H A.length K)∧w'.cell? ⟨w.heap.size,2,none⟩=some (.int .i64 x)∧w'.cell? ⟨w.heap.size+1,0,none⟩=some (.bool D)∧w'.cell? ⟨w.heap.size+1,1,none⟩=some (.slice J B.length L)∧w'.cell? ⟨w.heap.size+1,2,none⟩=some (.int .i64 y):=fun w' h=>
   ⟨h,(F.all h).c0,(F.all h).c1,(F.all h).c2,(G.all h).c0,(G.all h).c1,(G.all h).c2⟩
  have X:=aa hK
  have HA:=aa (hA.below Q);have HB:=aa (hB.below Q);have Y:=aa Q;have M:=aa F;have N:=aa G
  clear hK Q F G
  go_region_held3(fun w'=>Below f.heap.size f w'∧w'.cell? ⟨w.heap.size,0,none⟩=some (.bool z)∧w'.cell? ⟨w.heap.size,1,none⟩=some (.slice H A.length K)∧w'.cell? ⟨w.heap.size,2,none⟩=some (.int .i64 x)∧w'.cell? ⟨w.heap.size+1,0,none⟩=some (.bool D)∧w'.cell? ⟨w.heap.size+1,1,none⟩=some (.slice J B.length L)∧w'.cell? ⟨w.heap.size+1,2,none⟩=some (.int .i64 y))
   (first|exact uH X _ (Below.refl _ _).drew|exact uH X _ (by assumption))
   (first|(go_at_call_of 104 (Value.agg #[.bool z,.slice H A.length K,.int .i64 x]);refine(uH aI _).mono ?_;rintro e O ⟨rfl,d⟩;have U:Below f.heap.size f O:=Below.trans (And.left (by assumption)) (d.mono (Below.size (And.left (by assumption))));clear d)|(go_at_call_of 104 (Value.agg #[.bool D,.slice J B.length L,.int .i64 y]);refine(uH a0 _).mono ?_;rintro e O ⟨rfl,d⟩;have U:Below f.heap.size f O:=Below.trans (And.left (by assumption)) (d.mono (Below.size (And.left (by assumption))));clear d))
  go_wp2_with fail
  have Z:Below f.heap.size f O:=And.left (by assumption)
  have b9:=(uH Y).trans (Z.mono (uH Y).size);have x9:=(uH M).all Z;have y9:=(uH N).all Z
  clear X HA HB Y M N Z
  have B0:=aa b9;have M:=aa x9;have N:=aa y9
  clear b9 x9 y9
  refine aj (fun W=>Below w.heap.size w W∧ay W w.heap.size (.bool z) (.slice H A.length K) (.int .i64 x)∧ay W (w.heap.size+1) (.bool D) (.slice J B.length L) (.int .i64 y)) ⟨uH B0,uH M,uH N⟩ ?_
  clear B0 M N
  rintro f ⟨Q,F,G⟩
  have hK:∀w',Below f.heap.size f w'→Below f.heap.size f w'∧w'.cell? ⟨w.heap.size,0,none⟩=some (.bool z)∧w'.cell? ⟨w.heap.size,1,none⟩=some (.slice H A.length K)∧w'.cell? ⟨w.heap.size,2,none⟩=some (.int .i64 x)∧w'.cell? ⟨w.heap.size+1,0,none⟩=some (.bool D)∧w'.cell? ⟨w.heap.size+1,1,none⟩=some (.slice J B.length L)∧w'.cell? ⟨w.heap.size+1,2,none⟩=some (.int .i64 y):=fun w' h=>
   ⟨h,(F.all h).c0,(F.all h).c1,(F.all h).c2,(G.all h).c0,(G.all h).c1,(G.all h).c2⟩
  have X:=aa hK
  have HA:=aa (hA.below Q);have HB:=aa (hB.below Q);have Y:=aa Q;have M:=aa F;have N:=aa G
  clear hK Q F G
  go_region_held3(fun w'=>Below f.heap.size f w'∧w'.cell? ⟨w.heap.size,0,none⟩=some (.bool z)∧w'.cell? ⟨w.heap.size,1,none⟩=some (.slice H A.length K)∧w'.cell? ⟨w.heap.size,2,none⟩=some (.int .i64 x)∧w'.cell? ⟨w.heap.size+1,0,none⟩=some (.bool D)∧w'.cell? ⟨w.heap.size+1,1,none⟩=some (.slice J B.length L)∧w'.cell? ⟨w.heap.size+1,2,none⟩=some (.int .i64 y))
   (first|exact uH X _ (Below.refl _ _).drew|exact uH X _ (by assumption))
   (first|(go_at_call_of 105 (Value.agg #[.bool z,.slice H A.length K,.int .i64 x]);refine(uH a2 _ ((uH HA).below (And.left (by assumption)))).mono ?_;rintro e O ⟨rfl,d⟩;have U:Below f.heap.size f O:=Below.trans (And.left (by assumption)) (d.mono (Below.size (And.left (by assumption))));clear d)|(go_at_call_of 105 (Value.agg #[.bool D,.slice J B.length L,.int .i64 y]);refine(uH a3 _ ((uH HB).below (And.left (by assumption)))).mono ?_;rintro e O ⟨rfl,d⟩;have U:Below f.heap.size f O:=Below.trans (And.left (by assumption)) (d.mono (Below.size (And.left (by assumption))));clear d))
  go_wp2_with fail
  have Z:Below f.heap.size f O:=And.left (by assumption)
  have b9:=(uH Y).trans (Z.mono (uH Y).size);have x9:=(uH M).all Z;have y9:=(uH N).all Z
  clear X HA HB Y M N Z
  have B0:=aa b9;have M:=aa x9;have N:=aa y9
  clear b9 x9 y9
  refine(uH am _ (hA.below (uH B0)) (hB.below (uH B0))).mono ?_
  rintro r w5 ⟨u,rfl,iu,d⟩
  obtain⟨n5,a5,c5,L5,rfl,q1,q2,q3,q4,q5⟩:=iu.parts
  have bb:=Dr q2 q3 q4
  rw[uH bm]at bb
  have bi:=aa (fun w'=>kV n5 a5 c5 L5.length oe w')
  rw[bb]at bi
  have B1:=aa ((uH B0).trans (d.mono (uH B0).size))
  clear q1 q2 q3 q4 q5 iu d bb
  go_wp2_with(go_at_call 104;refine(uH bi _).mono ?_;rintro r w6 ⟨rfl,d⟩)
  go_ret
  exact⟨rfl,(uH B1).trans (d.mono (uH B1).size)⟩
end Go.Proofs.YtdhmglmccafbnaaGreatDoor
namespace Go.Proofs.YtdhmglmccafbnaaGreatDoor
open Go.RowKit
theorem Ds(k:Nat):(2:Int)^k≠0:=Int.pow_ne_zero (by decide)
theorem kd(z:Int)(k:Nat)(e:Int):oM (z*2^k)=oM z∧oE (z*2^k) e=oE z (e+k):=by
 by_cases h:z=0
 ·subst h;rw[Int.zero_mul,cl,cL,cL];exact⟨rfl,rfl⟩
 ·have f:z*2^k≠0:=fun e=>by rcases Int.mul_eq_zero.1 e with e|e;exact h e;exact Ds k e
  have d:=fq z h
  have l:iy (z*2^k) (oM z) (tz z.natAbs+k):=by
   refine⟨?_,d.2⟩
   conv=>lhs;rw[d.1]
   rw[Int.mul_assoc,←Int.pow_add]
  obtain⟨_,u,D⟩:=l.eq
  refine⟨u.symm,?_⟩
  rw[dz _ _ f,dz _ _ h,←D]
  omega
theorem FH(z1 z2:Int):oM (z1*z2)=oM z1*oM z2:=by
 by_cases d:z1=0
 ·subst d;rw[Int.zero_mul,cl,Int.zero_mul]
 by_cases f:z2=0
 ·subst f;rw[Int.mul_zero,cl,Int.mul_zero]
 have a:=fq z1 d
 have b:=fq z2 f
 have h:iy (z1*z2) (oM z1*oM z2) (tz z1.natAbs+tz z2.natAbs):=by
  refine⟨?_,?_⟩
  ·conv=>lhs;rw[a.1,b.1]
   rw[Int.pow_add]
   simp only[Int.mul_assoc,Int.mul_left_comm]
  ·rw[Int.mul_emod,a.2,b.2];rfl
 exact h.eq.2.1.symm
theorem Dt(z1 z2:Int)(d:z1≠0)(f:z2≠0):tz (z1*z2).natAbs=tz z1.natAbs+tz z2.natAbs:=by
 have a:=fq z1 d
 have b:=fq z2 f
 have h:iy (z1*z2) (oM z1*oM z2) (tz z1.natAbs+tz z2.natAbs):=by
  refine⟨?_,?_⟩
  ·conv=>lhs;rw[a.1,b.1]
   rw[Int.pow_add]
   simp only[Int.mul_assoc,Int.mul_left_comm]
  ·rw[Int.mul_emod,a.2,b.2];rfl
 exact h.eq.2.2.symm
def lN(lo:Int)(W:Nat)(z:Int):Prop:=z.natAbs<2^W∧-16384≤lo∧lo+W≤16384∧W≤16384
theorem lN.tzs{lo:Int}{W:Nat}{z:Int}(h:lN lo W z)(d:z≠0):tz z.natAbs<W:=lF _ _ (by omega) h.1
theorem lN.tops{lo:Int}{W:Nat}{z:Int}(h:lN lo W z):z.natAbs<dt:=qu h.1 h.2.2.2
theorem lN.right{lo:Int}{W:Nat}{z:Int}(h:lN lo W z):qn (oM z) (oE z lo)=true∧(oM z).natAbs<dt:=by
 refine⟨?_,Nat.lt_of_le_of_lt (vB z) h.tops⟩
 unfold qn
 by_cases d:z=0
 ·subst d;rw[cl,cL];rfl
 ·obtain⟨f,l⟩:=gj z d
  have u:=h.tzs d
  obtain⟨_,D,F,_⟩:=h
  rw[if_neg f,dz _ _ d,decide_eq_true l,decide_eq_true (show-16384≤lo+(tz z.natAbs:Int)∧lo+(tz z.natAbs:Int)≤16384 by omega)]
  rfl
theorem nv(z lo:Int)(h:z≠0):oM z*2^(oE z lo-lo).toNat=z:=by
 rw[dz _ _ h,show(lo+(tz z.natAbs:Int)-lo).toNat=tz z.natAbs by omega]
 exact(fq z h).1.symm
theorem ny(m e:Int)(h:qn m e=true):cK m e=0∧dM m e=m∧dX m e=e:=by
 unfold qn at h
 by_cases d:m=0
 ·subst d
  rw[if_pos rfl]at h
  have l:=of_decide_eq_true h
  subst l
  decide
 ·rw[if_neg d,Bool.and_eq_true]at h
  have u:=of_decide_eq_true h.1
  have G:=of_decide_eq_true h.2
  have z:iy m m 0:=⟨by simp,u⟩
  obtain⟨_,F,f⟩:=z.eq
  have D:kU m e=true:=by
   unfold kU
   rw[←f,decide_eq_true (show-32768≤e∧e≤32768 by omega),decide_eq_true (show-16384≤e+((0:Nat):Int)∧e+((0:Nat):Int)≤16384 by omega)]
   simp
  unfold cK dM dX
  rw[D,←F,dz _ _ d,←f]
  simp
theorem zt{lo:Int}{W:Nat}{z1 z2:Int}(M:lN lo W z1)(N:lN lo W z2)(h3:lN lo W (z1+z2)):
  rT (oM z1) (oE z1 lo) (oM z2) (oE z2 lo)=0∧rU (oM z1) (oE z1 lo) (oM z2) (oE z2 lo)=oM (z1+z2)∧rV (oM z1) (oE z1 lo) (oM z2) (oE z2 lo)=oE (z1+z2) lo:=by
 have O:=M.right
 have Q:=N.right
 have bE:∀m e,qn m e=true→-16384≤e∧e≤16384:=fun m e h=>by
  unfold qn at h
  by_cases h0:m=0
  ·rw[if_pos h0]at h;have:=of_decide_eq_true h;omega
  ·rw[if_neg h0,Bool.and_eq_true]at h;exact of_decide_eq_true h.2
 by_cases F:z1=0
 ·subst F
  rw[cl,cL,Int.zero_add]
  obtain⟨K,p2,L⟩:=ni (oM z2) (oE z2 lo) (bE _ _ Q.1) Q.2
  rw[K,p2,L]
  exact ny _ _ Q.1
 by_cases G:z2=0
 ·subst G
  rw[cl,cL,Int.add_zero]
  obtain⟨K,p2,L⟩:=nj (oM z1) (oE z1 lo) (bE _ _ O.1) O.2 (gj z1 F).1
  rw[K,p2,L]
  exact ny _ _ O.1
 have sa:=(gj z1 F).1
 have sb:=(gj z2 G).1
 have x1:=dz z1 lo F
 have x2:=dz z2 lo G
 have t1:=M.tzs F
 have t2:=N.tzs G
 have f:=M.tops
 obtain⟨_,l1,l2,l3⟩:=M
 have H:=ic (oM z1) (oE z1 lo) (oM z2) (oE z2 lo) sa sb
 obtain⟨l,am⟩:∃l,min (oE z1 lo) (oE z2 lo)=l:=⟨_,rfl⟩
 rw[am]at H
 have ao:lo≤l:=by omega
 obtain⟨k,hk⟩:∃k:Nat,(k:Int)=l-lo:=⟨(l-lo).toNat,by omega⟩
 have U:lo+(k:Int)=l:=by omega
 have u1:up (oM z1) (oE z1 lo) l*2^k=z1:=by
  conv=>rhs;rw[←nv z1 lo F]
  unfold up
  rw[Int.mul_assoc,←Int.pow_add]
  congr 2
  omega
 have u2:up (oM z2) (oE z2 lo) l*2^k=z2:=by
  conv=>rhs;rw[←nv z2 lo G]
  unfold up
  rw[Int.mul_assoc,←Int.pow_add]
  congr 2
  omega
 have D:=N.tops
 have V:oE z1 lo-l≤16384:=by clear f D;omega
 have X:oE z2 lo-l≤16384:=by clear f D;omega
 have d:∀u z:Int,u*2^k=z→u.natAbs≤z.natAbs:=fun u z h=>by
  rw[←h,Int.natAbs_mul,Int.natAbs_pow]
  exact Nat.le_mul_of_pos_right _ (Nat.pow_pos (by decide))
 have hZ:dK (oM z1) (oE z1 lo) (oM z2) (oE z2 lo)*2^k=z1+z2:=by
  unfold dK
  rw[H,Int.add_mul,u1,u2]
 have e1:eu (oM z1) (oE z1 lo) l=0:=ib _ _ _ (Nat.lt_of_le_of_lt (d _ _ u1) f) V
 have e2:eu (oM z2) (oE z2 lo) l=0:=ib _ _ _ (Nat.lt_of_le_of_lt (d _ _ u2) D) X
 have J:(dK (oM z1) (oE z1 lo) (oM z2) (oE z2 lo)).natAbs<dt:=Nat.lt_of_le_of_lt (d _ _ hZ) h3.tops
 obtain⟨K,p2,L⟩:=Dq (by rw[H];exact e1) (by rw[H];exact e2) J
 rw[K,p2,L,H]
 generalize dK (oM z1) (oE z1 lo) (oM z2) (oE z2 lo)=Z at*
 have Y:=kd Z k lo
 rw[hZ]at Y
 have hx:oE (z1+z2) lo=oE Z l:=by rw[Y.2,U]
 have r3:=h3.right.1
 rw[Y.1,hx]at r3⊢
 have ae:-32768≤l∧l≤32768:=by clear f D J;omega
 exact(wQ Z l ae).1 r3
theorem wW{lo1 lo2:Int}{W1 W2 W:Nat}{z1 z2:Int}(D:lN (lo1+lo2) W (z1*z2))(l:lN lo1 W1 z1)(u:lN lo2 W2 z2):
  (oM z1*oM z2).natAbs<dt∧cK (oM z1*oM z2) (oE z1 lo1+oE z2 lo2)=0∧dM (oM z1*oM z2) (oE z1 lo1+oE z2 lo2)=oM (z1*z2)∧dX (oM z1*oM z2) (oE z1 lo1+oE z2 lo2)=oE (z1*z2) (lo1+lo2):=by
 have z:=D.right
 rw[←FH]
 refine⟨z.2,?_⟩
 by_cases f:z1=0
 ·subst f
  have F:-16384≤oE z2 lo2∧oE z2 lo2≤16384:=by
   by_cases d:z2=0
   ·subst d;rw[cL];decide
   ·have:=u.tzs d
    rw[dz _ _ d]
    have:=u.2
    omega
  rw[Int.zero_mul,cl,cL,cL,Int.zero_add]
  have h:kU 0 (oE z2 lo2)=true:=by unfold kU;rw[decide_eq_true (show-32768≤oE z2 lo2∧oE z2 lo2≤32768 by omega)];simp
  unfold cK dM dX
  rw[h]
  simp[cl,cL]
 by_cases d:z2=0
 ·subst d
  have F:-16384≤oE z1 lo1∧oE z1 lo1≤16384:=by
   have:=l.tzs f
   rw[dz _ _ f]
   have:=l.2
   omega
  rw[Int.mul_zero,cl,cL,cL,Int.add_zero]
  have h:kU 0 (oE z1 lo1)=true:=by unfold kU;rw[decide_eq_true (show-32768≤oE z1 lo1∧oE z1 lo1≤32768 by omega)];simp
  unfold cK dM dX
  rw[h]
  simp[cl,cL]
 have G:oE z1 lo1+oE z2 lo2=oE (z1*z2) (lo1+lo2):=by
  have H:z1*z2≠0:=fun e=>by rcases Int.mul_eq_zero.1 e with e|e;exact f e;exact d e
  rw[dz _ _ f,dz _ _ d,dz _ _ H,Dt z1 z2 f d]
  omega
 rw[G]
 exact ny _ _ z.1
theorem IF{w:World}{v u:Value}{lo:Int}{W:Nat}{z1 z2:Int}(z:aC w v (oM z1) (oE z1 lo))(D:aC w u (oM z2) (oE z2 lo))(d:lN lo W z1)(f:lN lo W z2)(F:lN lo W (z1+z2))(t:bT w):
  Calls Tryz.prog 295 #[v,u] w fun r w'=>mi w' r 0 (oM (z1+z2)) (oE (z1+z2) lo)∧Below w.heap.size w w':=by
 obtain⟨G,H,J,A,rfl,K,Z,L,a4,h⟩:=z.right d.right.2
 obtain⟨M,N,O,B,rfl,Q,b2,U,b4,l⟩:=D.right f.right.2
 rw[d.right.1]at h
 rw[f.right.1]at l
 have:=ug G M H N J O A B _ _ w K Q h l t
 obtain⟨V,X,Y⟩:=zt d f F
 rwa[L,U,V,X,Y]at this
theorem IG{w:World}{v u:Value}{lo1 lo2:Int}{W1 W2 W:Nat}{z1 z2:Int}(F:aC w v (oM z1) (oE z1 lo1))(G:aC w u (oM z2) (oE z2 lo2))(d:lN lo1 W1 z1)(f:lN lo2 W2 z2)(H:lN (lo1+lo2) W (z1*z2))(t:bT w):
  Calls Tryz.prog 278 #[v,u] w fun r w'=>mi w' r 0 (oM (z1*z2)) (oE (z1*z2) (lo1+lo2))∧Below w.heap.size w w':=by
 obtain⟨J,K,L,A,rfl,M,a2,h,a4,l⟩:=F.right d.right.2
 obtain⟨N,O,Q,B,rfl,U,b2,z,b4,D⟩:=G.right f.right.2
 rw[d.right.1]at l
 rw[f.right.1]at D
 obtain⟨V,X,Y,Z⟩:=wW H d f
 have:=uh J N K O L Q A B _ _ w M U l D (by rw[h,z];exact V) t
 rwa[h,z,X,Y,Z]at this
def fD(b:Nat):Int:=oM (fM b)
def fX(b:Nat):Int:=oE (fM b) (fE b)
theorem Hk(b:Nat)(h:fM b≠0):tz (fM b).natAbs<53:=lF _ _ (by omega) (by rw[yB];exact rX b)
theorem Hl(b:Nat):cK (fM b) (fE b)=0∧dM (fM b) (fE b)=fD b∧dX (fM b) (fE b)=fX b:=by
 have h:=zi b
 have d:kU (fM b) (fE b)=true:=by
  unfold kU
  rw[decide_eq_true (by omega)]
  by_cases f:fM b=0
  ·rw[decide_eq_true f];rfl
  ·have:=Hk b f
   rw[decide_eq_true (p:=-16384≤_∧_) (by omega)]
   simp
 unfold cK dM dX
 rw[if_pos d,if_pos d,if_pos d]
 exact⟨rfl,rfl,rfl⟩
theorem FI(b:Nat):(fM b).natAbs<dt:=qu (k:=53) (by rw[yB];exact rX b) (by decide)
theorem FJ(b:Nat)(w:World)(h:b<18446744073709551616)(D:aA b=false):
  Calls Tryz.prog 207 #[.int .u64 b] w fun r w'=>mi w' r 7 0 0∧Below w.heap.size w w':=by
 have u:=aa (fun w'=>gg b w' h)
 rw[D]at u
 clear D h
 have l:Below w.heap.size w (w.alloc (.cells #[.bool false,.slice none 0 0,.int .i64 0] 41)):=(Below.refl _ _).alloc (Nat.le_refl _) _
 have z:=aa l;have F:=aa (ay.new w (.bool false) (.slice none 0 0) (.int .i64 0))
 clear l
 go_enter Tryz.func207,Tryz.ntmps207
 go_wp2_with fail
 refine(uH u _).mono ?_
 rintro r O ⟨rfl,f⟩
 have d:=(uH F).all f
 have G:=aa ((uH z).trans (f.mono (uH z).size))
 have H:=d.c0;have J:=d.c1;have K:=d.c2;have L:=d.free 0;have M:=d.free 1;have N:=d.free 2
 clear f d F z u
 go_wp2
 exact bodyPost_ret (v:=.tuple #[.agg #[.bool false,.slice none 0 0,.int .i64 0],.int .i64 7]) (by simp[results,Tryz.results207,go_sem,H,J,K]) rfl ⟨⟨_,rfl,aC.zero _ _ _⟩,aK (uH G) (Nat.le_refl _) _ _ _⟩
theorem df(b:Nat)(w:World)(h:b<18446744073709551616)(hf:aA b=true)(hT:bT w):
  Calls Tryz.prog 207 #[.int .u64 b] w fun r w'=>mi w' r 0 (fD b) (fX b)∧Below w.heap.size w w':=by
 have L:=aa (fun w'=>gg b w' h)
 rw[hf]at L
 have CS:=aa (fun w'=>ex b w' h)
 have CP:=aa (fun w'=>wT b w')
 have CO:=aa (fun w'=>uc (fM b) w' (by have:=rX b;omega) (by have:=rX b;omega))
 obtain⟨k1,k2,k3⟩:=Hl b
 have N:=aa (fun w' v B (K:an B w' v (fM b)) (t:bT w')=>iJ (fE b) K (FI b) (by have:=zi b;omega) t)
 rw[k1,k2,k3]at N
 clear k1 k2 k3
 unfold fV at*
 generalize fM b=m at*
 generalize fE b=e at*
 generalize fD b=M at*
 generalize fX b=X at*
 generalize fS b=s at*
 generalize fP b=p at*
 generalize fF b=f at*
 clear hf h
 have H:Below w.heap.size w (w.alloc (.cells #[.bool false,.slice none 0 0,.int .i64 0] 41)):=(Below.refl _ _).alloc (Nat.le_refl _) _
 have O:=aa H;have X2:=aa (ay.new w (.bool false) (.slice none 0 0) (.int .i64 0))
 clear H
 go_enter Tryz.func207,Tryz.ntmps207
 go_wp2_with fail
 refine(uH L _).mono ?_
 rintro r w1 ⟨rfl,l⟩
 have X3:=aa ((uH X2).all l)
 have Q:=aa ((uH O).trans (l.mono (uH O).size))
 clear l X2 O L
 go_wp2_with fail
 refine(uH CS _).mono ?_
 rintro r w2 ⟨rfl,z⟩
 have X4:=aa ((uH X3).all z)
 have U:=aa ((uH Q).trans (z.mono (uH Q).size))
 clear z X3 Q CS
 go_wp2_with fail
 refine(uH CP _).mono ?_
 rintro r w3 ⟨rfl,D⟩
 have X5:=aa ((uH X4).all D)
 have V:=aa ((uH U).trans (D.mono (uH U).size))
 clear D X4 U CP
 go_wp2_with fail
 refine(uH CO _).mono ?_
 rintro r w4 ⟨v,rfl,K,F⟩
 have X6:=aa ((uH X5).all F)
 have Y:=(uH V).trans (F.mono (uH V).size)
 have Z:=aa Y
 have HT:=aa (hT.all Y)
 have HV:=aa K
 clear F X5 V CO Y K
 go_wp2_with fail
 refine(uH N _ _ _ (uH HV) (uH HT)).mono ?_
 rintro r w5 ⟨u,rfl,hu,G⟩
 have d:=(uH X6).all G
 have X7:=aa d
 have B5:=aa ((uH Z).trans (G.mono (uH Z).size))
 obtain⟨n2,a2,c2,L2,rfl,j2⟩:=hu
 have J:=aa (show aC w5 (.agg #[.bool n2,.slice a2 L2.length c2,.int .i64 X]) M X from⟨n2,a2,c2,L2,rfl,j2⟩)
 have y0:=d.c0;have y1:=d.c1;have y2:=d.c2;have f0:=d.free 0;have f1:=d.free 1;have f2:=d.free 2
 clear G d X6 Z N j2
 go_wp2
 exact bodyPost_ret (v:=.tuple #[.agg #[.bool n2,.slice a2 L2.length c2,.int .i64 X],.int .i64 0]) (by simp[results,Tryz.results207,go_sem,y0,y1,y2]) rfl ⟨⟨_,rfl,(uH J).put3 (uH X7) _ _ _⟩,aK (uH B5) (Nat.le_refl _) _ _ _⟩
theorem nz{M B:Nat}{w:World}{v:Value}{z:Int}(f:aB M B w v z)(H:M≤1000000):
  Calls Tryz.prog 119 #[v] w fun e w'=>∃u,e=.returned u∧aB M 0 w' u (-z)∧Below w.heap.size w w':=by
 obtain⟨n,a,c,L,rfl,h,J,K,l,D,F⟩:=f
 refine(mX n a c L w h (by omega)).mono ?_
 rintro e w' ⟨u,rfl,d,G⟩
 rw[jB l D]at d
 exact⟨u,rfl,d.more F,G⟩
def rt(w W:World)(g:Nat)(n:Bool)(a:Option Addr)(l c:Nat)(z:Int):Prop:=
 Below w.heap.size w W∧ay W w.heap.size (.bool false) (.slice none 0 0) (.int .i64 0)∧az W g (.bool n) (.slice a l c)∧w.heap.size<g∧aB 2 0 W (.agg #[.bool n,.slice a l c]) z
theorem aB.zeroB{M B:Nat}{w:World}{v:Value}{x:Int}(h:aB M B w v x):aB M 0 w v x:=by
 obtain⟨neg,l,d,L,u,f,D,z⟩:=h
 exact⟨neg,l,d,L,u,f,bs.zero f,z⟩
theorem aB.box{M B:Nat}{w:World}{v:Value}{x:Int}(h:aB M B w v x){g:Nat}{y:Bool}{a:Option Addr}{n c:Nat}(l:az w g (.bool y) (.slice a n c))(u f:Value):aB M B ((w.setCell ⟨g,0,none⟩ u).setCell ⟨g,1,none⟩ f) v x:=by
 obtain⟨neg,z,d,L,D,F,G⟩:=h
 exact⟨neg,z,d,L,D,F.box l u f,G⟩
theorem rt.below{w W f:World}{g:Nat}{n:Bool}{a:Option Addr}{l c:Nat}{z:Int}(h:rt w W g n a l c z)(d:Below W.heap.size W f):rt w f g n a l c z:=
 ⟨h.1.trans (d.mono h.1.size),h.2.1.all d,h.2.2.1.all d,h.2.2.2.1,h.2.2.2.2.below d⟩
theorem rt.put{w W:World}{g:Nat}{n d:Bool}{a f:Option Addr}{l c u D:Nat}{z F:Int}(h:rt w W g n a l c z)(H:aB 2 0 W (.agg #[.bool d,.slice f u D]) F):
  rt w ((W.setCell ⟨g,0,none⟩ (.bool d)).setCell ⟨g,1,none⟩ (.slice f u D)) g d f u D F:=by
 obtain⟨J,K,G,L,M⟩:=h
 exact⟨bN J (by omega) _ _,(K.other (by simp;omega) _).other (by simp;omega) _,G.put _ _,L,H.box G _ _⟩
theorem wX(b:Nat)(f:Nat)(F m e X Y:Int)(w:World)(ae:IntKind.i64.wrap (f:Int)=F)
  (CF:∀w',Calls Tryz.prog 116 #[.int .u64 b] w' fun r d=>r=.returned (.int .u64 f)∧w'=d)
  (CP:∀w',Calls Tryz.prog 117 #[.int .u64 b] w' fun r d=>r=.returned (.int .i64 0)∧w'=d)
  (CN:∀w',Calls Tryz.prog 118 #[.int .u64 b] w' fun r d=>r=.returned (.bool false)∧w'=d)
  (CO:∀w',Calls Tryz.prog 46 #[.int .i64 F] w' fun r d=>∃v,r=.returned v∧aB 2 w'.heap.size d v F∧Below w'.heap.size w' d)
  (CV:∀w' v,aB 2 0 w' v m→Calls Tryz.prog 45 #[v,.int .i64 e] w' fun r d=>∃u,r=.returned u∧aC d u X Y∧Below w'.heap.size w' d)
  (he:e= -1074) (hm:F=m)
  :Calls Tryz.prog 65 #[.int .u64 b] w fun r w'=>∃u,r=.returned u∧aC w' u X Y∧Below w.heap.size w w':=by
 subst he hm
 have KF:=aa CF;have KP:=aa CP;have KN:=aa CN;have KO:=aa CO;have KV:=aa CV
 clear CF CP CN CO CV
 have G:Below w.heap.size w (w.alloc (.cells #[.bool false,.slice none 0 0,.int .i64 0] 41)):=(Below.refl _ _).alloc (Nat.le_refl _) _
 have O:=aa G;have X2:=aa (ay.new w (.bool false) (.slice none 0 0) (.int .i64 0))
 clear G
 go_enter Tryz.func65,Tryz.ntmps65
 go_wp2_with(go_at_call 116;refine(uH KF _).mono ?_;rintro r w2 ⟨rfl,rfl⟩)
 refine(uH KO _).mono ?_
 rintro r N ⟨v,rfl,hv,z⟩
 obtain⟨L,l,M,H,rfl,i1⟩:=hv
 have Q:=(uH O).trans (z.mono (uH O).size)
 have h:rt w (N.alloc (.cells #[.bool L,.slice l H.length M] 39)) N.heap.size L l H.length M F:=
  ⟨Q.alloc Q.size _,((uH X2).all z).old _,az.new _ _ _,by have:=z.size;simp at this;omega,(aB.zeroB ⟨L,l,M,H,rfl,i1⟩).below ((Below.refl _ _).alloc (Nat.le_refl _) _)⟩
 have V1:=aa h
 clear Q h z i1 O X2 KO
 go_upto_region 3 with(fail)
 refine aj (fun W=>rt w W N.heap.size L l H.length M F) (uH V1) ?_
 clear V1
 intro W1 h
 generalize N.heap.size=g at*
 generalize H.length=l1 at*
 have U:=aa h
 have V:=h.2.2.1.c0;have Z:=h.2.2.1.c1;have f0:=h.2.2.1.free 0;have f1:=h.2.2.1.free 1
 clear h
 go_wp2_with(first|(go_at_call 117;refine(uH KP _).mono ?_;rintro r w2 ⟨rfl,rfl⟩)|(go_at_call 118;refine(uH KN _).mono ?_;rintro r w2 ⟨rfl,rfl⟩))
 refine(uH KV _ _ (uH U).2.2.2.2).mono ?_
 rintro r w9 ⟨u,rfl,hu,K⟩
 have v9:=(uH U).below K
 have D:=v9.2.1
 have V9:=aa v9
 obtain⟨n9,a9,c9,L9,rfl,j9⟩:=hu
 have J:=aa (show aC w9 (.agg #[.bool n9,.slice a9 L9.length c9,.int .i64 Y]) X Y from⟨n9,a9,c9,L9,rfl,j9⟩)
 clear V Z f0 f1
 have V:=D.c0;have Z:=D.c1;have y2:=D.c2;have f0:=D.free 0;have f1:=D.free 1;have f2:=D.free 2
 clear K v9 D U j9
 go_wp2
 exact bodyPost_ret (v:=.agg #[.bool n9,.slice a9 L9.length c9,.int .i64 Y]) (by simp[results,Tryz.results65,go_sem,V,Z,y2]) rfl ⟨_,rfl,(uH J).put3 (uH V9).2.1 _ _ _,aK (uH V9).1 (Nat.le_refl _) _ _ _⟩
theorem wY(b:Nat)(f:Nat)(L m e X Y:Int)(w:World)(ae:IntKind.i64.wrap (f:Int)=L)
  (CF:∀w',Calls Tryz.prog 116 #[.int .u64 b] w' fun r d=>r=.returned (.int .u64 f)∧w'=d)
  (CP:∀w',Calls Tryz.prog 117 #[.int .u64 b] w' fun r d=>r=.returned (.int .i64 0)∧w'=d)
  (CN:∀w',Calls Tryz.prog 118 #[.int .u64 b] w' fun r d=>r=.returned (.bool true)∧w'=d)
  (CO:∀w',Calls Tryz.prog 46 #[.int .i64 L] w' fun r d=>∃v,r=.returned v∧aB 2 w'.heap.size d v L∧Below w'.heap.size w' d)
  (CV:∀w' v,aB 2 0 w' v (-m)→Calls Tryz.prog 45 #[v,.int .i64 e] w' fun r d=>∃u,r=.returned u∧aC d u X Y∧Below w'.heap.size w' d)
  (he:e= -1074) (hm:L=m)
  :Calls Tryz.prog 65 #[.int .u64 b] w fun r w'=>∃u,r=.returned u∧aC w' u X Y∧Below w.heap.size w w':=by
 subst he hm
 have KF:=aa CF;have KP:=aa CP;have KN:=aa CN;have KO:=aa CO;have KV:=aa CV
 clear CF CP CN CO CV
 have O:Below w.heap.size w (w.alloc (.cells #[.bool false,.slice none 0 0,.int .i64 0] 41)):=(Below.refl _ _).alloc (Nat.le_refl _) _
 have B0:=aa O;have X2:=aa (ay.new w (.bool false) (.slice none 0 0) (.int .i64 0))
 clear O
 go_enter Tryz.func65,Tryz.ntmps65
 go_wp2_with(go_at_call 116;refine(uH KF _).mono ?_;rintro r w2 ⟨rfl,rfl⟩)
 refine(uH KO _).mono ?_
 rintro r w1 ⟨v,rfl,hv,D⟩
 obtain⟨Z,z,c1,Q,rfl,i1⟩:=hv
 have b1:=(uH B0).trans (D.mono (uH B0).size)
 have l:rt w (w1.alloc (.cells #[.bool Z,.slice z Q.length c1] 39)) w1.heap.size Z z Q.length c1 L:=
  ⟨b1.alloc b1.size _,((uH X2).all D).old _,az.new _ _ _,by have:=D.size;simp at this;omega,(aB.zeroB ⟨Z,z,c1,Q,rfl,i1⟩).below ((Below.refl _ _).alloc (Nat.le_refl _) _)⟩
 have V1:=aa l
 clear b1 l D i1 B0 X2 KO
 go_upto_region 3 with(fail)
 refine aj (fun W=>rt w W w1.heap.size Z z Q.length c1 L) (uH V1) ?_
 clear V1
 intro W1 l
 generalize w1.heap.size=g at*
 generalize Q.length=l1 at*
 have F:=aa l
 have G:=l.2.2.1.c0;have H:=l.2.2.1.c1;have M:=l.2.2.1.free 0;have N:=l.2.2.1.free 1
 clear l
 go_wp2_with(first|(go_at_call 117;refine(uH KP _).mono ?_;rintro r w2 ⟨rfl,rfl⟩)|(go_at_call 118;refine(uH KN _).mono ?_;rintro r w2 ⟨rfl,rfl⟩))
 refine(nz (uH F).2.2.2.2 (by decide)).mono ?_
 rintro r w7 ⟨v,rfl,hv,U⟩
 have h:=(uH F).below U
 clear F U G H M N
 obtain⟨n7,a7,c7,L7,rfl,i7⟩:=hv
 have v6:=h.put ⟨n7,a7,c7,L7,rfl,i7⟩
 have V6:=aa v6
 have G:=h.2.2.1.c0;have H:=h.2.2.1.c1;have M:=h.2.2.1.free 0;have N:=h.2.2.1.free 1
 clear h v6 i7
 go_upto_region 8 with(fail)
 refine aj (fun W=>rt w W g n7 a7 L7.length c7 _) (uH V6) ?_
 clear V6 G H M N
 intro W7 h
 generalize L7.length=l7 at*
 have F:=aa h
 have G:=h.2.2.1.c0;have H:=h.2.2.1.c1;have M:=h.2.2.1.free 0;have N:=h.2.2.1.free 1
 clear h
 go_wp2_with fail
 refine(uH KV _ _ (uH F).2.2.2.2).mono ?_
 rintro r w9 ⟨u,rfl,hu,V⟩
 have v9:=(uH F).below V
 have K:=v9.2.1
 have V9:=aa v9
 obtain⟨n9,a9,c9,L9,rfl,j9⟩:=hu
 have J:=aa (show aC w9 (.agg #[.bool n9,.slice a9 L9.length c9,.int .i64 Y]) X Y from⟨n9,a9,c9,L9,rfl,j9⟩)
 clear G H M N
 have G:=K.c0;have H:=K.c1;have y2:=K.c2;have M:=K.free 0;have N:=K.free 1;have f2:=K.free 2
 clear V v9 K F j9
 go_wp2
 exact bodyPost_ret (v:=.agg #[.bool n9,.slice a9 L9.length c9,.int .i64 Y]) (by simp[results,Tryz.results65,go_sem,G,H,y2]) rfl ⟨_,rfl,(uH J).put3 (uH V9).2.1 _ _ _,aK (uH V9).1 (Nat.le_refl _) _ _ _⟩
theorem wZ(b:Nat)(p:Nat)(f:Nat)(G a1 m e X Y:Int)(w:World)(h1:0<p)(ae:IntKind.i64.wrap (f:Int)=G)
  (CF:∀w',Calls Tryz.prog 116 #[.int .u64 b] w' fun r d=>r=.returned (.int .u64 f)∧w'=d)
  (CP:∀w',Calls Tryz.prog 117 #[.int .u64 b] w' fun r d=>r=.returned (.int .i64 p)∧w'=d)
  (CN:∀w',Calls Tryz.prog 118 #[.int .u64 b] w' fun r d=>r=.returned (.bool false)∧w'=d)
  (CO:∀w',Calls Tryz.prog 46 #[.int .i64 G] w' fun r d=>∃v,r=.returned v∧aB 2 w'.heap.size d v G∧Below w'.heap.size w' d)
  (CV:∀w' v,aB 2 0 w' v m→Calls Tryz.prog 45 #[v,.int .i64 e] w' fun r d=>∃u,r=.returned u∧aC d u X Y∧Below w'.heap.size w' d)
  (H:IntKind.u64.wrap ((f:Int)+4503599627370496)=a1) (K:IntKind.i64.wrap a1=m) (w3:IntKind.i64.wrap ((p:Int)-1075)=e)
  (C1:∀w',Calls Tryz.prog 46 #[.int .i64 m] w' fun r d=>∃v,r=.returned v∧aB 2 w'.heap.size d v m∧Below w'.heap.size w' d)
  :Calls Tryz.prog 65 #[.int .u64 b] w fun r w'=>∃u,r=.returned u∧aC w' u X Y∧Below w.heap.size w w':=by
 have am:decide (0<p)=true:=decide_eq_true h1
 have KF:=aa CF;have KP:=aa CP;have KN:=aa CN;have KO:=aa CO;have KV:=aa CV
 clear CF CP CN CO CV
 have K1:=aa C1
 clear C1
 have L:Below w.heap.size w (w.alloc (.cells #[.bool false,.slice none 0 0,.int .i64 0] 41)):=(Below.refl _ _).alloc (Nat.le_refl _) _
 have B0:=aa L;have X2:=aa (ay.new w (.bool false) (.slice none 0 0) (.int .i64 0))
 clear L
 go_enter Tryz.func65,Tryz.ntmps65
 go_wp2_with(go_at_call 116;refine(uH KF _).mono ?_;rintro r K ⟨rfl,rfl⟩)
 refine(uH KO _).mono ?_
 rintro r H ⟨v,rfl,hv,z⟩
 obtain⟨n1,l,c1,Q,rfl,i1⟩:=hv
 have b1:=(uH B0).trans (z.mono (uH B0).size)
 have M:rt w (H.alloc (.cells #[.bool n1,.slice l Q.length c1] 39)) H.heap.size n1 l Q.length c1 G:=
  ⟨b1.alloc b1.size _,((uH X2).all z).old _,az.new _ _ _,by have:=z.size;simp at this;omega,(aB.zeroB ⟨n1,l,c1,Q,rfl,i1⟩).below ((Below.refl _ _).alloc (Nat.le_refl _) _)⟩
 have V1:=aa M
 clear b1 M z i1 B0 X2 KO
 go_upto_region 3 with(fail)
 refine aj (fun W=>rt w W H.heap.size n1 l Q.length c1 G) (uH V1) ?_
 clear V1
 intro W1 M
 generalize H.heap.size=g at*
 generalize Q.length=l1 at*
 have F:=aa M
 clear M
 go_wp2_with(first|(go_at_call 117;refine(uH KP _).mono ?_;rintro r K ⟨rfl,rfl⟩)|(go_at_call 116;refine(uH KF _).mono ?_;rintro r K ⟨rfl,rfl⟩))
 refine(uH K1 _).mono ?_
 rintro r w5 ⟨v,rfl,hv,U⟩
 have h:=(uH F).below U
 clear F U K1
 obtain⟨n5,a5,c5,L5,rfl,i5⟩:=hv
 have v6:=h.put (aB.zeroB ⟨n5,a5,c5,L5,rfl,i5⟩)
 have V6:=aa v6
 have N:=h.2.2.1.c0;have O:=h.2.2.1.c1;have Z:=h.2.2.1.free 0;have f1:=h.2.2.1.free 1
 clear h v6 i5
 go_upto_region 5 with(fail)
 refine aj (fun W=>rt w W g n5 a5 L5.length c5 m) (uH V6) ?_
 clear V6 N O Z f1
 intro W5 h
 generalize L5.length=l5 at*
 have F:=aa h
 have N:=h.2.2.1.c0;have O:=h.2.2.1.c1;have Z:=h.2.2.1.free 0;have f1:=h.2.2.1.free 1
 clear h
 go_wp2_with(first|(go_at_call 117;refine(uH KP _).mono ?_;rintro r K ⟨rfl,rfl⟩)|(go_at_call 118;refine(uH KN _).mono ?_;rintro r K ⟨rfl,rfl⟩))
 refine(uH KV _ _ (uH F).2.2.2.2).mono ?_
 rintro r w9 ⟨u,rfl,hu,V⟩
 have v9:=(uH F).below V
 have D:=v9.2.1
 have V9:=aa v9
 obtain⟨n9,a9,c9,L9,rfl,j9⟩:=hu
 have J:=aa (show aC w9 (.agg #[.bool n9,.slice a9 L9.length c9,.int .i64 Y]) X Y from⟨n9,a9,c9,L9,rfl,j9⟩)
 clear N O Z f1
 have N:=D.c0;have O:=D.c1;have y2:=D.c2;have Z:=D.free 0;have f1:=D.free 1;have f2:=D.free 2
 clear V v9 D F j9
 go_wp2
 exact bodyPost_ret (v:=.agg #[.bool n9,.slice a9 L9.length c9,.int .i64 Y]) (by simp[results,Tryz.results65,go_sem,N,O,y2]) rfl ⟨_,rfl,(uH J).put3 (uH V9).2.1 _ _ _,aK (uH V9).1 (Nat.le_refl _) _ _ _⟩
theorem xg(b:Nat)(p:Nat)(f:Nat)(M a1 m e X Y:Int)(w:World)(h1:0<p)(ap:IntKind.i64.wrap (f:Int)=M)
  (CF:∀w',Calls Tryz.prog 116 #[.int .u64 b] w' fun r d=>r=.returned (.int .u64 f)∧w'=d)
  (CP:∀w',Calls Tryz.prog 117 #[.int .u64 b] w' fun r d=>r=.returned (.int .i64 p)∧w'=d)
  (CN:∀w',Calls Tryz.prog 118 #[.int .u64 b] w' fun r d=>r=.returned (.bool true)∧w'=d)
  (CO:∀w',Calls Tryz.prog 46 #[.int .i64 M] w' fun r d=>∃v,r=.returned v∧aB 2 w'.heap.size d v M∧Below w'.heap.size w' d)
  (CV:∀w' v,aB 2 0 w' v (-m)→Calls Tryz.prog 45 #[v,.int .i64 e] w' fun r d=>∃u,r=.returned u∧aC d u X Y∧Below w'.heap.size w' d)
  (N:IntKind.u64.wrap ((f:Int)+4503599627370496)=a1) (O:IntKind.i64.wrap a1=m) (w3:IntKind.i64.wrap ((p:Int)-1075)=e)
  (C1:∀w',Calls Tryz.prog 46 #[.int .i64 m] w' fun r d=>∃v,r=.returned v∧aB 2 w'.heap.size d v m∧Below w'.heap.size w' d)
  :Calls Tryz.prog 65 #[.int .u64 b] w fun r w'=>∃u,r=.returned u∧aC w' u X Y∧Below w.heap.size w w':=by
 have ax:decide (0<p)=true:=decide_eq_true h1
 have KF:=aa CF;have KP:=aa CP;have KN:=aa CN;have KO:=aa CO;have KV:=aa CV
 clear CF CP CN CO CV
 have K1:=aa C1
 clear C1
 have Q:Below w.heap.size w (w.alloc (.cells #[.bool false,.slice none 0 0,.int .i64 0] 41)):=(Below.refl _ _).alloc (Nat.le_refl _) _
 have B0:=aa Q;have X2:=aa (ay.new w (.bool false) (.slice none 0 0) (.int .i64 0))
 clear Q
 go_enter Tryz.func65,Tryz.ntmps65
 go_wp2_with(go_at_call 116;refine(uH KF _).mono ?_;rintro r O ⟨rfl,rfl⟩)
 refine(uH KO _).mono ?_
 rintro r N ⟨v,rfl,hv,G⟩
 obtain⟨n1,F,c1,L1,rfl,i1⟩:=hv
 have b1:=(uH B0).trans (G.mono (uH B0).size)
 have U:rt w (N.alloc (.cells #[.bool n1,.slice F L1.length c1] 39)) N.heap.size n1 F L1.length c1 M:=
  ⟨b1.alloc b1.size _,((uH X2).all G).old _,az.new _ _ _,by have:=G.size;simp at this;omega,(aB.zeroB ⟨n1,F,c1,L1,rfl,i1⟩).below ((Below.refl _ _).alloc (Nat.le_refl _) _)⟩
 have V1:=aa U
 clear b1 U G i1 B0 X2 KO
 go_upto_region 3 with(fail)
 refine aj (fun W=>rt w W N.heap.size n1 F L1.length c1 M) (uH V1) ?_
 clear V1
 intro W1 U
 generalize N.heap.size=g at*
 generalize L1.length=l1 at*
 have l:=aa U
 clear U
 go_wp2_with(first|(go_at_call 117;refine(uH KP _).mono ?_;rintro r O ⟨rfl,rfl⟩)|(go_at_call 116;refine(uH KF _).mono ?_;rintro r O ⟨rfl,rfl⟩))
 refine(uH K1 _).mono ?_
 rintro r w5 ⟨v,rfl,hv,ae⟩
 have h:=(uH l).below ae
 clear l ae K1
 obtain⟨n5,a5,c5,L5,rfl,i5⟩:=hv
 have V:=h.put (aB.zeroB ⟨n5,a5,c5,L5,rfl,i5⟩)
 have Z:=aa V
 have z:=h.2.2.1.c0;have D:=h.2.2.1.c1;have H:=h.2.2.1.free 0;have K:=h.2.2.1.free 1
 clear h V i5
 go_upto_region 5 with(fail)
 refine aj (fun W=>rt w W g n5 a5 L5.length c5 m) (uH Z) ?_
 clear Z z D H K
 intro W5 h
 generalize L5.length=l5 at*
 have l:=aa h
 have z:=h.2.2.1.c0;have D:=h.2.2.1.c1;have H:=h.2.2.1.free 0;have K:=h.2.2.1.free 1
 clear h
 go_wp2_with(first|(go_at_call 117;refine(uH KP _).mono ?_;rintro r O ⟨rfl,rfl⟩)|(go_at_call 118;refine(uH KN _).mono ?_;rintro r O ⟨rfl,rfl⟩))
 refine(nz (uH l).2.2.2.2 (by decide)).mono ?_
 rintro r w7 ⟨v,rfl,hv,am⟩
 have h:=(uH l).below am
 clear l am z D H K
 obtain⟨n7,a7,c7,L7,rfl,i7⟩:=hv
 have V:=h.put ⟨n7,a7,c7,L7,rfl,i7⟩
 have Z:=aa V
 have z:=h.2.2.1.c0;have D:=h.2.2.1.c1;have H:=h.2.2.1.free 0;have K:=h.2.2.1.free 1
 clear h V i7
 go_upto_region 8 with(fail)
 refine aj (fun W=>rt w W g n7 a7 L7.length c7 _) (uH Z) ?_
 clear Z z D H K
 intro W7 h
 generalize L7.length=l7 at*
 have l:=aa h
 have z:=h.2.2.1.c0;have D:=h.2.2.1.c1;have H:=h.2.2.1.free 0;have K:=h.2.2.1.free 1
 clear h
 go_wp2_with fail
 refine(uH KV _ _ (uH l).2.2.2.2).mono ?_
 rintro r w9 ⟨u,rfl,hu,ao⟩
 have v9:=(uH l).below ao
 have L:=v9.2.1
 have V9:=aa v9
 obtain⟨n9,a9,c9,L9,rfl,j9⟩:=hu
 have J:=aa (show aC w9 (.agg #[.bool n9,.slice a9 L9.length c9,.int .i64 Y]) X Y from⟨n9,a9,c9,L9,rfl,j9⟩)
 clear z D H K
 have z:=L.c0;have D:=L.c1;have y2:=L.c2;have H:=L.free 0;have K:=L.free 1;have f2:=L.free 2
 clear ao v9 L l j9
 go_wp2
 exact bodyPost_ret (v:=.agg #[.bool n9,.slice a9 L9.length c9,.int .i64 Y]) (by simp[results,Tryz.results65,go_sem,z,D,y2]) rfl ⟨_,rfl,(uH J).put3 (uH V9).2.1 _ _ _,aK (uH V9).1 (Nat.le_refl _) _ _ _⟩
end Go.Proofs.YtdhmglmccafbnaaGreatDoor
