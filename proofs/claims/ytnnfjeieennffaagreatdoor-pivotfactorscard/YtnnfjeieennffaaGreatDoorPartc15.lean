/- Part 15 of the texts. -/
import Derived.Test.YtnnfjeieennffaaGreatDoorPartc14
set_option maxHeartbeats 4000000
namespace Go.Proofs.YtnnfjeieennffaaGreatDoor
open Go.RowKit
def fj(z:Int):Int:=if z<0 then-1 else if z=0 then 0 else 1
def ks(sa x sb y:Int):Int:=bs (up sa x (bK sa x sb y)) (up sb y (bK sa x sb y))
theorem cG{u:Int}(h:u<0):fj u= -1:=by unfold fj;rw[if_pos h]
theorem gd:fj 0=0:=rfl
theorem cH{u:Int}(h:0<u):fj u=1:=by unfold fj;rw[if_neg (by omega),if_neg (by omega)]
theorem ix(s:Int)(k:Nat):fj (s*2^k)=fj s:=by
 have d:(0:Int)<2^k:=Int.pow_pos (by decide)
 rcases Int.lt_trichotomy s 0 with h|h|h
 ·rw[cG h,cG (Int.mul_neg_of_neg_of_pos h d)]
 ·subst h;rw[Int.zero_mul]
 ·rw[cH h,cH (Int.mul_pos h d)]
theorem mI(s x l:Int):fj (up s x l)=fj s:=ix s _
theorem jQ{n:Bool}{L:List Nat}(h:ar n L=true):gN n L.length=fj (af n L):=by
 unfold gN
 have l:=aJ h
 by_cases d:L.length=0
 ·rw[if_pos d,l.2 d];rfl
 ·have f:af n L≠0:=fun e=>d (l.1 e)
  rw[if_neg d]
  unfold af at f⊢
  cases n
  ·simp only[Bool.false_eq_true,if_false]at f⊢
   rw[cH (by omega)]
  ·simp only[if_true]at f⊢
   rw[cG (by omega)]
theorem Ai{n:Bool}{L:List Nat}(h:ar n L=true):uF n L.length=fj (af n L):=by
 rw[←jQ h]
 unfold uF gN
 cases n
 ·rfl
 ·have:L.length≠0:=fun e=>(ay h).2.2 rfl (List.length_eq_zero_iff.1 e)
  simp[this]
theorem xL(u v:Int)(h:fj u≠fj v):bs (fj u) (fj v)=bs u v∧min 1 (max (-1) (fj u-fj v))=bs u v:=by
 rcases Int.lt_trichotomy u 0 with d|d|d<;>rcases Int.lt_trichotomy v 0 with f|f|f
 ·rw[cG d,cG f]at h;exact absurd rfl h
 ·subst f;rw[cG d,gd,dz d];decide
 ·rw[cG d,cH f,dz (show u<v by omega)];decide
 ·subst d;rw[cG f,gd,ew f];decide
 ·subst d;subst f;exact absurd rfl h
 ·subst d;rw[cH f,gd,dz f];decide
 ·rw[cH d,cG f,ew (show v<u by omega)];decide
 ·subst f;rw[cH d,gd,ew d];decide
 ·rw[cH d,cH f]at h;exact absurd rfl h
theorem Aj(t z m d f l:Nat)(A:t<2^m)(D:2^(d-1)≤z)(F:1≤d)(h:m+f<d+l):t*2^f<z*2^l:=by
 have G:t*2^f<2^(m+f):=by rw[Nat.pow_add];exact Nat.mul_lt_mul_of_pos_right A (Nat.pow_pos (by decide))
 have H:2^(d-1+l)≤z*2^l:=by rw[Nat.pow_add];exact Nat.mul_le_mul_right _ D
 have K:2^(m+f)≤2^(d-1+l):=Nat.pow_le_pow_right (by decide) (by omega)
 omega
theorem wA(n:Bool)(L:List Nat)(x l:Int):up (af n L) x l=sg n (ak L*2^(x-l).toNat):=by
 unfold up
 rw[dC]
 unfold sg
 cases n
 ·simp
 ·simp[Int.neg_mul]
theorem xM(u v:Int):bs v u= -bs u v:=by
 unfold bs
 rcases Int.lt_trichotomy u v with h|h|h
 ·rw[if_neg (by omega),if_pos h,if_pos h];rfl
 ·subst h;simp
 ·rw[if_pos h,if_neg (by omega),if_pos h]
theorem nD(u v:Int):bs u v=fj (u-v):=by
 rcases Int.lt_trichotomy u v with h|h|h
 ·rw[dz h,cG (by omega)]
 ·subst h;rw[DU rfl,Int.sub_self];rfl
 ·rw[ew h,cH (by omega)]
theorem pP{d f:Bool}{A B:List Nat}{x y:Int}(fA:bd A)(L:bd B)(t:ar d A=true)(z:ar f B=true)(D:A.length≠0)(F:B.length≠0)(M:d=f)(h:dH A+x<dH B+y):
  ks (af d A) x (af f B) y=(if d then 1 else-1)∧ks (af f B) y (af d A) x=(if d then-1 else 1):=by
 have G:af d A≠0:=fun e=>D ((aJ t).1 e)
 have H:af f B≠0:=fun e=>F ((aJ z).1 e)
 have N:=g6 A fA (ay t).2.1 (fun e=>D (by rw[e];rfl))
 have K:=g6 B L (ay z).2.1 (fun e=>F (by rw[e];rfl))
 rw[gZ,gZ]at h
 have m:∀l,l≤x→l≤y→bs (up (af d A) x l) (up (af f B) y l)=(if d then 1 else-1):=by
  intro l Q U
  have O:=Aj (ak A) (ak B) (jE A) (jE B) (x-l).toNat (y-l).toNat N.2.2 K.2.1 K.1 (by omega)
  rw[wA,wA,←M]
  unfold sg
  cases d
  ·simp only[Bool.false_eq_true,if_false]
   exact dz (by omega)
  ·simp only[if_true]
   exact ew (by omega)
 constructor
 ·unfold ks
  rw[iw _ _ _ _ G H]
  exact m _ (by omega) (by omega)
 ·unfold ks
  rw[iw _ _ _ _ H G,xM,m _ (by omega) (by omega)]
  cases d<;>rfl
theorem Ak{d l:Bool}{A B:List Nat}{x y:Int}(fA:bd A)(m:bd B)(t:ar d A=true)(z:ar l B=true)(D:A.length≠0)(F:B.length≠0)(h:dH A+x=dH B+y):
  eM (af d A) x (min x y)=0∧eM (af l B) y (min x y)=0:=by
 have bl:∀(n:Bool) (L:List Nat),bd L→ar n L=true→L.length≠0→1≤dH L∧dH L≤16384:=fun n L f r K=>by
  have s:=g6 L f (ay r).2.1 (fun e=>K (by rw[e];rfl))
  have G:=(dW L f (ay r).2.1).2 (ay r).1
  have M:32*kX=16384:=rfl
  rw[uK]at G
  have H:=wy (ak L) (jE L) 0 (32*kX) s.1 s.2.1 s.2.2
  rw[Nat.pow_zero,Nat.mul_one]at H
  have:=H.1 G
  rw[gZ]
  omega
 have N:=bl d A fA t D
 have O:=bl l B m z F
 rw[wz d A x _ fA t (fun e=>D (by rw[e];rfl)) (by omega),wz l B y _ m z (fun e=>F (by rw[e];rfl)) (by omega)]
 omega
attribute [local go_sem ↓] Go.wp_at_zero Go.wp_at_succ
theorem Al{d f:Bool}{A B:List Nat}{x y:Int}(fA:bd A)(K:bd B)(L:j6 d A x=true)(M:j6 f B y=true):
  (gN d A.length≠gN f B.length∧bs (gN d A.length) (gN f B.length)=ks (af d A) x (af f B) y∧min 1 (max (-1) (gN d A.length-gN f B.length))=ks (af d A) x (af f B) y)∨
  (gN d A.length=gN f B.length∧∃s c:Int,(s=1∨s= -1)∧((c=1∧gO B y<gO A x)∨(c= -1∧gO A x<gO B y))∧gN d A.length=s∧bs (gO A x) (gO B y)=c∧ks (af d A) x (af f B) y=s*c)∨
  (gN d A.length=gN f B.length∧gO A x=gO B y∧eM (af d A) x (min x y)=0∧eM (af f B) y (min x y)=0∧bs (up (af d A) x (min x y)) (up (af f B) y (min x y))=ks (af d A) x (af f B) y∧bK (af d A) x (af f B) y=min x y):=by
 obtain⟨D,_,a1,a2,Z⟩:=bR L
 obtain⟨F,_,b1,b2,zy⟩:=bR M
 rw[jQ D,jQ F]
 by_cases l:fj (af d A)=fj (af f B)
 case neg=>
  left
  have h:=xL (up (af d A) x (bK (af d A) x (af f B) y)) (up (af f B) y (bK (af d A) x (af f B) y)) (by rw[mI,mI];exact l)
  rw[mI,mI]at h
  exact⟨l,h.1,h.2⟩
 right
 by_cases m:A.length=0
 ·have U:=(aJ D).2 m
  have V:af f B=0:=by
   rw[U,gd]at l
   rcases Int.lt_trichotomy (af f B) 0 with h|h|h
   ·rw[cG h]at l;exact absurd l (by decide)
   ·exact h
   ·rw[cH h]at l;exact absurd l (by decide)
  have t:=(aJ F).1 V
  right
  refine⟨l,by unfold gO;rw[if_pos m,if_pos t],?_⟩
  rw[U,V,Z m,zy t]
  refine⟨ir _ _ _ (by rw[fU];exact mG) (by decide),ir _ _ _ (by rw[fU];exact mG) (by decide),?_,by simp[bK]⟩
  unfold ks
  simp[fU]
 have N:af d A≠0:=fun e=>m ((aJ D).1 e)
 have O:af f B≠0:=fun e=>by
  rw[e,gd]at l
  rcases Int.lt_trichotomy (af d A) 0 with h|h|h
  ·rw[cG h]at l;exact absurd l (by decide)
  ·exact N h
  ·rw[cH h]at l;exact absurd l (by decide)
 have t:B.length≠0:=fun e=>O ((aJ F).2 e)
 have z:d=f∧fj (af d A)=if d then-1 else 1:=by
  have G:=jQ D
  have Q:=jQ F
  unfold gN at G Q
  rw[if_neg m]at G
  rw[if_neg t]at Q
  refine⟨?_,G.symm⟩
  rw[←G,←Q]at l
  cases d<;>cases f<;>first|rfl|exact absurd l (by decide)
 have Y:gO A x=dH A+x:=by unfold gO;rw[if_neg m]
 have tB:gO B y=dH B+y:=by unfold gO;rw[if_neg t]
 rw[Y,tB]
 rcases Int.lt_trichotomy (dH A+x) (dH B+y)with h|h|h
 ·left
  have H:=(pP fA K D F m t z.1 h).1
  refine⟨l,if d then-1 else 1,-1,?_,.inr ⟨rfl,h⟩,z.2,dz h,?_⟩
  ·cases d<;>simp
  ·rw[H];cases d<;>rfl
 ·right
  have X:=Ak fA K D F m t h
  refine⟨l,h,X.1,X.2,?_,iw _ _ _ _ N O⟩
  unfold ks
  rw[iw _ _ _ _ N O]
 ·left
  have H:=(pP K fA F D t m z.1.symm h).2
  rw[←z.1]at H
  refine⟨l,if d then-1 else 1,1,?_,.inl ⟨rfl,h⟩,z.2,ew h,?_⟩
  ·cases d<;>simp
  ·rw[z.1,←z.1,H];cases d<;>rfl
theorem Eh{neg:Bool}{L:List Nat}{m:Int}(l:bN L)(d:neg=decide (m<0))(f:ak L=m.natAbs):uF neg L.length=fj m:=by
 unfold uF
 rcases Int.lt_trichotomy m 0 with h|h|h
 ·rw[d,decide_eq_true h,if_pos rfl,cG h]
 ·subst h
  have:L= []:=(aK L l).1 (by rw[f];rfl)
  rw[d,this]
  rfl
 ·have t:L.length≠0:=fun e=>by
   have:L= []:=List.length_eq_zero_iff.1 e
   rw[this]at f;simp[ak]at f;omega
  rw[d,decide_eq_false (by omega),if_neg (by decide),if_neg t,cH h]
theorem wB(z:Int):fj (oM z)=fj z:=by
 by_cases h:z=0
 ·subst h;rw[cu]
 ·have:=(fL z h).1
  conv=>rhs;rw[this]
  rw[ix]
theorem nE(n:Bool)(k:Nat):gN n k= -1∨gN n k=0∨gN n k=1:=by
 unfold gN
 split
 ·exact .inr (.inl rfl)
 ·cases n
  ·exact .inr (.inr rfl)
  ·exact .inl rfl
theorem qE(m t:Bool)(F G:Option Addr)(H K:Nat)(A B:List Nat)(x y:Int)(w:World)(hA:ag w F H A)(hB:ag w G K B)(a7:j6 m A x=true)(a9:j6 t B y=true):
  Calls Tryz.prog 25 #[.agg #[.bool m,.slice F A.length H,.int .i64 x],.agg #[.bool t,.slice G B.length K,.int .i64 y]] w fun r w'=>r=.returned (.int .i64 (ks (af m A) x (af t B) y))∧Below w.heap.size w w':=by
 have ax:=aa (Al hA.2.1 hB.2.1 a7 a9)
 obtain⟨ra,la,bm,bn,zx⟩:=bR a7
 obtain⟨rb,lb,bp,bq,zy⟩:=bR a9
 have aI:=aa (fun w'=>ld m F H A.length x w')
 have a0:=aa (fun w'=>ld t G K B.length y w')
 rw[Ai ra,←jQ ra]at aI
 rw[Ai rb,←jQ rb]at a0
 have a2:=aa (fun w' h=>ny m F H A x w' h (by omega) (by omega))
 have a3:=aa (fun w' h=>ny t G K B y w' h (by omega) (by omega))
 have aj:=aa (fun(U:bK (af m A) x (af t B) y=min x y) (h1:eM (af m A) x (min x y)=0) (h2:eM (af t B) y (min x y)=0) w' h h'=>Ag m t F G H K A B x y w' h h' ra rb ⟨bm,bn⟩ ⟨bp,bq⟩ (by rw[nC,U];exact h1) (by rw[nC,Ef,U];exact h2))
 have HZ:=aa (fun(U:bK (af m A) x (af t B) y=min x y)=>show fj (oM (dY (af m A) x (-af t B) y))=bs (up (af m A) x (min x y)) (up (af t B) y (min x y)) by
  rw[wB,nD]
  unfold dY
  rw[nC,U,Ah,Int.sub_eq_add_neg])
 have a4:=aa (nE m A.length);have a6:=aa (nE t B.length)
 clear a7 a9 zx zy ra rb
 generalize oE (dY (af m A) x (-af t B) y) (bK (af m A) x (-af t B) y)=oe at*
 generalize oM (dY (af m A) x (-af t B) y)=om at*
 generalize ks (af m A) x (af t B) y=cv at*
 generalize eM (af m A) x (min x y)=ea at*
 generalize eM (af t B) y (min x y)=eb at*
 generalize up (af m A) x (min x y)=za at*
 generalize up (af t B) y (min x y)=zb at*
 generalize gO A x=ta at*
 generalize gO B y=tb at*
 generalize gN m A.length=bx at*
 generalize gN t B.length=bz at*
 generalize bK (af m A) x (af t B) y=l at*
 have bc:Below w.heap.size w ((w.alloc (.cells #[.bool m,.slice F A.length H,.int .i64 x] 52)).alloc (.cells #[.bool t,.slice G B.length K,.int .i64 y] 52)):=((Below.refl _ _).alloc (Nat.le_refl _) _).alloc (by simp) _
 have z:aB ((w.alloc (.cells #[.bool m,.slice F A.length H,.int .i64 x] 52)).alloc (.cells #[.bool t,.slice G B.length K,.int .i64 y] 52)) w.heap.size (.bool m) (.slice F A.length H) (.int .i64 x):=(aB.new _ _ _ _).old _
 have D:aB ((w.alloc (.cells #[.bool m,.slice F A.length H,.int .i64 x] 52)).alloc (.cells #[.bool t,.slice G B.length K,.int .i64 y] 52)) (w.heap.size+1) (.bool t) (.slice G B.length K) (.int .i64 y):=by
  have:=aB.new (w.alloc (.cells #[.bool m,.slice F A.length H,.int .i64 x] 52)) (.bool t) (.slice G B.length K) (.int .i64 y)
  simpa using this
 have Z:=aa bc;have L:=aa z;have M:=aa D
 clear bc z D
 rcases uH ax with⟨ba,_,hc⟩|⟨am,s,c,hs,hc,rfl,bt,ae⟩|⟨am,bv,h1,h2,ae,U⟩
 ·clear ax a2 a3 aj HZ
  rcases uH a4 with rfl|rfl|rfl<;>rcases uH a6 with rfl|rfl|rfl
  all_goals first|exact absurd rfl ba|skip
  all_goals
   have ae:cv=_:=hc.symm
   clear ba hc a4 a6
   simp only[show min (1:Int) (max (-1) (-1-0))= -1 by decide,show min (1:Int) (max (-1) (-1-1))= -1 by decide,show min (1:Int) (max (-1) (0- -1))=1 by decide,show min (1:Int) (max (-1) (0-1))= -1 by decide,show min (1:Int) (max (-1) (1- -1))=1 by decide,show min (1:Int) (max (-1) (1-0))=1 by decide]at ae
   subst ae
   go_enter Tryz.func25,Tryz.ntmps25
   go_wp2_with fail
   refine aq (fun W=>Below w.heap.size w W∧aB W w.heap.size (.bool m) (.slice F A.length H) (.int .i64 x)∧aB W (w.heap.size+1) (.bool t) (.slice G B.length K) (.int .i64 y)) ⟨uH Z,uH L,uH M⟩ ?_
   clear Z L M
   rintro f ⟨O,z,D⟩
   have hK:∀w',Below f.heap.size f w'→Below f.heap.size f w'∧w'.cell? ⟨w.heap.size,0,none⟩=some (.bool m)∧w'.cell? ⟨w.heap.size,1,none⟩=some (.slice F A.length H)∧w'.cell? ⟨w.heap.size,2,none⟩=some (.int .i64 x)∧w'.cell? ⟨w.heap.size+1,0,none⟩=some (.bool t)∧w'.cell? ⟨w.heap.size+1,1,none⟩=some (.slice G B.length K)∧w'.cell? ⟨w.heap.size+1,2,none⟩=some (.int .i64 y):=fun w' h=>
    ⟨h,(z.all h).c0,(z.all h).c1,(z.all h).c2,(D.all h).c0,(D.all h).c1,(D.all h).c2⟩
   have V:=aa hK
   have HA:=aa (hA.below O);have HB:=aa (hB.below O);have X:=aa O;have L:=aa z;have M:=aa D
   clear hK O z D
   go_region_held3(fun w'=>Below f.heap.size f w'∧w'.cell? ⟨w.heap.size,0,none⟩=some (.bool m)∧w'.cell? ⟨w.heap.size,1,none⟩=some (.slice F A.length H)∧w'.cell? ⟨w.heap.size,2,none⟩=some (.int .i64 x)∧w'.cell? ⟨w.heap.size+1,0,none⟩=some (.bool t)∧w'.cell? ⟨w.heap.size+1,1,none⟩=some (.slice G B.length K)∧w'.cell? ⟨w.heap.size+1,2,none⟩=some (.int .i64 y))
    (first|exact uH V _ (Below.refl _ _).drew|exact uH V _ (by assumption))
    (first|(go_at_call_of 60 (Value.agg #[.bool m,.slice F A.length H,.int .i64 x]);refine(uH aI _).mono ?_;rintro e N ⟨rfl,d⟩;have Q:Below f.heap.size f N:=Below.trans (And.left (by assumption)) (d.mono (Below.size (And.left (by assumption))));clear d)|(go_at_call_of 60 (Value.agg #[.bool t,.slice G B.length K,.int .i64 y]);refine(uH a0 _).mono ?_;rintro e N ⟨rfl,d⟩;have Q:Below f.heap.size f N:=Below.trans (And.left (by assumption)) (d.mono (Below.size (And.left (by assumption))));clear d))
   go_wp2_with fail
   have Y:Below f.heap.size f N:=And.left (by assumption)
   have b9:=(uH X).trans (Y.mono (uH X).size);have x9:=(uH L).all Y;have y9:=(uH M).all Y
   clear V HA HB X L M Y
   have Z:=aa b9;have L:=aa x9;have M:=aa y9
   clear b9 x9 y9
   refine aq (fun W=>Below w.heap.size w W∧aB W w.heap.size (.bool m) (.slice F A.length H) (.int .i64 x)∧aB W (w.heap.size+1) (.bool t) (.slice G B.length K) (.int .i64 y)) ⟨uH Z,uH L,uH M⟩ ?_
   clear Z L M
   rintro f ⟨O,z,D⟩
   have hK:∀w',Below f.heap.size f w'→Below f.heap.size f w'∧w'.cell? ⟨w.heap.size,0,none⟩=some (.bool m)∧w'.cell? ⟨w.heap.size,1,none⟩=some (.slice F A.length H)∧w'.cell? ⟨w.heap.size,2,none⟩=some (.int .i64 x)∧w'.cell? ⟨w.heap.size+1,0,none⟩=some (.bool t)∧w'.cell? ⟨w.heap.size+1,1,none⟩=some (.slice G B.length K)∧w'.cell? ⟨w.heap.size+1,2,none⟩=some (.int .i64 y):=fun w' h=>
    ⟨h,(z.all h).c0,(z.all h).c1,(z.all h).c2,(D.all h).c0,(D.all h).c1,(D.all h).c2⟩
   have V:=aa hK
   have HA:=aa (hA.below O);have HB:=aa (hB.below O);have X:=aa O;have L:=aa z;have M:=aa D
   clear hK O z D
   go_region_held3(fun w'=>Below f.heap.size f w'∧w'.cell? ⟨w.heap.size,0,none⟩=some (.bool m)∧w'.cell? ⟨w.heap.size,1,none⟩=some (.slice F A.length H)∧w'.cell? ⟨w.heap.size,2,none⟩=some (.int .i64 x)∧w'.cell? ⟨w.heap.size+1,0,none⟩=some (.bool t)∧w'.cell? ⟨w.heap.size+1,1,none⟩=some (.slice G B.length K)∧w'.cell? ⟨w.heap.size+1,2,none⟩=some (.int .i64 y))
    (first|exact uH V _ (Below.refl _ _).drew|exact uH V _ (by assumption))
    (first|(go_at_call_of 60 (Value.agg #[.bool m,.slice F A.length H,.int .i64 x]);refine(uH aI _).mono ?_;rintro e N ⟨rfl,d⟩;have Q:Below f.heap.size f N:=Below.trans (And.left (by assumption)) (d.mono (Below.size (And.left (by assumption))));clear d)|(go_at_call_of 60 (Value.agg #[.bool t,.slice G B.length K,.int .i64 y]);refine(uH a0 _).mono ?_;rintro e N ⟨rfl,d⟩;have Q:Below f.heap.size f N:=Below.trans (And.left (by assumption)) (d.mono (Below.size (And.left (by assumption))));clear d))
   go_wp2
   go_ret
   exact⟨rfl,(uH X).trans (Below.mono (And.left (by assumption)) (uH X).size)⟩
 ·subst am
  have be:=aa ae
  clear ax aj HZ a4 a6 bt ae
  rcases hs with rfl|rfl
  all_goals
   rcases hc with⟨rfl,ht⟩|⟨rfl,ht⟩
  all_goals
   have ae:=uH be
   simp only[show(1:Int)*1=1 by decide,show(1:Int)* -1= -1 by decide,show(-1:Int)*1= -1 by decide,show(-1:Int)* -1=1 by decide]at ae
   subst ae
   have ba:(ta != tb)=true:=by rw[bne_iff_ne];omega
   first|(have g:decide (tb<ta)=true:=decide_eq_true (by omega))|(have g:decide (tb<ta)=false:=decide_eq_false (by omega))
   clear be
   go_enter Tryz.func25,Tryz.ntmps25
   go_wp2_with fail
   refine aq (fun W=>Below w.heap.size w W∧aB W w.heap.size (.bool m) (.slice F A.length H) (.int .i64 x)∧aB W (w.heap.size+1) (.bool t) (.slice G B.length K) (.int .i64 y)) ⟨uH Z,uH L,uH M⟩ ?_
   clear Z L M
   rintro f ⟨O,z,D⟩
   have hK:∀w',Below f.heap.size f w'→Below f.heap.size f w'∧w'.cell? ⟨w.heap.size,0,none⟩=some (.bool m)∧w'.cell? ⟨w.heap.size,1,none⟩=some (.slice F A.length H)∧w'.cell? ⟨w.heap.size,2,none⟩=some (.int .i64 x)∧w'.cell? ⟨w.heap.size+1,0,none⟩=some (.bool t)∧w'.cell? ⟨w.heap.size+1,1,none⟩=some (.slice G B.length K)∧w'.cell? ⟨w.heap.size+1,2,none⟩=some (.int .i64 y):=fun w' h=>
    ⟨h,(z.all h).c0,(z.all h).c1,(z.all h).c2,(D.all h).c0,(D.all h).c1,(D.all h).c2⟩
   have V:=aa hK
   have HA:=aa (hA.below O);have HB:=aa (hB.below O);have X:=aa O;have L:=aa z;have M:=aa D
   clear hK O z D
   go_region_held3(fun w'=>Below f.heap.size f w'∧w'.cell? ⟨w.heap.size,0,none⟩=some (.bool m)∧w'.cell? ⟨w.heap.size,1,none⟩=some (.slice F A.length H)∧w'.cell? ⟨w.heap.size,2,none⟩=some (.int .i64 x)∧w'.cell? ⟨w.heap.size+1,0,none⟩=some (.bool t)∧w'.cell? ⟨w.heap.size+1,1,none⟩=some (.slice G B.length K)∧w'.cell? ⟨w.heap.size+1,2,none⟩=some (.int .i64 y))
    (first|exact uH V _ (Below.refl _ _).drew|exact uH V _ (by assumption))
    (first|(go_at_call_of 60 (Value.agg #[.bool m,.slice F A.length H,.int .i64 x]);refine(uH aI _).mono ?_;rintro e N ⟨rfl,d⟩;have Q:Below f.heap.size f N:=Below.trans (And.left (by assumption)) (d.mono (Below.size (And.left (by assumption))));clear d)|(go_at_call_of 60 (Value.agg #[.bool t,.slice G B.length K,.int .i64 y]);refine(uH a0 _).mono ?_;rintro e N ⟨rfl,d⟩;have Q:Below f.heap.size f N:=Below.trans (And.left (by assumption)) (d.mono (Below.size (And.left (by assumption))));clear d))
   go_wp2_with fail
   have Y:Below f.heap.size f N:=And.left (by assumption)
   have b9:=(uH X).trans (Y.mono (uH X).size);have x9:=(uH L).all Y;have y9:=(uH M).all Y
   clear V HA HB X L M Y
   have Z:=aa b9;have L:=aa x9;have M:=aa y9
   clear b9 x9 y9
   refine aq (fun W=>Below w.heap.size w W∧aB W w.heap.size (.bool m) (.slice F A.length H) (.int .i64 x)∧aB W (w.heap.size+1) (.bool t) (.slice G B.length K) (.int .i64 y)) ⟨uH Z,uH L,uH M⟩ ?_
   clear Z L M
   rintro f ⟨O,z,D⟩
   have hK:∀w',Below f.heap.size f w'→Below f.heap.size f w'∧w'.cell? ⟨w.heap.size,0,none⟩=some (.bool m)∧w'.cell? ⟨w.heap.size,1,none⟩=some (.slice F A.length H)∧w'.cell? ⟨w.heap.size,2,none⟩=some (.int .i64 x)∧w'.cell? ⟨w.heap.size+1,0,none⟩=some (.bool t)∧w'.cell? ⟨w.heap.size+1,1,none⟩=some (.slice G B.length K)∧w'.cell? ⟨w.heap.size+1,2,none⟩=some (.int .i64 y):=fun w' h=>
    ⟨h,(z.all h).c0,(z.all h).c1,(z.all h).c2,(D.all h).c0,(D.all h).c1,(D.all h).c2⟩
   have V:=aa hK
   have HA:=aa (hA.below O);have HB:=aa (hB.below O);have X:=aa O;have L:=aa z;have M:=aa D
   clear hK O z D
   go_region_held3(fun w'=>Below f.heap.size f w'∧w'.cell? ⟨w.heap.size,0,none⟩=some (.bool m)∧w'.cell? ⟨w.heap.size,1,none⟩=some (.slice F A.length H)∧w'.cell? ⟨w.heap.size,2,none⟩=some (.int .i64 x)∧w'.cell? ⟨w.heap.size+1,0,none⟩=some (.bool t)∧w'.cell? ⟨w.heap.size+1,1,none⟩=some (.slice G B.length K)∧w'.cell? ⟨w.heap.size+1,2,none⟩=some (.int .i64 y))
    (first|exact uH V _ (Below.refl _ _).drew|exact uH V _ (by assumption))
    (first|(go_at_call_of 61 (Value.agg #[.bool m,.slice F A.length H,.int .i64 x]);refine(uH a2 _ ((uH HA).below (And.left (by assumption)))).mono ?_;rintro e N ⟨rfl,d⟩;have Q:Below f.heap.size f N:=Below.trans (And.left (by assumption)) (d.mono (Below.size (And.left (by assumption))));clear d)|(go_at_call_of 61 (Value.agg #[.bool t,.slice G B.length K,.int .i64 y]);refine(uH a3 _ ((uH HB).below (And.left (by assumption)))).mono ?_;rintro e N ⟨rfl,d⟩;have Q:Below f.heap.size f N:=Below.trans (And.left (by assumption)) (d.mono (Below.size (And.left (by assumption))));clear d))
   go_wp2_with fail
   have Y:Below f.heap.size f N:=And.left (by assumption)
   have b9:=(uH X).trans (Y.mono (uH X).size);have x9:=(uH L).all Y;have y9:=(uH M).all Y
   clear V HA HB X L M Y
   have Z:=aa b9;have L:=aa x9;have M:=aa y9
   clear b9 x9 y9
   refine aq (fun W=>Below w.heap.size w W∧aB W w.heap.size (.bool m) (.slice F A.length H) (.int .i64 x)∧aB W (w.heap.size+1) (.bool t) (.slice G B.length K) (.int .i64 y)) ⟨uH Z,uH L,uH M⟩ ?_
   clear Z L M
   rintro f ⟨O,z,D⟩
   have hK:∀w',Below f.heap.size f w'→Below f.heap.size f w'∧w'.cell? ⟨w.heap.size,0,none⟩=some (.bool m)∧w'.cell? ⟨w.heap.size,1,none⟩=some (.slice F A.length H)∧w'.cell? ⟨w.heap.size,2,none⟩=some (.int .i64 x)∧w'.cell? ⟨w.heap.size+1,0,none⟩=some (.bool t)∧w'.cell? ⟨w.heap.size+1,1,none⟩=some (.slice G B.length K)∧w'.cell? ⟨w.heap.size+1,2,none⟩=some (.int .i64 y):=fun w' h=>
    ⟨h,(z.all h).c0,(z.all h).c1,(z.all h).c2,(D.all h).c0,(D.all h).c1,(D.all h).c2⟩
   have V:=aa hK
   have HA:=aa (hA.below O);have HB:=aa (hB.below O);have X:=aa O;have L:=aa z;have M:=aa D
   clear hK O z D
   go_region_held3(fun w'=>Below f.heap.size f w'∧w'.cell? ⟨w.heap.size,0,none⟩=some (.bool m)∧w'.cell? ⟨w.heap.size,1,none⟩=some (.slice F A.length H)∧w'.cell? ⟨w.heap.size,2,none⟩=some (.int .i64 x)∧w'.cell? ⟨w.heap.size+1,0,none⟩=some (.bool t)∧w'.cell? ⟨w.heap.size+1,1,none⟩=some (.slice G B.length K)∧w'.cell? ⟨w.heap.size+1,2,none⟩=some (.int .i64 y))
    (first|exact uH V _ (Below.refl _ _).drew|exact uH V _ (by assumption))
    (first|(go_at_call_of 61 (Value.agg #[.bool m,.slice F A.length H,.int .i64 x]);refine(uH a2 _ ((uH HA).below (And.left (by assumption)))).mono ?_;rintro e N ⟨rfl,d⟩;have Q:Below f.heap.size f N:=Below.trans (And.left (by assumption)) (d.mono (Below.size (And.left (by assumption))));clear d)|(go_at_call_of 61 (Value.agg #[.bool t,.slice G B.length K,.int .i64 y]);refine(uH a3 _ ((uH HB).below (And.left (by assumption)))).mono ?_;rintro e N ⟨rfl,d⟩;have Q:Below f.heap.size f N:=Below.trans (And.left (by assumption)) (d.mono (Below.size (And.left (by assumption))));clear d)|(go_at_call_of 60 (Value.agg #[.bool m,.slice F A.length H,.int .i64 x]);refine(uH aI _).mono ?_;rintro e N ⟨rfl,d⟩;have Q:Below f.heap.size f N:=Below.trans (And.left (by assumption)) (d.mono (Below.size (And.left (by assumption))));clear d)|(go_at_call_of 60 (Value.agg #[.bool t,.slice G B.length K,.int .i64 y]);refine(uH a0 _).mono ?_;rintro e N ⟨rfl,d⟩;have Q:Below f.heap.size f N:=Below.trans (And.left (by assumption)) (d.mono (Below.size (And.left (by assumption))));clear d))
   go_wp2
   go_ret
   exact⟨rfl,(uH X).trans (Below.mono (And.left (by assumption)) (uH X).size)⟩
 ·subst am
  subst bv
  have hz:=uH HZ U
  rw[ae]at hz
  have bj:=aa hz
  have a1:=aa (uH aj U h1 h2)
  have aj:=a1
  clear ax a4 a6 HZ U h1 h2 ae hz a1
  go_enter Tryz.func25,Tryz.ntmps25
  go_wp2_with fail
  refine aq (fun W=>Below w.heap.size w W∧aB W w.heap.size (.bool m) (.slice F A.length H) (.int .i64 x)∧aB W (w.heap.size+1) (.bool t) (.slice G B.length K) (.int .i64 y)) ⟨uH Z,uH L,uH M⟩ ?_
  clear Z L M
  rintro f ⟨O,z,D⟩
  have hK:∀w',Below f.heap.size f w'→Below f.heap.size f w'∧w'.cell? ⟨w.heap.size,0,none⟩=some (.bool m)∧w'.cell? ⟨w.heap.size,1,none⟩=some (.slice F A.length H)∧w'.cell? ⟨w.heap.size,2,none⟩=some (.int .i64 x)∧w'.cell? ⟨w.heap.size+1,0,none⟩=some (.bool t)∧w'.cell? ⟨w.heap.size+1,1,none⟩=some (.slice G B.length K)∧w'.cell? ⟨w.heap.size+1,2,none⟩=some (.int .i64 y):=fun w' h=>
   ⟨h,(z.all h).c0,(z.all h).c1,(z.all h).c2,(D.all h).c0,(D.all h).c1,(D.all h).c2⟩
  have V:=aa hK
  have HA:=aa (hA.below O);have HB:=aa (hB.below O);have X:=aa O;have L:=aa z;have M:=aa D
  clear hK O z D
  go_region_held3(fun w'=>Below f.heap.size f w'∧w'.cell? ⟨w.heap.size,0,none⟩=some (.bool m)∧w'.cell? ⟨w.heap.size,1,none⟩=some (.slice F A.length H)∧w'.cell? ⟨w.heap.size,2,none⟩=some (.int .i64 x)∧w'.cell? ⟨w.heap.size+1,0,none⟩=some (.bool t)∧w'.cell? ⟨w.heap.size+1,1,none⟩=some (.slice G B.length K)∧w'.cell? ⟨w.heap.size+1,2,none⟩=some (.int .i64 y))
   (first|exact uH V _ (Below.refl _ _).drew|exact uH V _ (by assumption))
   (first|(go_at_call_of 60 (Value.agg #[.bool m,.slice F A.length H,.int .i64 x]);refine(uH aI _).mono ?_;rintro e N ⟨rfl,d⟩;have Q:Below f.heap.size f N:=Below.trans (And.left (by assumption)) (d.mono (Below.size (And.left (by assumption))));clear d)|(go_at_call_of 60 (Value.agg #[.bool t,.slice G B.length K,.int .i64 y]);refine(uH a0 _).mono ?_;rintro e N ⟨rfl,d⟩;have Q:Below f.heap.size f N:=Below.trans (And.left (by assumption)) (d.mono (Below.size (And.left (by assumption))));clear d))
  go_wp2_with fail
  have Y:Below f.heap.size f N:=And.left (by assumption)
  have b9:=(uH X).trans (Y.mono (uH X).size);have x9:=(uH L).all Y;have y9:=(uH M).all Y
  clear V HA HB X L M Y
  have Z:=aa b9;have L:=aa x9;have M:=aa y9
  clear b9 x9 y9
  refine aq (fun W=>Below w.heap.size w W∧aB W w.heap.size (.bool m) (.slice F A.length H) (.int .i64 x)∧aB W (w.heap.size+1) (.bool t) (.slice G B.length K) (.int .i64 y)) ⟨uH Z,uH L,uH M⟩ ?_
  clear Z L M
  rintro f ⟨O,z,D⟩
  have hK:∀w',Below f.heap.size f w'→Below f.heap.size f w'∧w'.cell? ⟨w.heap.size,0,none⟩=some (.bool m)∧w'.cell? ⟨w.heap.size,1,none⟩=some (.slice F A.length H)∧w'.cell? ⟨w.heap.size,2,none⟩=some (.int .i64 x)∧w'.cell? ⟨w.heap.size+1,0,none⟩=some (.bool t)∧w'.cell? ⟨w.heap.size+1,1,none⟩=some (.slice G B.length K)∧w'.cell? ⟨w.heap.size+1,2,none⟩=some (.int .i64 y):=fun w' h=>
   ⟨h,(z.all h).c0,(z.all h).c1,(z.all h).c2,(D.all h).c0,(D.all h).c1,(D.all h).c2⟩
  have V:=aa hK
  have HA:=aa (hA.below O);have HB:=aa (hB.below O);have X:=aa O;have L:=aa z;have M:=aa D
  clear hK O z D
  go_region_held3(fun w'=>Below f.heap.size f w'∧w'.cell? ⟨w.heap.size,0,none⟩=some (.bool m)∧w'.cell? ⟨w.heap.size,1,none⟩=some (.slice F A.length H)∧w'.cell? ⟨w.heap.size,2,none⟩=some (.int .i64 x)∧w'.cell? ⟨w.heap.size+1,0,none⟩=some (.bool t)∧w'.cell? ⟨w.heap.size+1,1,none⟩=some (.slice G B.length K)∧w'.cell? ⟨w.heap.size+1,2,none⟩=some (.int .i64 y))
   (first|exact uH V _ (Below.refl _ _).drew|exact uH V _ (by assumption))
   (first|(go_at_call_of 61 (Value.agg #[.bool m,.slice F A.length H,.int .i64 x]);refine(uH a2 _ ((uH HA).below (And.left (by assumption)))).mono ?_;rintro e N ⟨rfl,d⟩;have Q:Below f.heap.size f N:=Below.trans (And.left (by assumption)) (d.mono (Below.size (And.left (by assumption))));clear d)|(go_at_call_of 61 (Value.agg #[.bool t,.slice G B.length K,.int .i64 y]);refine(uH a3 _ ((uH HB).below (And.left (by assumption)))).mono ?_;rintro e N ⟨rfl,d⟩;have Q:Below f.heap.size f N:=Below.trans (And.left (by assumption)) (d.mono (Below.size (And.left (by assumption))));clear d))
  go_wp2_with fail
  have Y:Below f.heap.size f N:=And.left (by assumption)
  have b9:=(uH X).trans (Y.mono (uH X).size);have x9:=(uH L).all Y;have y9:=(uH M).all Y
  clear V HA HB X L M Y
  have Z:=aa b9;have L:=aa x9;have M:=aa y9
  clear b9 x9 y9
  refine(uH aj _ (hA.below (uH Z)) (hB.below (uH Z))).mono ?_
  rintro r w5 ⟨u,rfl,iu,d⟩
  obtain⟨n5,a5,c5,L5,rfl,q1,q2,q3,q4,q5⟩:=iu.parts
  have bb:=Eh q2 q3 q4
  rw[uH bj]at bb
  have bi:=aa (fun w'=>ld n5 a5 c5 L5.length oe w')
  rw[bb]at bi
  have B1:=aa ((uH Z).trans (d.mono (uH Z).size))
  clear q1 q2 q3 q4 q5 iu d bb
  go_wp2_with(go_at_call 60;refine(uH bi _).mono ?_;rintro r w6 ⟨rfl,d⟩)
  go_ret
  exact⟨rfl,(uH B1).trans (d.mono (uH B1).size)⟩
end Go.Proofs.YtnnfjeieennffaaGreatDoor
namespace Go.Proofs.YtnnfjeieennffaaGreatDoor
open Go.RowKit
theorem Ei(k:Nat):(2:Int)^k≠0:=Int.pow_ne_zero (by decide)
theorem kt(z:Int)(k:Nat)(e:Int):oM (z*2^k)=oM z∧oE (z*2^k) e=oE z (e+k):=by
 by_cases h:z=0
 ·subst h;rw[Int.zero_mul,cu,cS,cS];exact⟨rfl,rfl⟩
 ·have f:z*2^k≠0:=fun e=>by rcases Int.mul_eq_zero.1 e with e|e;exact h e;exact Ei k e
  have d:=fL z h
  have l:iN (z*2^k) (oM z) (tz z.natAbs+k):=by
   refine⟨?_,d.2⟩
   conv=>lhs;rw[d.1]
   rw[Int.mul_assoc,←Int.pow_add]
  obtain⟨_,m,t⟩:=l.eq
  refine⟨m.symm,?_⟩
  rw[dJ _ _ f,dJ _ _ h,←t]
  omega
theorem GA(z1 z2:Int):oM (z1*z2)=oM z1*oM z2:=by
 by_cases d:z1=0
 ·subst d;rw[Int.zero_mul,cu,Int.zero_mul]
 by_cases f:z2=0
 ·subst f;rw[Int.mul_zero,cu,Int.mul_zero]
 have a:=fL z1 d
 have b:=fL z2 f
 have h:iN (z1*z2) (oM z1*oM z2) (tz z1.natAbs+tz z2.natAbs):=by
  refine⟨?_,?_⟩
  ·conv=>lhs;rw[a.1,b.1]
   rw[Int.pow_add]
   simp only[Int.mul_assoc,Int.mul_left_comm]
  ·rw[Int.mul_emod,a.2,b.2];rfl
 exact h.eq.2.1.symm
theorem Ej(z1 z2:Int)(d:z1≠0)(f:z2≠0):tz (z1*z2).natAbs=tz z1.natAbs+tz z2.natAbs:=by
 have a:=fL z1 d
 have b:=fL z2 f
 have h:iN (z1*z2) (oM z1*oM z2) (tz z1.natAbs+tz z2.natAbs):=by
  refine⟨?_,?_⟩
  ·conv=>lhs;rw[a.1,b.1]
   rw[Int.pow_add]
   simp only[Int.mul_assoc,Int.mul_left_comm]
  ·rw[Int.mul_emod,a.2,b.2];rfl
 exact h.eq.2.2.symm
def ma(lo:Int)(W:Nat)(z:Int):Prop:=z.natAbs<2^W∧-16384≤lo∧lo+W≤16384∧W≤16384
theorem ma.tzs{lo:Int}{W:Nat}{z:Int}(h:ma lo W z)(d:z≠0):tz z.natAbs<W:=lY _ _ (by omega) h.1
theorem ma.tops{lo:Int}{W:Nat}{z:Int}(h:ma lo W z):z.natAbs<dE:=qD h.1 h.2.2.2
theorem ma.right{lo:Int}{W:Nat}{z:Int}(h:ma lo W z):qA (oM z) (oE z lo)=true∧(oM z).natAbs<dE:=by
 refine⟨?_,Nat.lt_of_le_of_lt (wx z) h.tops⟩
 unfold qA
 by_cases d:z=0
 ·subst d;rw[cu,cS];rfl
 ·obtain⟨f,l⟩:=gI z d
  have m:=h.tzs d
  obtain⟨_,t,A,_⟩:=h
  rw[if_neg f,dJ _ _ d,decide_eq_true l,decide_eq_true (show-16384≤lo+(tz z.natAbs:Int)∧lo+(tz z.natAbs:Int)≤16384 by omega)]
  rfl
theorem nF(z lo:Int)(h:z≠0):oM z*2^(oE z lo-lo).toNat=z:=by
 rw[dJ _ _ h,show(lo+(tz z.natAbs:Int)-lo).toNat=tz z.natAbs by omega]
 exact(fL z h).1.symm
theorem nG(m e:Int)(h:qA m e=true):cR m e=0∧dM m e=m∧dX m e=e:=by
 unfold qA at h
 by_cases d:m=0
 ·subst d
  rw[if_pos rfl]at h
  have l:=of_decide_eq_true h
  subst l
  decide
 ·rw[if_neg d,Bool.and_eq_true]at h
  have t:=of_decide_eq_true h.1
  have F:=of_decide_eq_true h.2
  have z:iN m m 0:=⟨by simp,t⟩
  obtain⟨_,D,f⟩:=z.eq
  have A:k9 m e=true:=by
   unfold k9
   rw[←f,decide_eq_true (show-32768≤e∧e≤32768 by omega),decide_eq_true (show-16384≤e+((0:Nat):Int)∧e+((0:Nat):Int)≤16384 by omega)]
   simp
  unfold cR dM dX
  rw[A,←D,dJ _ _ d,←f]
  simp
theorem Am{lo:Int}{W:Nat}{z1 z2:Int}(L:ma lo W z1)(M:ma lo W z2)(h3:ma lo W (z1+z2)):
  se (oM z1) (oE z1 lo) (oM z2) (oE z2 lo)=0∧sf (oM z1) (oE z1 lo) (oM z2) (oE z2 lo)=oM (z1+z2)∧si (oM z1) (oE z1 lo) (oM z2) (oE z2 lo)=oE (z1+z2) lo:=by
 have N:=L.right
 have O:=M.right
 have bE:∀m e,qA m e=true→-16384≤e∧e≤16384:=fun m e h=>by
  unfold qA at h
  by_cases h0:m=0
  ·rw[if_pos h0]at h;have:=of_decide_eq_true h;omega
  ·rw[if_neg h0,Bool.and_eq_true]at h;exact of_decide_eq_true h.2
 by_cases A:z1=0
 ·subst A
  rw[cu,cS,Int.zero_add]
  obtain⟨H,p2,K⟩:=nA (oM z2) (oE z2 lo) (bE _ _ O.1) O.2
  rw[H,p2,K]
  exact nG _ _ O.1
 by_cases D:z2=0
 ·subst D
  rw[cu,cS,Int.add_zero]
  obtain⟨H,p2,K⟩:=nB (oM z1) (oE z1 lo) (bE _ _ N.1) N.2 (gI z1 A).1
  rw[H,p2,K]
  exact nG _ _ N.1
 have sa:=(gI z1 A).1
 have sb:=(gI z2 D).1
 have x1:=dJ z1 lo A
 have x2:=dJ z2 lo D
 have t1:=L.tzs A
 have t2:=M.tzs D
 have f:=L.tops
 obtain⟨_,l1,l2,l3⟩:=L
 have F:=iw (oM z1) (oE z1 lo) (oM z2) (oE z2 lo) sa sb
 obtain⟨l,ae⟩:∃l,min (oE z1 lo) (oE z2 lo)=l:=⟨_,rfl⟩
 rw[ae]at F
 have aj:lo≤l:=by omega
 obtain⟨k,hk⟩:∃k:Nat,(k:Int)=l-lo:=⟨(l-lo).toNat,by omega⟩
 have Q:lo+(k:Int)=l:=by omega
 have u1:up (oM z1) (oE z1 lo) l*2^k=z1:=by
  conv=>rhs;rw[←nF z1 lo A]
  unfold up
  rw[Int.mul_assoc,←Int.pow_add]
  congr 2
  omega
 have u2:up (oM z2) (oE z2 lo) l*2^k=z2:=by
  conv=>rhs;rw[←nF z2 lo D]
  unfold up
  rw[Int.mul_assoc,←Int.pow_add]
  congr 2
  omega
 have t:=M.tops
 have U:oE z1 lo-l≤16384:=by clear f t;omega
 have V:oE z2 lo-l≤16384:=by clear f t;omega
 have d:∀u z:Int,u*2^k=z→u.natAbs≤z.natAbs:=fun u z h=>by
  rw[←h,Int.natAbs_mul,Int.natAbs_pow]
  exact Nat.le_mul_of_pos_right _ (Nat.pow_pos (by decide))
 have hZ:dY (oM z1) (oE z1 lo) (oM z2) (oE z2 lo)*2^k=z1+z2:=by
  unfold dY
  rw[F,Int.add_mul,u1,u2]
 have e1:eM (oM z1) (oE z1 lo) l=0:=ir _ _ _ (Nat.lt_of_le_of_lt (d _ _ u1) f) U
 have e2:eM (oM z2) (oE z2 lo) l=0:=ir _ _ _ (Nat.lt_of_le_of_lt (d _ _ u2) t) V
 have G:(dY (oM z1) (oE z1 lo) (oM z2) (oE z2 lo)).natAbs<dE:=Nat.lt_of_le_of_lt (d _ _ hZ) h3.tops
 obtain⟨H,p2,K⟩:=Eg (by rw[F];exact e1) (by rw[F];exact e2) G
 rw[H,p2,K,F]
 generalize dY (oM z1) (oE z1 lo) (oM z2) (oE z2 lo)=Z at*
 have X:=kt Z k lo
 rw[hZ]at X
 have hx:oE (z1+z2) lo=oE Z l:=by rw[X.2,Q]
 have r3:=h3.right.1
 rw[X.1,hx]at r3⊢
 have Y:-32768≤l∧l≤32768:=by clear f t G;omega
 exact(xH Z l Y).1 r3
theorem xN{lo1 lo2:Int}{W1 W2 W:Nat}{z1 z2:Int}(z:ma (lo1+lo2) W (z1*z2))(l:ma lo1 W1 z1)(m:ma lo2 W2 z2):
  (oM z1*oM z2).natAbs<dE∧cR (oM z1*oM z2) (oE z1 lo1+oE z2 lo2)=0∧dM (oM z1*oM z2) (oE z1 lo1+oE z2 lo2)=oM (z1*z2)∧dX (oM z1*oM z2) (oE z1 lo1+oE z2 lo2)=oE (z1*z2) (lo1+lo2):=by
 have t:=z.right
 rw[←GA]
 refine⟨t.2,?_⟩
 by_cases f:z1=0
 ·subst f
  have A:-16384≤oE z2 lo2∧oE z2 lo2≤16384:=by
   by_cases d:z2=0
   ·subst d;rw[cS];decide
   ·have:=m.tzs d
    rw[dJ _ _ d]
    have:=m.2
    omega
  rw[Int.zero_mul,cu,cS,cS,Int.zero_add]
  have h:k9 0 (oE z2 lo2)=true:=by unfold k9;rw[decide_eq_true (show-32768≤oE z2 lo2∧oE z2 lo2≤32768 by omega)];simp
  unfold cR dM dX
  rw[h]
  simp[cu,cS]
 by_cases d:z2=0
 ·subst d
  have A:-16384≤oE z1 lo1∧oE z1 lo1≤16384:=by
   have:=l.tzs f
   rw[dJ _ _ f]
   have:=l.2
   omega
  rw[Int.mul_zero,cu,cS,cS,Int.add_zero]
  have h:k9 0 (oE z1 lo1)=true:=by unfold k9;rw[decide_eq_true (show-32768≤oE z1 lo1∧oE z1 lo1≤32768 by omega)];simp
  unfold cR dM dX
  rw[h]
  simp[cu,cS]
 have D:oE z1 lo1+oE z2 lo2=oE (z1*z2) (lo1+lo2):=by
  have F:z1*z2≠0:=fun e=>by rcases Int.mul_eq_zero.1 e with e|e;exact f e;exact d e
  rw[dJ _ _ f,dJ _ _ d,dJ _ _ F,Ej z1 z2 f d]
  omega
 rw[D]
 exact nG _ _ t.1
theorem JG{w:World}{v u:Value}{lo:Int}{W:Nat}{z1 z2:Int}(m:aG w v (oM z1) (oE z1 lo))(z:aG w u (oM z2) (oE z2 lo))(d:ma lo W z1)(f:ma lo W z2)(D:ma lo W (z1+z2))(t:cC w):
  Calls Tryz.prog 214 #[v,u] w fun r w'=>mu w' r 0 (oM (z1+z2)) (oE (z1+z2) lo)∧Below w.heap.size w w':=by
 obtain⟨F,G,H,A,rfl,K,Z,L,a4,h⟩:=m.right d.right.2
 obtain⟨M,N,O,B,rfl,Q,b2,U,b4,l⟩:=z.right f.right.2
 rw[d.right.1]at h
 rw[f.right.1]at l
 have:=uG F M G N H O A B _ _ w K Q h l t
 obtain⟨V,X,Y⟩:=Am d f D
 rwa[L,U,V,X,Y]at this
theorem JH{w:World}{v u:Value}{lo1 lo2:Int}{W1 W2 W:Nat}{z1 z2:Int}(D:aG w v (oM z1) (oE z1 lo1))(F:aG w u (oM z2) (oE z2 lo2))(d:ma lo1 W1 z1)(f:ma lo2 W2 z2)(G:ma (lo1+lo2) W (z1*z2))(t:cC w):
  Calls Tryz.prog 216 #[v,u] w fun r w'=>mu w' r 0 (oM (z1*z2)) (oE (z1*z2) (lo1+lo2))∧Below w.heap.size w w':=by
 obtain⟨H,K,L,A,rfl,M,a2,h,a4,l⟩:=D.right d.right.2
 obtain⟨N,O,Q,B,rfl,U,b2,m,b4,z⟩:=F.right f.right.2
 rw[d.right.1]at l
 rw[f.right.1]at z
 obtain⟨V,X,Y,Z⟩:=xN G d f
 have:=uI H N K O L Q A B _ _ w M U l z (by rw[h,m];exact V) t
 rwa[h,m,X,Y,Z]at this
end Go.Proofs.YtnnfjeieennffaaGreatDoor
