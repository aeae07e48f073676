/- Part 15 of the texts. -/
import Derived.Test.YtlnphkioddknfaaGreatDoorParty14
set_option maxHeartbeats 4000000
namespace Go.Proofs.YtlnphkioddknfaaGreatDoor
open Go.RowKit
def fm(z:Int):Int:=if z<0 then-1 else if z=0 then 0 else 1
def kB(sa x sb y:Int):Int:=bJ (up sa x (bO sa x sb y)) (up sb y (bO sa x sb y))
theorem cG{u:Int}(h:u<0):fm u= -1:=by unfold fm;rw[if_pos h]
theorem f9:fm 0=0:=rfl
theorem cH{u:Int}(h:0<u):fm u=1:=by unfold fm;rw[if_neg (by omega),if_neg (by omega)]
theorem iM(s:Int)(k:Nat):fm (s*2^k)=fm s:=by
 have d:(0:Int)<2^k:=Int.pow_pos (by decide)
 rcases Int.lt_trichotomy s 0 with h|h|h
 ·rw[cG h,cG (Int.mul_neg_of_neg_of_pos h d)]
 ·subst h;rw[Int.zero_mul]
 ·rw[cH h,cH (Int.mul_pos h d)]
theorem mB(s x l:Int):fm (up s x l)=fm s:=iM s _
theorem j5{n:Bool}{L:List Nat}(h:av n L=true):gS n L.length=fm (af n L):=by
 unfold gS
 have l:=aK h
 by_cases d:L.length=0
 ·rw[if_pos d,l.2 d];rfl
 ·have f:af n L≠0:=fun e=>d (l.1 e)
  rw[if_neg d]
  unfold af at f⊢
  cases n
  ·simp only[Bool.false_eq_true,if_false]at f⊢
   rw[cH (by omega)]
  ·simp only[if_true]at f⊢
   rw[cG (by omega)]
theorem AE{n:Bool}{L:List Nat}(h:av n L=true):uK n L.length=fm (af n L):=by
 rw[←j5 h]
 unfold uK gS
 cases n
 ·rfl
 ·have:L.length≠0:=fun e=>(ay h).2.2 rfl (List.length_eq_zero_iff.1 e)
  simp[this]
theorem xY(u v:Int)(h:fm u≠fm v):bJ (fm u) (fm v)=bJ u v∧min 1 (max (-1) (fm u-fm v))=bJ u v:=by
 rcases Int.lt_trichotomy u 0 with d|d|d<;>rcases Int.lt_trichotomy v 0 with f|f|f
 ·rw[cG d,cG f]at h;exact absurd rfl h
 ·subst f;rw[cG d,f9,dq d];decide
 ·rw[cG d,cH f,dq (show u<v by omega)];decide
 ·subst d;rw[cG f,f9,ew f];decide
 ·subst d;subst f;exact absurd rfl h
 ·subst d;rw[cH f,f9,dq f];decide
 ·rw[cH d,cG f,ew (show v<u by omega)];decide
 ·subst f;rw[cH d,f9,ew d];decide
 ·rw[cH d,cH f]at h;exact absurd rfl h
theorem AF(t y m d f l:Nat)(z:t<2^m)(A:2^(d-1)≤y)(D:1≤d)(h:m+f<d+l):t*2^f<y*2^l:=by
 have F:t*2^f<2^(m+f):=by rw[Nat.pow_add];exact Nat.mul_lt_mul_of_pos_right z (Nat.pow_pos (by decide))
 have G:2^(d-1+l)≤y*2^l:=by rw[Nat.pow_add];exact Nat.mul_le_mul_right _ A
 have H:2^(m+f)≤2^(d-1+l):=Nat.pow_le_pow_right (by decide) (by omega)
 omega
theorem wL(n:Bool)(L:List Nat)(x l:Int):up (af n L) x l=sg n (an L*2^(x-l).toNat):=by
 unfold up
 rw[dr]
 unfold sg
 cases n
 ·simp
 ·simp[Int.neg_mul]
theorem xZ(u v:Int):bJ v u= -bJ u v:=by
 unfold bJ
 rcases Int.lt_trichotomy u v with h|h|h
 ·rw[if_neg (by omega),if_pos h,if_pos h];rfl
 ·subst h;simp
 ·rw[if_pos h,if_neg (by omega),if_pos h]
theorem nh(u v:Int):bJ u v=fm (u-v):=by
 rcases Int.lt_trichotomy u v with h|h|h
 ·rw[dq h,cG (by omega)]
 ·subst h;rw[Eg rfl,Int.sub_self];rfl
 ·rw[ew h,cH (by omega)]
theorem pD{d f:Bool}{A B:List Nat}{x y:Int}(fA:bf A)(K:bf B)(t:av d A=true)(z:av f B=true)(D:A.length≠0)(F:B.length≠0)(L:d=f)(h:dD A+x<dD B+y):
  kB (af d A) x (af f B) y=(if d then 1 else-1)∧kB (af f B) y (af d A) x=(if d then-1 else 1):=by
 have G:af d A≠0:=fun e=>D ((aK t).1 e)
 have H:af f B≠0:=fun e=>F ((aK z).1 e)
 have M:=ig A fA (ay t).2.1 (fun e=>D (by rw[e];rfl))
 have I:=ig B K (ay z).2.1 (fun e=>F (by rw[e];rfl))
 rw[ie,ie]at h
 have m:∀l,l≤x→l≤y→bJ (up (af d A) x l) (up (af f B) y l)=(if d then 1 else-1):=by
  intro l O Q
  have N:=AF (an A) (an B) (jT A) (jT B) (x-l).toNat (y-l).toNat M.2.2 I.2.1 I.1 (by omega)
  rw[wL,wL,←L]
  unfold sg
  cases d
  ·simp only[Bool.false_eq_true,if_false]
   exact dq (by omega)
  ·simp only[if_true]
   exact ew (by omega)
 constructor
 ·unfold kB
  rw[iL _ _ _ _ G H]
  exact m _ (by omega) (by omega)
 ·unfold kB
  rw[iL _ _ _ _ H G,xZ,m _ (by omega) (by omega)]
  cases d<;>rfl
theorem AG{d l:Bool}{A B:List Nat}{x y:Int}(fA:bf A)(m:bf B)(t:av d A=true)(z:av l B=true)(D:A.length≠0)(F:B.length≠0)(h:dD A+x=dD B+y):
  eD (af d A) x (min x y)=0∧eD (af l B) y (min x y)=0:=by
 have bl:∀(n:Bool) (L:List Nat),bf L→av n L=true→L.length≠0→1≤dD L∧dD L≤16384:=fun n L f r I=>by
  have s:=ig L f (ay r).2.1 (fun e=>I (by rw[e];rfl))
  have G:=(dR L f (ay r).2.1).2 (ay r).1
  have K:32*k9=16384:=rfl
  rw[uO]at G
  have H:=wJ (an L) (jT L) 0 (32*k9) s.1 s.2.1 s.2.2
  rw[Nat.pow_zero,Nat.mul_one]at H
  have:=H.1 G
  rw[ie]
  omega
 have M:=bl d A fA t D
 have N:=bl l B m z F
 rw[wK d A x _ fA t (fun e=>D (by rw[e];rfl)) (by omega),wK l B y _ m z (fun e=>F (by rw[e];rfl)) (by omega)]
 omega
attribute [local go_sem ↓] Go.wp_at_zero Go.wp_at_succ
theorem AH{d f:Bool}{A B:List Nat}{x y:Int}(fA:bf A)(I:bf B)(K:kn d A x=true)(L:kn f B y=true):
  (gS d A.length≠gS f B.length∧bJ (gS d A.length) (gS f B.length)=kB (af d A) x (af f B) y∧min 1 (max (-1) (gS d A.length-gS f B.length))=kB (af d A) x (af f B) y)∨
  (gS d A.length=gS f B.length∧∃s c:Int,(s=1∨s= -1)∧((c=1∧gT B y<gT A x)∨(c= -1∧gT A x<gT B y))∧gS d A.length=s∧bJ (gT A x) (gT B y)=c∧kB (af d A) x (af f B) y=s*c)∨
  (gS d A.length=gS f B.length∧gT A x=gT B y∧eD (af d A) x (min x y)=0∧eD (af f B) y (min x y)=0∧bJ (up (af d A) x (min x y)) (up (af f B) y (min x y))=kB (af d A) x (af f B) y∧bO (af d A) x (af f B) y=min x y):=by
 obtain⟨D,_,a1,a2,Y⟩:=bT K
 obtain⟨F,_,b1,b2,Z⟩:=bT L
 rw[j5 D,j5 F]
 by_cases l:fm (af d A)=fm (af f B)
 case neg=>
  left
  have h:=xY (up (af d A) x (bO (af d A) x (af f B) y)) (up (af f B) y (bO (af d A) x (af f B) y)) (by rw[mB,mB];exact l)
  rw[mB,mB]at h
  exact⟨l,h.1,h.2⟩
 right
 by_cases m:A.length=0
 ·have Q:=(aK D).2 m
  have U:af f B=0:=by
   rw[Q,f9]at l
   rcases Int.lt_trichotomy (af f B) 0 with h|h|h
   ·rw[cG h]at l;exact absurd l (by decide)
   ·exact h
   ·rw[cH h]at l;exact absurd l (by decide)
  have t:=(aK F).1 U
  right
  refine⟨l,by unfold gT;rw[if_pos m,if_pos t],?_⟩
  rw[Q,U,Y m,Z t]
  refine⟨iK _ _ _ (by rw[fU];exact mz) (by decide),iK _ _ _ (by rw[fU];exact mz) (by decide),?_,by simp[bO]⟩
  unfold kB
  simp[fU]
 have M:af d A≠0:=fun e=>m ((aK D).1 e)
 have N:af f B≠0:=fun e=>by
  rw[e,f9]at l
  rcases Int.lt_trichotomy (af d A) 0 with h|h|h
  ·rw[cG h]at l;exact absurd l (by decide)
  ·exact M h
  ·rw[cH h]at l;exact absurd l (by decide)
 have t:B.length≠0:=fun e=>N ((aK F).2 e)
 have z:d=f∧fm (af d A)=if d then-1 else 1:=by
  have G:=j5 D
  have O:=j5 F
  unfold gS at G O
  rw[if_neg m]at G
  rw[if_neg t]at O
  refine⟨?_,G.symm⟩
  rw[←G,←O]at l
  cases d<;>cases f<;>first|rfl|exact absurd l (by decide)
 have X:gT A x=dD A+x:=by unfold gT;rw[if_neg m]
 have tB:gT B y=dD B+y:=by unfold gT;rw[if_neg t]
 rw[X,tB]
 rcases Int.lt_trichotomy (dD A+x) (dD B+y)with h|h|h
 ·left
  have H:=(pD fA I D F m t z.1 h).1
  refine⟨l,if d then-1 else 1,-1,?_,.inr ⟨rfl,h⟩,z.2,dq h,?_⟩
  ·cases d<;>simp
  ·rw[H];cases d<;>rfl
 ·right
  have V:=AG fA I D F m t h
  refine⟨l,h,V.1,V.2,?_,iL _ _ _ _ M N⟩
  unfold kB
  rw[iL _ _ _ _ M N]
 ·left
  have H:=(pD I fA F D t m z.1.symm h).2
  rw[←z.1]at H
  refine⟨l,if d then-1 else 1,1,?_,.inl ⟨rfl,h⟩,z.2,ew h,?_⟩
  ·cases d<;>simp
  ·rw[z.1,←z.1,H];cases d<;>rfl
theorem Ez{neg:Bool}{L:List Nat}{m:Int}(l:bP L)(d:neg=decide (m<0))(f:an L=m.natAbs):uK neg L.length=fm m:=by
 unfold uK
 rcases Int.lt_trichotomy m 0 with h|h|h
 ·rw[d,decide_eq_true h,if_pos rfl,cG h]
 ·subst h
  have:L= []:=(aL L l).1 (by rw[f];rfl)
  rw[d,this]
  rfl
 ·have t:L.length≠0:=fun e=>by
   have:L= []:=List.length_eq_zero_iff.1 e
   rw[this]at f;simp[an]at f;omega
  rw[d,decide_eq_false (by omega),if_neg (by decide),if_neg t,cH h]
theorem wM(z:Int):fm (oM z)=fm z:=by
 by_cases h:z=0
 ·subst h;rw[cw]
 ·have:=(fG z h).1
  conv=>rhs;rw[this]
  rw[iM]
theorem ni(n:Bool)(k:Nat):gS n k= -1∨gS n k=0∨gS n k=1:=by
 unfold gS
 split
 ·exact .inr (.inl rfl)
 ·cases n
  ·exact .inr (.inr rfl)
  ·exact .inl rfl
theorem qD(t z:Bool)(ao G:Option Addr)(H I:Nat)(A B:List Nat)(x y:Int)(w:World)(hA:ag w ao H A)(hB:ag w G I B)(a4:kn t A x=true)(a6:kn z B y=true):
  Calls Tryz.prog 90 #[.agg #[.bool t,.slice ao A.length H,.int .i64 x],.agg #[.bool z,.slice G B.length I,.int .i64 y]] w fun r d=>r=.returned (.int .i64 (kB (af t A) x (af z B) y))∧Below w.heap.size w d:=by
 have ak:=aa (AH hA.2.1 hB.2.1 a4 a6)
 obtain⟨ra,la,bi,bj,zx⟩:=bT a4
 obtain⟨rb,lb,bm,bn,zy⟩:=bT a6
 have am:=aa (fun d=>li t ao H A.length x d)
 have ax:=aa (fun d=>li z G I B.length y d)
 rw[AE ra,←j5 ra]at am
 rw[AE rb,←j5 rb]at ax
 have a0:=aa (fun d h=>m8 t ao H A x d h (by omega) (by omega))
 have a1:=aa (fun d h=>m8 z G I B y d h (by omega) (by omega))
 have ae:=aa (fun(Q:bO (af t A) x (af z B) y=min x y) (h1:eD (af t A) x (min x y)=0) (h2:eD (af z B) y (min x y)=0) d h h'=>AC t z ao G H I A B x y d h h' ra rb ⟨bi,bj⟩ ⟨bm,bn⟩ (by rw[ng,Q];exact h1) (by rw[ng,Ex,Q];exact h2))
 have HZ:=aa (fun(Q:bO (af t A) x (af z B) y=min x y)=>show fm (oM (dU (af t A) x (-af z B) y))=bJ (up (af t A) x (min x y)) (up (af z B) y (min x y)) by
  rw[wM,nh]
  unfold dU
  rw[ng,Q,AD,Int.sub_eq_add_neg])
 have a2:=aa (ni t A.length);have a3:=aa (ni z B.length)
 clear a4 a6 zx zy ra rb
 generalize oE (dU (af t A) x (-af z B) y) (bO (af t A) x (-af z B) y)=oe at*
 generalize oM (dU (af t A) x (-af z B) y)=om at*
 generalize kB (af t A) x (af z B) y=cv at*
 generalize eD (af t A) x (min x y)=ea at*
 generalize eD (af z B) y (min x y)=eb at*
 generalize up (af t A) x (min x y)=za at*
 generalize up (af z B) y (min x y)=zb at*
 generalize gT A x=ta at*
 generalize gT B y=tb at*
 generalize gS t A.length=bt at*
 generalize gS z B.length=bv at*
 generalize bO (af t A) x (af z B) y=l at*
 have ba:Below w.heap.size w ((w.alloc (.cells #[.bool t,.slice ao A.length H,.int .i64 x] 47)).alloc (.cells #[.bool z,.slice G B.length I,.int .i64 y] 47)):=((Below.refl _ _).alloc (Nat.le_refl _) _).alloc (by simp) _
 have D:az ((w.alloc (.cells #[.bool t,.slice ao A.length H,.int .i64 x] 47)).alloc (.cells #[.bool z,.slice G B.length I,.int .i64 y] 47)) w.heap.size (.bool t) (.slice ao A.length H) (.int .i64 x):=(az.new _ _ _ _).old _
 have F:az ((w.alloc (.cells #[.bool t,.slice ao A.length H,.int .i64 x] 47)).alloc (.cells #[.bool z,.slice G B.length I,.int .i64 y] 47)) (w.heap.size+1) (.bool z) (.slice G B.length I) (.int .i64 y):=by
  have:=az.new (w.alloc (.cells #[.bool t,.slice ao A.length H,.int .i64 x] 47)) (.bool z) (.slice G B.length I) (.int .i64 y)
  simpa using this
 have Y:=aa ba;have K:=aa D;have L:=aa F
 clear ba D F
 rcases uH ak with⟨a7,_,hc⟩|⟨aj,s,c,hs,hc,rfl,bq,Z⟩|⟨aj,br,h1,h2,Z,Q⟩
 ·clear ak a0 a1 ae HZ
  rcases uH a2 with rfl|rfl|rfl<;>rcases uH a3 with rfl|rfl|rfl
  all_goals first|exact absurd rfl a7|skip
  all_goals
   have Z:cv=_:=hc.symm
   clear a7 hc a2 a3
   simp only[show min (1:Int) (max (-1) (-1-0))= -1 by decide,show min (1:Int) (max (-1) (-1-1))= -1 by decide,show min (1:Int) (max (-1) (0- -1))=1 by decide,show min (1:Int) (max (-1) (0-1))= -1 by decide,show min (1:Int) (max (-1) (1- -1))=1 by decide,show min (1:Int) (max (-1) (1-0))=1 by decide]at Z
   subst Z
   go_enter Tryz.func90,Tryz.ntmps90
   go_wp2_with fail
   refine au (fun W=>Below w.heap.size w W∧az W w.heap.size (.bool t) (.slice ao A.length H) (.int .i64 x)∧az W (w.heap.size+1) (.bool z) (.slice G B.length I) (.int .i64 y)) ⟨uH Y,uH K,uH L⟩ ?_
   clear Y K L
   rintro m ⟨N,D,F⟩
   have hK:∀d,Below m.heap.size m d→Below m.heap.size m d∧d.cell? ⟨w.heap.size,0,none⟩=some (.bool t)∧d.cell? ⟨w.heap.size,1,none⟩=some (.slice ao A.length H)∧d.cell? ⟨w.heap.size,2,none⟩=some (.int .i64 x)∧d.cell? ⟨w.heap.size+1,0,none⟩=some (.bool z)∧d.cell? ⟨w.heap.size+1,1,none⟩=some (.slice G B.length I)∧d.cell? ⟨w.heap.size+1,2,none⟩=some (.int .i64 y):=fun d h=>
    ⟨h,(D.all h).c0,(D.all h).c1,(D.all h).c2,(F.all h).c0,(F.all h).c1,(F.all h).c2⟩
   have U:=aa hK
   have HA:=aa (hA.below N);have HB:=aa (hB.below N);have V:=aa N;have K:=aa D;have L:=aa F
   clear hK N D F
   go_region_held3(fun d=>Below m.heap.size m d∧d.cell? ⟨w.heap.size,0,none⟩=some (.bool t)∧d.cell? ⟨w.heap.size,1,none⟩=some (.slice ao A.length H)∧d.cell? ⟨w.heap.size,2,none⟩=some (.int .i64 x)∧d.cell? ⟨w.heap.size+1,0,none⟩=some (.bool z)∧d.cell? ⟨w.heap.size+1,1,none⟩=some (.slice G B.length I)∧d.cell? ⟨w.heap.size+1,2,none⟩=some (.int .i64 y))
    (first|exact uH U _ (Below.refl _ _).drew|exact uH U _ (by assumption))
    (first|(go_at_call_of 142 (Value.agg #[.bool t,.slice ao A.length H,.int .i64 x]);refine(uH am _).mono ?_;rintro e M ⟨rfl,f⟩;have O:Below m.heap.size m M:=Below.trans (And.left (by assumption)) (f.mono (Below.size (And.left (by assumption))));clear f)|(go_at_call_of 142 (Value.agg #[.bool z,.slice G B.length I,.int .i64 y]);refine(uH ax _).mono ?_;rintro e M ⟨rfl,f⟩;have O:Below m.heap.size m M:=Below.trans (And.left (by assumption)) (f.mono (Below.size (And.left (by assumption))));clear f))
   go_wp2_with fail
   have X:Below m.heap.size m M:=And.left (by assumption)
   have b9:=(uH V).trans (X.mono (uH V).size);have x9:=(uH K).all X;have y9:=(uH L).all X
   clear U HA HB V K L X
   have Y:=aa b9;have K:=aa x9;have L:=aa y9
   clear b9 x9 y9
   refine au (fun W=>Below w.heap.size w W∧az W w.heap.size (.bool t) (.slice ao A.length H) (.int .i64 x)∧az W (w.heap.size+1) (.bool z) (.slice G B.length I) (.int .i64 y)) ⟨uH Y,uH K,uH L⟩ ?_
   clear Y K L
   rintro m ⟨N,D,F⟩
   have hK:∀d,Below m.heap.size m d→Below m.heap.size m d∧d.cell? ⟨w.heap.size,0,none⟩=some (.bool t)∧d.cell? ⟨w.heap.size,1,none⟩=some (.slice ao A.length H)∧d.cell? ⟨w.heap.size,2,none⟩=some (.int .i64 x)∧d.cell? ⟨w.heap.size+1,0,none⟩=some (.bool z)∧d.cell? ⟨w.heap.size+1,1,none⟩=some (.slice G B.length I)∧d.cell? ⟨w.heap.size+1,2,none⟩=some (.int .i64 y):=fun d h=>
    ⟨h,(D.all h).c0,(D.all h).c1,(D.all h).c2,(F.all h).c0,(F.all h).c1,(F.all h).c2⟩
   have U:=aa hK
   have HA:=aa (hA.below N);have HB:=aa (hB.below N);have V:=aa N;have K:=aa D;have L:=aa F
   clear hK N D F
   go_region_held3(fun d=>Below m.heap.size m d∧d.cell? ⟨w.heap.size,0,none⟩=some (.bool t)∧d.cell? ⟨w.heap.size,1,none⟩=some (.slice ao A.length H)∧d.cell? ⟨w.heap.size,2,none⟩=some (.int .i64 x)∧d.cell? ⟨w.heap.size+1,0,none⟩=some (.bool z)∧d.cell? ⟨w.heap.size+1,1,none⟩=some (.slice G B.length I)∧d.cell? ⟨w.heap.size+1,2,none⟩=some (.int .i64 y))
    (first|exact uH U _ (Below.refl _ _).drew|exact uH U _ (by assumption))
    (first|(go_at_call_of 142 (Value.agg #[.bool t,.slice ao A.length H,.int .i64 x]);refine(uH am _).mono ?_;rintro e M ⟨rfl,f⟩;have O:Below m.heap.size m M:=Below.trans (And.left (by assumption)) (f.mono (Below.size (And.left (by assumption))));clear f)|(go_at_call_of 142 (Value.agg #[.bool z,.slice G B.length I,.int .i64 y]);refine(uH ax _).mono ?_;rintro e M ⟨rfl,f⟩;have O:Below m.heap.size m M:=Below.trans (And.left (by assumption)) (f.mono (Below.size (And.left (by assumption))));clear f))
   go_wp2
   go_ret
   exact⟨rfl,(uH V).trans (Below.mono (And.left (by assumption)) (uH V).size)⟩
 ·subst aj
  have bb:=aa Z
  clear ak ae HZ a2 a3 bq Z
  rcases hs with rfl|rfl
  all_goals
   rcases hc with⟨rfl,ht⟩|⟨rfl,ht⟩
  all_goals
   have Z:=uH bb
   simp only[show(1:Int)*1=1 by decide,show(1:Int)* -1= -1 by decide,show(-1:Int)*1= -1 by decide,show(-1:Int)* -1=1 by decide]at Z
   subst Z
   have a7:(ta != tb)=true:=by rw[bne_iff_ne];omega
   first|(have g:decide (tb<ta)=true:=decide_eq_true (by omega))|(have g:decide (tb<ta)=false:=decide_eq_false (by omega))
   clear bb
   go_enter Tryz.func90,Tryz.ntmps90
   go_wp2_with fail
   refine au (fun W=>Below w.heap.size w W∧az W w.heap.size (.bool t) (.slice ao A.length H) (.int .i64 x)∧az W (w.heap.size+1) (.bool z) (.slice G B.length I) (.int .i64 y)) ⟨uH Y,uH K,uH L⟩ ?_
   clear Y K L
   rintro m ⟨N,D,F⟩
   have hK:∀d,Below m.heap.size m d→Below m.heap.size m d∧d.cell? ⟨w.heap.size,0,none⟩=some (.bool t)∧d.cell? ⟨w.heap.size,1,none⟩=some (.slice ao A.length H)∧d.cell? ⟨w.heap.size,2,none⟩=some (.int .i64 x)∧d.cell? ⟨w.heap.size+1,0,none⟩=some (.bool z)∧d.cell? ⟨w.heap.size+1,1,none⟩=some (.slice G B.length I)∧d.cell? ⟨w.heap.size+1,2,none⟩=some (.int .i64 y):=fun d h=>
    ⟨h,(D.all h).c0,(D.all h).c1,(D.all h).c2,(F.all h).c0,(F.all h).c1,(F.all h).c2⟩
   have U:=aa hK
   have HA:=aa (hA.below N);have HB:=aa (hB.below N);have V:=aa N;have K:=aa D;have L:=aa F
   clear hK N D F
   go_region_held3(fun d=>Below m.heap.size m d∧d.cell? ⟨w.heap.size,0,none⟩=some (.bool t)∧d.cell? ⟨w.heap.size,1,none⟩=some (.slice ao A.length H)∧d.cell? ⟨w.heap.size,2,none⟩=some (.int .i64 x)∧d.cell? ⟨w.heap.size+1,0,none⟩=some (.bool z)∧d.cell? ⟨w.heap.size+1,1,none⟩=some (.slice G B.length I)∧d.cell? ⟨w.heap.size+1,2,none⟩=some (.int .i64 y))
    (first|exact uH U _ (Below.refl _ _).drew|exact uH U _ (by assumption))
    (first|(go_at_call_of 142 (Value.agg #[.bool t,.slice ao A.length H,.int .i64 x]);refine(uH am _).mono ?_;rintro e M ⟨rfl,f⟩;have O:Below m.heap.size m M:=Below.trans (And.left (by assumption)) (f.mono (Below.size (And.left (by assumption))));clear f)|(go_at_call_of 142 (Value.agg #[.bool z,.slice G B.length I,.int .i64 y]);refine(uH ax _).mono ?_;rintro e M ⟨rfl,f⟩;have O:Below m.heap.size m M:=Below.trans (And.left (by assumption)) (f.mono (Below.size (And.left (by assumption))));clear f))
   go_wp2_with fail
   have X:Below m.heap.size m M:=And.left (by assumption)
   have b9:=(uH V).trans (X.mono (uH V).size);have x9:=(uH K).all X;have y9:=(uH L).all X
   clear U HA HB V K L X
   have Y:=aa b9;have K:=aa x9;have L:=aa y9
   clear b9 x9 y9
   refine au (fun W=>Below w.heap.size w W∧az W w.heap.size (.bool t) (.slice ao A.length H) (.int .i64 x)∧az W (w.heap.size+1) (.bool z) (.slice G B.length I) (.int .i64 y)) ⟨uH Y,uH K,uH L⟩ ?_
   clear Y K L
   rintro m ⟨N,D,F⟩
   have hK:∀d,Below m.heap.size m d→Below m.heap.size m d∧d.cell? ⟨w.heap.size,0,none⟩=some (.bool t)∧d.cell? ⟨w.heap.size,1,none⟩=some (.slice ao A.length H)∧d.cell? ⟨w.heap.size,2,none⟩=some (.int .i64 x)∧d.cell? ⟨w.heap.size+1,0,none⟩=some (.bool z)∧d.cell? ⟨w.heap.size+1,1,none⟩=some (.slice G B.length I)∧d.cell? ⟨w.heap.size+1,2,none⟩=some (.int .i64 y):=fun d h=>
    ⟨h,(D.all h).c0,(D.all h).c1,(D.all h).c2,(F.all h).c0,(F.all h).c1,(F.all h).c2⟩
   have U:=aa hK
   have HA:=aa (hA.below N);have HB:=aa (hB.below N);have V:=aa N;have K:=aa D;have L:=aa F
   clear hK N D F
   go_region_held3(fun d=>Below m.heap.size m d∧d.cell? ⟨w.heap.size,0,none⟩=some (.bool t)∧d.cell? ⟨w.heap.size,1,none⟩=some (.slice ao A.length H)∧d.cell? ⟨w.heap.size,2,none⟩=some (.int .i64 x)∧d.cell? ⟨w.heap.size+1,0,none⟩=some (.bool z)∧d.cell? ⟨w.heap.size+1,1,none⟩=some (.slice G B.length I)∧d.cell? ⟨w.heap.size+1,2,none⟩=some (.int .i64 y))
    (first|exact uH U _ (Below.refl _ _).drew|exact uH U _ (by assumption))
    (first|(go_at_call_of 143 (Value.agg #[.bool t,.slice ao A.length H,.int .i64 x]);refine(uH a0 _ ((uH HA).below (And.left (by assumption)))).mono ?_;rintro e M ⟨rfl,f⟩;have O:Below m.heap.size m M:=Below.trans (And.left (by assumption)) (f.mono (Below.size (And.left (by assumption))));clear f)|(go_at_call_of 143 (Value.agg #[.bool z,.slice G B.length I,.int .i64 y]);refine(uH a1 _ ((uH HB).below (And.left (by assumption)))).mono ?_;rintro e M ⟨rfl,f⟩;have O:Below m.heap.size m M:=Below.trans (And.left (by assumption)) (f.mono (Below.size (And.left (by assumption))));clear f))
   go_wp2_with fail
   have X:Below m.heap.size m M:=And.left (by assumption)
   have b9:=(uH V).trans (X.mono (uH V).size);have x9:=(uH K).all X;have y9:=(uH L).all X
   clear U HA HB V K L X
   have Y:=aa b9;have K:=aa x9;have L:=aa y9
   clear b9 x9 y9
   refine au (fun W=>Below w.heap.size w W∧az W w.heap.size (.bool t) (.slice ao A.length H) (.int .i64 x)∧az W (w.heap.size+1) (.bool z) (.slice G B.length I) (.int .i64 y)) ⟨uH Y,uH K,uH L⟩ ?_
   clear Y K L
   rintro m ⟨N,D,F⟩
   have hK:∀d,Below m.heap.size m d→Below m.heap.size m d∧d.cell? ⟨w.heap.size,0,none⟩=some (.bool t)∧d.cell? ⟨w.heap.size,1,none⟩=some (.slice ao A.length H)∧d.cell? ⟨w.heap.size,2,none⟩=some (.int .i64 x)∧d.cell? ⟨w.heap.size+1,0,none⟩=some (.bool z)∧d.cell? ⟨w.heap.size+1,1,none⟩=some (.slice G B.length I)∧d.cell? ⟨w.heap.size+1,2,none⟩=some (.int .i64 y):=fun d h=>
    ⟨h,(D.all h).c0,(D.all h).c1,(D.all h).c2,(F.all h).c0,(F.all h).c1,(F.all h).c2⟩
   have U:=aa hK
   have HA:=aa (hA.below N);have HB:=aa (hB.below N);have V:=aa N;have K:=aa D;have L:=aa F
   clear hK N D F
   go_region_held3(fun d=>Below m.heap.size m d∧d.cell? ⟨w.heap.size,0,none⟩=some (.bool t)∧d.cell? ⟨w.heap.size,1,none⟩=some (.slice ao A.length H)∧d.cell? ⟨w.heap.size,2,none⟩=some (.int .i64 x)∧d.cell? ⟨w.heap.size+1,0,none⟩=some (.bool z)∧d.cell? ⟨w.heap.size+1,1,none⟩=some (.slice G B.length I)∧d.cell? ⟨w.heap.size+1,2,none⟩=some (.int .i64 y))
    (first|exact uH U _ (Below.refl _ _).drew|exact uH U _ (by assumption))
    (first|(go_at_call_of 143 (Value.agg #[.bool t,.slice ao A.length H,.int .i64 x]);refine(uH a0 _ ((uH HA).below (And.left (by assumption)))).mono ?_;rintro e M ⟨rfl,f⟩;have O:Below m.heap.size m M:=Below.trans (And.left (by assumption)) (f.mono (Below.size (And.left (by assumption))));clear f)|(go_at_call_of 143 (Value.agg #[.bool z,.slice G B.length I,.int .i64 y]);refine(uH a1 _ ((uH HB).below (And.left (by assumption)))).mono ?_;rintro e M ⟨rfl,f⟩;have O:Below m.heap.size m M:=Below.trans (And.left (by assumption)) (f.mono (Below.size (And.left (by assumption))));clear f)|(go_at_call_of 142 (Value.agg #[.bool t,.slice ao A.length H,.int .i64 x]);refine(uH am _).mono ?_;rintro e M ⟨rfl,f⟩;have O:Below m.heap.size m M:=Below.trans (And.left (by assumption)) (f.mono (Below.size (And.left (by assumption))));clear f)|(go_at_call_of 142 (Value.agg #[.bool z,.slice G B.length I,.int .i64 y]);refine(uH ax _).mono ?_;rintro e M ⟨rfl,f⟩;have O:Below m.heap.size m M:=Below.trans (And.left (by assumption)) (f.mono (Below.size (And.left (by assumption))));clear f))
   go_wp2
   go_ret
   exact⟨rfl,(uH V).trans (Below.mono (And.left (by assumption)) (uH V).size)⟩
 ·subst aj
  subst br
  have hz:=uH HZ Q
  rw[Z]at hz
  have be:=aa hz
  have aI:=aa (uH ae Q h1 h2)
  have ae:=aI
  clear ak a2 a3 HZ Q h1 h2 Z hz aI
  go_enter Tryz.func90,Tryz.ntmps90
  go_wp2_with fail
  refine au (fun W=>Below w.heap.size w W∧az W w.heap.size (.bool t) (.slice ao A.length H) (.int .i64 x)∧az W (w.heap.size+1) (.bool z) (.slice G B.length I) (.int .i64 y)) ⟨uH Y,uH K,uH L⟩ ?_
  clear Y K L
  rintro m ⟨N,D,F⟩
  have hK:∀d,Below m.heap.size m d→Below m.heap.size m d∧d.cell? ⟨w.heap.size,0,none⟩=some (.bool t)∧d.cell? ⟨w.heap.size,1,none⟩=some (.slice ao A.length H)∧d.cell? ⟨w.heap.size,2,none⟩=some (.int .i64 x)∧d.cell? ⟨w.heap.size+1,0,none⟩=some (.bool z)∧d.cell? ⟨w.heap.size+1,1,none⟩=some (.slice G B.length I)∧d.cell? ⟨w.heap.size+1,2,none⟩=some (.int .i64 y):=fun d h=>
   ⟨h,(D.all h).c0,(D.all h).c1,(D.all h).c2,(F.all h).c0,(F.all h).c1,(F.all h).c2⟩
  have U:=aa hK
  have HA:=aa (hA.below N);have HB:=aa (hB.below N);have V:=aa N;have K:=aa D;have L:=aa F
  clear hK N D F
  go_region_held3(fun d=>Below m.heap.size m d∧d.cell? ⟨w.heap.size,0,none⟩=some (.bool t)∧d.cell? ⟨w.heap.size,1,none⟩=some (.slice ao A.length H)∧d.cell? ⟨w.heap.size,2,none⟩=some (.int .i64 x)∧d.cell? ⟨w.heap.size+1,0,none⟩=some (.bool z)∧d.cell? ⟨w.heap.size+1,1,none⟩=some (.slice G B.length I)∧d.cell? ⟨w.heap.size+1,2,none⟩=some (.int .i64 y))
   (first|exact uH U _ (Below.refl _ _).drew|exact uH U _ (by assumption))
   (first|(go_at_call_of 142 (Value.agg #[.bool t,.slice ao A.length H,.int .i64 x]);refine(uH am _).mono ?_;rintro e M ⟨rfl,f⟩;have O:Below m.heap.size m M:=Below.trans (And.left (by assumption)) (f.mono (Below.size (And.left (by assumption))));clear f)|(go_at_call_of 142 (Value.agg #[.bool z,.slice G B.length I,.int .i64 y]);refine(uH ax _).mono ?_;rintro e M ⟨rfl,f⟩;have O:Below m.heap.size m M:=Below.trans (And.left (by assumption)) (f.mono (Below.size (And.left (by assumption))));clear f))
  go_wp2_with fail
  have X:Below m.heap.size m M:=And.left (by assumption)
  have b9:=(uH V).trans (X.mono (uH V).size);have x9:=(uH K).all X;have y9:=(uH L).all X
  clear U HA HB V K L X
  have Y:=aa b9;have K:=aa x9;have L:=aa y9
  clear b9 x9 y9
  refine au (fun W=>Below w.heap.size w W∧az W w.heap.size (.bool t) (.slice ao A.length H) (.int .i64 x)∧az W (w.heap.size+1) (.bool z) (.slice G B.length I) (.int .i64 y)) ⟨uH Y,uH K,uH L⟩ ?_
  clear Y K L
  rintro m ⟨N,D,F⟩
  have hK:∀d,Below m.heap.size m d→Below m.heap.size m d∧d.cell? ⟨w.heap.size,0,none⟩=some (.bool t)∧d.cell? ⟨w.heap.size,1,none⟩=some (.slice ao A.length H)∧d.cell? ⟨w.heap.size,2,none⟩=some (.int .i64 x)∧d.cell? ⟨w.heap.size+1,0,none⟩=some (.bool z)∧d.cell? ⟨w.heap.size+1,1,none⟩=some (.slice G B.length I)∧d.cell? ⟨w.heap.size+1,2,none⟩=some (.int .i64 y):=fun d h=>
   ⟨h,(D.all h).c0,(D.all h).c1,(D.all h).c2,(F.all h).c0,(F.all h).c1,(F.all h).c2⟩
  have U:=aa hK
  have HA:=aa (hA.below N);have HB:=aa (hB.below N);have V:=aa N;have K:=aa D;have L:=aa F
  clear hK N D F
  go_region_held3(fun d=>Below m.heap.size m d∧d.cell? ⟨w.heap.size,0,none⟩=some (.bool t)∧d.cell? ⟨w.heap.size,1,none⟩=some (.slice ao A.length H)∧d.cell? ⟨w.heap.size,2,none⟩=some (.int .i64 x)∧d.cell? ⟨w.heap.size+1,0,none⟩=some (.bool z)∧d.cell? ⟨w.heap.size+1,1,none⟩=some (.slice G B.length I)∧d.cell? ⟨w.heap.size+1,2,none⟩=some (.int .i64 y))
   (first|exact uH U _ (Below.refl _ _).drew|exact uH U _ (by assumption))
   (first|(go_at_call_of 143 (Value.agg #[.bool t,.slice ao A.length H,.int .i64 x]);refine(uH a0 _ ((uH HA).below (And.left (by assumption)))).mono ?_;rintro e M ⟨rfl,f⟩;have O:Below m.heap.size m M:=Below.trans (And.left (by assumption)) (f.mono (Below.size (And.left (by assumption))));clear f)|(go_at_call_of 143 (Value.agg #[.bool z,.slice G B.length I,.int .i64 y]);refine(uH a1 _ ((uH HB).below (And.left (by assumption)))).mono ?_;rintro e M ⟨rfl,f⟩;have O:Below m.heap.size m M:=Below.trans (And.left (by assumption)) (f.mono (Below.size (And.left (by assumption))));clear f))
  go_wp2_with fail
  have X:Below m.heap.size m M:=And.left (by assumption)
  have b9:=(uH V).trans (X.mono (uH V).size);have x9:=(uH K).all X;have y9:=(uH L).all X
  clear U HA HB V K L X
  have Y:=aa b9;have K:=aa x9;have L:=aa y9
  clear b9 x9 y9
  refine(uH ae _ (hA.below (uH Y)) (hB.below (uH Y))).mono ?_
  rintro r w5 ⟨u,rfl,iu,f⟩
  obtain⟨n5,a5,c5,L5,rfl,q1,q2,q3,q4,q5⟩:=iu.parts
  have a9:=Ez q2 q3 q4
  rw[uH be]at a9
  have bc:=aa (fun d=>li n5 a5 c5 L5.length oe d)
  rw[a9]at bc
  have B1:=aa ((uH Y).trans (f.mono (uH Y).size))
  clear q1 q2 q3 q4 q5 iu f a9
  go_wp2_with(go_at_call 142;refine(uH bc _).mono ?_;rintro r w6 ⟨rfl,f⟩)
  go_ret
  exact⟨rfl,(uH B1).trans (f.mono (uH B1).size)⟩
end Go.Proofs.YtlnphkioddknfaaGreatDoor
namespace Go.Proofs.YtlnphkioddknfaaGreatDoor
open Go.RowKit
theorem EB(k:Nat):(2:Int)^k≠0:=Int.pow_ne_zero (by decide)
theorem kC(z:Int)(k:Nat)(e:Int):oM (z*2^k)=oM z∧oE (z*2^k) e=oE z (e+k):=by
 by_cases h:z=0
 ·subst h;rw[Int.zero_mul,cw,cQ,cQ];exact⟨rfl,rfl⟩
 ·have f:z*2^k≠0:=fun e=>by rcases Int.mul_eq_zero.1 e with e|e;exact h e;exact EB k e
  have d:=fG z h
  have l:iY (z*2^k) (oM z) (tz z.natAbs+k):=by
   refine⟨?_,d.2⟩
   conv=>lhs;rw[d.1]
   rw[Int.mul_assoc,←Int.pow_add]
  obtain⟨_,m,t⟩:=l.eq
  refine⟨m.symm,?_⟩
  rw[dI _ _ f,dI _ _ h,←t]
  omega
theorem GP(z1 z2:Int):oM (z1*z2)=oM z1*oM z2:=by
 by_cases d:z1=0
 ·subst d;rw[Int.zero_mul,cw,Int.zero_mul]
 by_cases f:z2=0
 ·subst f;rw[Int.mul_zero,cw,Int.mul_zero]
 have a:=fG z1 d
 have b:=fG z2 f
 have h:iY (z1*z2) (oM z1*oM z2) (tz z1.natAbs+tz z2.natAbs):=by
  refine⟨?_,?_⟩
  ·conv=>lhs;rw[a.1,b.1]
   rw[Int.pow_add]
   simp only[Int.mul_assoc,Int.mul_left_comm]
  ·rw[Int.mul_emod,a.2,b.2];rfl
 exact h.eq.2.1.symm
theorem EF(z1 z2:Int)(d:z1≠0)(f:z2≠0):tz (z1*z2).natAbs=tz z1.natAbs+tz z2.natAbs:=by
 have a:=fG z1 d
 have b:=fG z2 f
 have h:iY (z1*z2) (oM z1*oM z2) (tz z1.natAbs+tz z2.natAbs):=by
  refine⟨?_,?_⟩
  ·conv=>lhs;rw[a.1,b.1]
   rw[Int.pow_add]
   simp only[Int.mul_assoc,Int.mul_left_comm]
  ·rw[Int.mul_emod,a.2,b.2];rfl
 exact h.eq.2.2.symm
def l9(lo:Int)(W:Nat)(z:Int):Prop:=z.natAbs<2^W∧-16384≤lo∧lo+W≤16384∧W≤16384
theorem l9.tzs{lo:Int}{W:Nat}{z:Int}(h:l9 lo W z)(d:z≠0):tz z.natAbs<W:=lU _ _ (by omega) h.1
theorem l9.tops{lo:Int}{W:Nat}{z:Int}(h:l9 lo W z):z.natAbs<dy:=qC h.1 h.2.2.2
theorem l9.right{lo:Int}{W:Nat}{z:Int}(h:l9 lo W z):qz (oM z) (oE z lo)=true∧(oM z).natAbs<dy:=by
 refine⟨?_,Nat.lt_of_le_of_lt (wI z) h.tops⟩
 unfold qz
 by_cases d:z=0
 ·subst d;rw[cw,cQ];rfl
 ·obtain⟨f,l⟩:=gJ z d
  have m:=h.tzs d
  obtain⟨_,t,y,_⟩:=h
  rw[if_neg f,dI _ _ d,decide_eq_true l,decide_eq_true (show-16384≤lo+(tz z.natAbs:Int)∧lo+(tz z.natAbs:Int)≤16384 by omega)]
  rfl
theorem nk(z lo:Int)(h:z≠0):oM z*2^(oE z lo-lo).toNat=z:=by
 rw[dI _ _ h,show(lo+(tz z.natAbs:Int)-lo).toNat=tz z.natAbs by omega]
 exact(fG z h).1.symm
theorem nl(m e:Int)(h:qz m e=true):cP m e=0∧dM m e=m∧dX m e=e:=by
 unfold qz at h
 by_cases d:m=0
 ·subst d
  rw[if_pos rfl]at h
  have l:=of_decide_eq_true h
  subst l
  decide
 ·rw[if_neg d,Bool.and_eq_true]at h
  have t:=of_decide_eq_true h.1
  have D:=of_decide_eq_true h.2
  have y:iY m m 0:=⟨by simp,t⟩
  obtain⟨_,A,f⟩:=y.eq
  have z:lh m e=true:=by
   unfold lh
   rw[←f,decide_eq_true (show-32768≤e∧e≤32768 by omega),decide_eq_true (show-16384≤e+((0:Nat):Int)∧e+((0:Nat):Int)≤16384 by omega)]
   simp
  unfold cP dM dX
  rw[z,←A,dI _ _ d,←f]
  simp
theorem AJ{lo:Int}{W:Nat}{z1 z2:Int}(I:l9 lo W z1)(K:l9 lo W z2)(Y:l9 lo W (z1+z2)):
  r7 (oM z1) (oE z1 lo) (oM z2) (oE z2 lo)=0∧r8 (oM z1) (oE z1 lo) (oM z2) (oE z2 lo)=oM (z1+z2)∧r9 (oM z1) (oE z1 lo) (oM z2) (oE z2 lo)=oE (z1+z2) lo:=by
 have L:=I.right
 have M:=K.right
 have bE:∀m e,qz m e=true→-16384≤e∧e≤16384:=fun m e h=>by
  unfold qz at h
  by_cases h0:m=0
  ·rw[if_pos h0]at h;have:=of_decide_eq_true h;omega
  ·rw[if_neg h0,Bool.and_eq_true]at h;exact of_decide_eq_true h.2
 by_cases y:z1=0
 ·subst y
  rw[cw,cQ,Int.zero_add]
  obtain⟨G,p2,H⟩:=nd (oM z2) (oE z2 lo) (bE _ _ M.1) M.2
  rw[G,p2,H]
  exact nl _ _ M.1
 by_cases A:z2=0
 ·subst A
  rw[cw,cQ,Int.add_zero]
  obtain⟨G,p2,H⟩:=nf (oM z1) (oE z1 lo) (bE _ _ L.1) L.2 (gJ z1 y).1
  rw[G,p2,H]
  exact nl _ _ L.1
 have sa:=(gJ z1 y).1
 have sb:=(gJ z2 A).1
 have x1:=dI z1 lo y
 have x2:=dI z2 lo A
 have t1:=I.tzs y
 have t2:=K.tzs A
 have f:=I.tops
 obtain⟨_,l1,l2,l3⟩:=I
 have D:=iL (oM z1) (oE z1 lo) (oM z2) (oE z2 lo) sa sb
 obtain⟨l,X⟩:∃l,min (oE z1 lo) (oE z2 lo)=l:=⟨_,rfl⟩
 rw[X]at D
 have ae:lo≤l:=by omega
 obtain⟨k,hk⟩:∃k:Nat,(k:Int)=l-lo:=⟨(l-lo).toNat,by omega⟩
 have N:lo+(k:Int)=l:=by omega
 have u1:up (oM z1) (oE z1 lo) l*2^k=z1:=by
  conv=>rhs;rw[←nk z1 lo y]
  unfold up
  rw[Int.mul_assoc,←Int.pow_add]
  congr 2
  omega
 have u2:up (oM z2) (oE z2 lo) l*2^k=z2:=by
  conv=>rhs;rw[←nk z2 lo A]
  unfold up
  rw[Int.mul_assoc,←Int.pow_add]
  congr 2
  omega
 have t:=K.tops
 have O:oE z1 lo-l≤16384:=by clear f t;omega
 have Q:oE z2 lo-l≤16384:=by clear f t;omega
 have d:∀u z:Int,u*2^k=z→u.natAbs≤z.natAbs:=fun u z h=>by
  rw[←h,Int.natAbs_mul,Int.natAbs_pow]
  exact Nat.le_mul_of_pos_right _ (Nat.pow_pos (by decide))
 have hZ:dU (oM z1) (oE z1 lo) (oM z2) (oE z2 lo)*2^k=z1+z2:=by
  unfold dU
  rw[D,Int.add_mul,u1,u2]
 have e1:eD (oM z1) (oE z1 lo) l=0:=iK _ _ _ (Nat.lt_of_le_of_lt (d _ _ u1) f) O
 have e2:eD (oM z2) (oE z2 lo) l=0:=iK _ _ _ (Nat.lt_of_le_of_lt (d _ _ u2) t) Q
 have F:(dU (oM z1) (oE z1 lo) (oM z2) (oE z2 lo)).natAbs<dy:=Nat.lt_of_le_of_lt (d _ _ hZ) Y.tops
 obtain⟨G,p2,H⟩:=Ey (by rw[D];exact e1) (by rw[D];exact e2) F
 rw[G,p2,H,D]
 generalize dU (oM z1) (oE z1 lo) (oM z2) (oE z2 lo)=Z at*
 have U:=kC Z k lo
 rw[hZ]at U
 have hx:oE (z1+z2) lo=oE Z l:=by rw[U.2,N]
 have r3:=Y.right.1
 rw[U.1,hx]at r3⊢
 have V:-32768≤l∧l≤32768:=by clear f t F;omega
 exact(xT Z l V).1 r3
theorem ya{lo1 lo2:Int}{W1 W2 W:Nat}{z1 z2:Int}(y:l9 (lo1+lo2) W (z1*z2))(l:l9 lo1 W1 z1)(m:l9 lo2 W2 z2):
  (oM z1*oM z2).natAbs<dy∧cP (oM z1*oM z2) (oE z1 lo1+oE z2 lo2)=0∧dM (oM z1*oM z2) (oE z1 lo1+oE z2 lo2)=oM (z1*z2)∧dX (oM z1*oM z2) (oE z1 lo1+oE z2 lo2)=oE (z1*z2) (lo1+lo2):=by
 have t:=y.right
 rw[←GP]
 refine⟨t.2,?_⟩
 by_cases f:z1=0
 ·subst f
  have z:-16384≤oE z2 lo2∧oE z2 lo2≤16384:=by
   by_cases d:z2=0
   ·subst d;rw[cQ];decide
   ·have:=m.tzs d
    rw[dI _ _ d]
    have:=m.2
    omega
  rw[Int.zero_mul,cw,cQ,cQ,Int.zero_add]
  have h:lh 0 (oE z2 lo2)=true:=by unfold lh;rw[decide_eq_true (show-32768≤oE z2 lo2∧oE z2 lo2≤32768 by omega)];simp
  unfold cP dM dX
  rw[h]
  simp[cw,cQ]
 by_cases d:z2=0
 ·subst d
  have z:-16384≤oE z1 lo1∧oE z1 lo1≤16384:=by
   have:=l.tzs f
   rw[dI _ _ f]
   have:=l.2
   omega
  rw[Int.mul_zero,cw,cQ,cQ,Int.add_zero]
  have h:lh 0 (oE z1 lo1)=true:=by unfold lh;rw[decide_eq_true (show-32768≤oE z1 lo1∧oE z1 lo1≤32768 by omega)];simp
  unfold cP dM dX
  rw[h]
  simp[cw,cQ]
 have A:oE z1 lo1+oE z2 lo2=oE (z1*z2) (lo1+lo2):=by
  have D:z1*z2≠0:=fun e=>by rcases Int.mul_eq_zero.1 e with e|e;exact f e;exact d e
  rw[dI _ _ f,dI _ _ d,dI _ _ D,EF z1 z2 f d]
  omega
 rw[A]
 exact nl _ _ t.1
theorem JF{w:World}{v u:Value}{lo:Int}{W:Nat}{z1 z2:Int}(y:aG w v (oM z1) (oE z1 lo))(z:aG w u (oM z2) (oE z2 lo))(d:l9 lo W z1)(f:l9 lo W z2)(D:l9 lo W (z1+z2))(t:b7 w):
  Calls Tryz.prog 262 #[v,u] w fun r h=>mn h r 0 (oM (z1+z2)) (oE (z1+z2) lo)∧Below w.heap.size w h:=by
 obtain⟨F,ao,G,A,rfl,H,X,I,Y,l⟩:=y.right d.right.2
 obtain⟨K,L,M,B,rfl,N,Z,O,b4,m⟩:=z.right f.right.2
 rw[d.right.1]at l
 rw[f.right.1]at m
 have:=uL F K ao L G M A B _ _ w H N l m t
 obtain⟨Q,U,V⟩:=AJ d f D
 rwa[I,O,Q,U,V]at this
theorem JG{w:World}{v u:Value}{lo1 lo2:Int}{W1 W2 W:Nat}{z1 z2:Int}(D:aG w v (oM z1) (oE z1 lo1))(F:aG w u (oM z2) (oE z2 lo2))(d:l9 lo1 W1 z1)(f:l9 lo2 W2 z2)(G:l9 (lo1+lo2) W (z1*z2))(t:b7 w):
  Calls Tryz.prog 246 #[v,u] w fun r h=>mn h r 0 (oM (z1*z2)) (oE (z1*z2) (lo1+lo2))∧Below w.heap.size w h:=by
 obtain⟨H,ao,I,A,rfl,K,Y,l,Z,m⟩:=D.right d.right.2
 obtain⟨L,M,N,B,rfl,O,b2,y,b4,z⟩:=F.right f.right.2
 rw[d.right.1]at m
 rw[f.right.1]at z
 obtain⟨Q,U,V,X⟩:=ya G d f
 have:=uM H L ao M I N A B _ _ w K O m z (by rw[l,y];exact Q) t
 rwa[l,y,U,V,X]at this
end Go.Proofs.YtlnphkioddknfaaGreatDoor
