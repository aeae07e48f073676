/- Part 15 of the texts. -/
import Derived.Test.YtenpggicmfhhdaaGreatDoorParte14
set_option maxHeartbeats 4000000
namespace Go.Proofs.YtenpggicmfhhdaaGreatDoor
open Go.RowKit
def eR(z:Int):Int:=if z<0 then-1 else if z=0 then 0 else 1
def jS(sa x sb y:Int):Int:=bG (up sa x (bL sa x sb y)) (up sb y (bL sa x sb y))
theorem cw{u:Int}(h:u<0):eR u= -1:=by unfold eR;rw[if_pos h]
theorem ft:eR 0=0:=rfl
theorem cz{u:Int}(h:0<u):eR u=1:=by unfold eR;rw[if_neg (by omega),if_neg (by omega)]
theorem g8(s:Int)(k:Nat):eR (s*2^k)=eR s:=by
 have d:(0:Int)<2^k:=Int.pow_pos (by decide)
 rcases Int.lt_trichotomy s 0 with h|h|h
 ·rw[cw h,cw (Int.mul_neg_of_neg_of_pos h d)]
 ·subst h;rw[Int.zero_mul]
 ·rw[cz h,cz (Int.mul_pos h d)]
theorem ly(s x l:Int):eR (up s x l)=eR s:=g8 s _
theorem ju{n:Bool}{L:List Nat}(h:aw n L=true):gi n L.length=eR (ad n L):=by
 unfold gi
 have l:=aL h
 by_cases d:L.length=0
 ·rw[if_pos d,l.2 d];rfl
 ·have f:ad n L≠0:=fun e=>d (l.1 e)
  rw[if_neg d]
  unfold ad at f⊢
  cases n
  ·simp only[Bool.false_eq_true,if_false]at f⊢
   rw[cz (by omega)]
  ·simp only[if_true]at f⊢
   rw[cw (by omega)]
theorem yi{n:Bool}{L:List Nat}(h:aw n L=true):sH n L.length=eR (ad n L):=by
 rw[←ju h]
 unfold sH gi
 cases n
 ·rfl
 ·have:L.length≠0:=fun e=>(aA h).2.2 rfl (List.length_eq_zero_iff.1 e)
  simp[this]
theorem vC(u v:Int)(h:eR u≠eR v):bG (eR u) (eR v)=bG u v∧min 1 (max (-1) (eR u-eR v))=bG u v:=by
 rcases Int.lt_trichotomy u 0 with d|d|d<;>rcases Int.lt_trichotomy v 0 with f|f|f
 ·rw[cw d,cw f]at h;exact absurd rfl h
 ·subst f;rw[cw d,ft,dc d];decide
 ·rw[cw d,cz f,dc (show u<v by omega)];decide
 ·subst d;rw[cw f,ft,dU f];decide
 ·subst d;subst f;exact absurd rfl h
 ·subst d;rw[cz f,ft,dc f];decide
 ·rw[cz d,cw f,dU (show v<u by omega)];decide
 ·subst f;rw[cz d,ft,dU d];decide
 ·rw[cz d,cz f]at h;exact absurd rfl h
theorem yj(t y m d f l:Nat)(z:t<2^m)(A:2^(d-1)≤y)(D:1≤d)(h:m+f<d+l):t*2^f<y*2^l:=by
 have F:t*2^f<2^(m+f):=by rw[Nat.pow_add];exact Nat.mul_lt_mul_of_pos_right z (Nat.pow_pos (by decide))
 have G:2^(d-1+l)≤y*2^l:=by rw[Nat.pow_add];exact Nat.mul_le_mul_right _ A
 have H:2^(m+f)≤2^(d-1+l):=Nat.pow_le_pow_right (by decide) (by omega)
 omega
theorem uB(n:Bool)(L:List Nat)(x l:Int):up (ad n L) x l=sg n (ah L*2^(x-l).toNat):=by
 unfold up
 rw[de]
 unfold sg
 cases n
 ·simp
 ·simp[Int.neg_mul]
theorem vD(u v:Int):bG v u= -bG u v:=by
 unfold bG
 rcases Int.lt_trichotomy u v with h|h|h
 ·rw[if_neg (by omega),if_pos h,if_pos h];rfl
 ·subst h;simp
 ·rw[if_pos h,if_neg (by omega),if_pos h]
theorem mg(u v:Int):bG u v=eR (u-v):=by
 rcases Int.lt_trichotomy u v with h|h|h
 ·rw[dc h,cw (by omega)]
 ·subst h;rw[Bn rfl,Int.sub_self];rfl
 ·rw[dU h,cz (by omega)]
theorem oI{d f:Bool}{A B:List Nat}{x y:Int}(fA:bd A)(K:bd B)(t:aw d A=true)(z:aw f B=true)(D:A.length≠0)(F:B.length≠0)(L:d=f)(h:dn A+x<dn B+y):
  jS (ad d A) x (ad f B) y=(if d then 1 else-1)∧jS (ad f B) y (ad d A) x=(if d then-1 else 1):=by
 have G:ad d A≠0:=fun e=>D ((aL t).1 e)
 have H:ad f B≠0:=fun e=>F ((aL z).1 e)
 have M:=gI A fA (aA t).2.1 (fun e=>D (by rw[e];rfl))
 have I:=gI B K (aA z).2.1 (fun e=>F (by rw[e];rfl))
 rw[gH,gH]at h
 have m:∀l,l≤x→l≤y→bG (up (ad d A) x l) (up (ad f B) y l)=(if d then 1 else-1):=by
  intro l O Q
  have N:=yj (ah A) (ah B) (jk A) (jk B) (x-l).toNat (y-l).toNat M.2.2 I.2.1 I.1 (by omega)
  rw[uB,uB,←L]
  unfold sg
  cases d
  ·simp only[Bool.false_eq_true,if_false]
   exact dc (by omega)
  ·simp only[if_true]
   exact dU (by omega)
 constructor
 ·unfold jS
  rw[g7 _ _ _ _ G H]
  exact m _ (by omega) (by omega)
 ·unfold jS
  rw[g7 _ _ _ _ H G,vD,m _ (by omega) (by omega)]
  cases d<;>rfl
theorem yk{d l:Bool}{A B:List Nat}{x y:Int}(fA:bd A)(m:bd B)(t:aw d A=true)(z:aw l B=true)(D:A.length≠0)(F:B.length≠0)(h:dn A+x=dn B+y):
  d9 (ad d A) x (min x y)=0∧d9 (ad l B) y (min x y)=0:=by
 have bl:∀(n:Bool) (L:List Nat),bd L→aw n L=true→L.length≠0→1≤dn L∧dn L≤16384:=fun n L f r I=>by
  have s:=gI L f (aA r).2.1 (fun e=>I (by rw[e];rfl))
  have G:=(dw L f (aA r).2.1).2 (aA r).1
  have K:32*ko=16384:=rfl
  rw[sL]at G
  have H:=uz (ah L) (jk L) 0 (32*ko) s.1 s.2.1 s.2.2
  rw[Nat.pow_zero,Nat.mul_one]at H
  have:=H.1 G
  rw[gH]
  omega
 have M:=bl d A fA t D
 have N:=bl l B m z F
 rw[uA d A x _ fA t (fun e=>D (by rw[e];rfl)) (by omega),uA l B y _ m z (fun e=>F (by rw[e];rfl)) (by omega)]
 omega
attribute [local go_sem ↓] Go.wp_at_zero Go.wp_at_succ
theorem yl{d f:Bool}{A B:List Nat}{x y:Int}(fA:bd A)(I:bd B)(K:jF d A x=true)(L:jF f B y=true):
  (gi d A.length≠gi f B.length∧bG (gi d A.length) (gi f B.length)=jS (ad d A) x (ad f B) y∧min 1 (max (-1) (gi d A.length-gi f B.length))=jS (ad d A) x (ad f B) y)∨
  (gi d A.length=gi f B.length∧∃s c:Int,(s=1∨s= -1)∧((c=1∧gj B y<gj A x)∨(c= -1∧gj A x<gj B y))∧gi d A.length=s∧bG (gj A x) (gj B y)=c∧jS (ad d A) x (ad f B) y=s*c)∨
  (gi d A.length=gi f B.length∧gj A x=gj B y∧d9 (ad d A) x (min x y)=0∧d9 (ad f B) y (min x y)=0∧bG (up (ad d A) x (min x y)) (up (ad f B) y (min x y))=jS (ad d A) x (ad f B) y∧bL (ad d A) x (ad f B) y=min x y):=by
 obtain⟨D,_,Z,a2,X⟩:=bQ K
 obtain⟨F,_,b1,b2,Y⟩:=bQ L
 rw[ju D,ju F]
 by_cases l:eR (ad d A)=eR (ad f B)
 case neg=>
  left
  have h:=vC (up (ad d A) x (bL (ad d A) x (ad f B) y)) (up (ad f B) y (bL (ad d A) x (ad f B) y)) (by rw[ly,ly];exact l)
  rw[ly,ly]at h
  exact⟨l,h.1,h.2⟩
 right
 by_cases m:A.length=0
 ·have Q:=(aL D).2 m
  have T:ad f B=0:=by
   rw[Q,ft]at l
   rcases Int.lt_trichotomy (ad f B) 0 with h|h|h
   ·rw[cw h]at l;exact absurd l (by decide)
   ·exact h
   ·rw[cz h]at l;exact absurd l (by decide)
  have t:=(aL F).1 T
  right
  refine⟨l,by unfold gj;rw[if_pos m,if_pos t],?_⟩
  rw[Q,T,X m,Y t]
  refine⟨g6 _ _ _ (by rw[fk];exact lu) (by decide),g6 _ _ _ (by rw[fk];exact lu) (by decide),?_,by simp[bL]⟩
  unfold jS
  simp[fk]
 have M:ad d A≠0:=fun e=>m ((aL D).1 e)
 have N:ad f B≠0:=fun e=>by
  rw[e,ft]at l
  rcases Int.lt_trichotomy (ad d A) 0 with h|h|h
  ·rw[cw h]at l;exact absurd l (by decide)
  ·exact M h
  ·rw[cz h]at l;exact absurd l (by decide)
 have t:B.length≠0:=fun e=>N ((aL F).2 e)
 have z:d=f∧eR (ad d A)=if d then-1 else 1:=by
  have G:=ju D
  have O:=ju F
  unfold gi at G O
  rw[if_neg m]at G
  rw[if_neg t]at O
  refine⟨?_,G.symm⟩
  rw[←G,←O]at l
  cases d<;>cases f<;>first|rfl|exact absurd l (by decide)
 have V:gj A x=dn A+x:=by unfold gj;rw[if_neg m]
 have tB:gj B y=dn B+y:=by unfold gj;rw[if_neg t]
 rw[V,tB]
 rcases Int.lt_trichotomy (dn A+x) (dn B+y)with h|h|h
 ·left
  have H:=(oI fA I D F m t z.1 h).1
  refine⟨l,if d then-1 else 1,-1,?_,.inr ⟨rfl,h⟩,z.2,dc h,?_⟩
  ·cases d<;>simp
  ·rw[H];cases d<;>rfl
 ·right
  have U:=yk fA I D F m t h
  refine⟨l,h,U.1,U.2,?_,g7 _ _ _ _ M N⟩
  unfold jS
  rw[g7 _ _ _ _ M N]
 ·left
  have H:=(oI I fA F D t m z.1.symm h).2
  rw[←z.1]at H
  refine⟨l,if d then-1 else 1,1,?_,.inl ⟨rfl,h⟩,z.2,dU h,?_⟩
  ·cases d<;>simp
  ·rw[z.1,←z.1,H];cases d<;>rfl
theorem BM{neg:Bool}{L:List Nat}{m:Int}(l:bM L)(d:neg=decide (m<0))(f:ah L=m.natAbs):sH neg L.length=eR m:=by
 unfold sH
 rcases Int.lt_trichotomy m 0 with h|h|h
 ·rw[d,decide_eq_true h,if_pos rfl,cw h]
 ·subst h
  have:L= []:=(aM L l).1 (by rw[f];rfl)
  rw[d,this]
  rfl
 ·have t:L.length≠0:=fun e=>by
   have:L= []:=List.length_eq_zero_iff.1 e
   rw[this]at f;simp[ah]at f;omega
  rw[d,decide_eq_false (by omega),if_neg (by decide),if_neg t,cz h]
theorem uC(z:Int):eR (oM z)=eR z:=by
 by_cases h:z=0
 ·subst h;rw[cg]
 ·have:=(fg z h).1
  conv=>rhs;rw[this]
  rw[g8]
theorem mh(n:Bool)(k:Nat):gi n k= -1∨gi n k=0∨gi n k=1:=by
 unfold gi
 split
 ·exact .inr (.inl rfl)
 ·cases n
  ·exact .inr (.inr rfl)
  ·exact .inl rfl
theorem pu(t z:Bool)(G H:Option Addr)(I K:Nat)(A B:List Nat)(x y:Int)(w:World)(hA:af w G I A)(hB:af w H K B)(a4:jF t A x=true)(a6:jF z B y=true):
  Calls Tryz.prog 144 #[.agg #[.bool t,.slice G A.length I,.int .i64 x],.agg #[.bool z,.slice H B.length K,.int .i64 y]] w fun r d=>r=.returned (.int .i64 (jS (ad t A) x (ad z B) y))∧Below w.heap.size w d:=by
 have am:=aa (yl hA.2.1 hB.2.1 a4 a6)
 obtain⟨ra,la,bi,bj,zx⟩:=bQ a4
 obtain⟨rb,lb,bm,bn,zy⟩:=bQ a6
 have av:=aa (fun d=>ku t G I A.length x d)
 have ax:=aa (fun d=>ku z H K B.length y d)
 rw[yi ra,←ju ra]at av
 rw[yi rb,←ju rb]at ax
 have a0:=aa (fun d h=>l9 t G I A x d h (by omega) (by omega))
 have a1:=aa (fun d h=>l9 z H K B y d h (by omega) (by omega))
 have ae:=aa (fun(T:bL (ad t A) x (ad z B) y=min x y) (h1:d9 (ad t A) x (min x y)=0) (h2:d9 (ad z B) y (min x y)=0) d h h'=>yg t z G H I K A B x y d h h' ra rb ⟨bi,bj⟩ ⟨bm,bn⟩ (by rw[mf,T];exact h1) (by rw[mf,BK,T];exact h2))
 have HZ:=aa (fun(T:bL (ad t A) x (ad z B) y=min x y)=>show eR (oM (dy (ad t A) x (-ad z B) y))=bG (up (ad t A) x (min x y)) (up (ad z B) y (min x y)) by
  rw[uC,mg]
  unfold dy
  rw[mf,T,yh,Int.sub_eq_add_neg])
 have a2:=aa (mh t A.length);have a3:=aa (mh z B.length)
 clear a4 a6 zx zy ra rb
 generalize oE (dy (ad t A) x (-ad z B) y) (bL (ad t A) x (-ad z B) y)=oe at*
 generalize oM (dy (ad t A) x (-ad z B) y)=om at*
 generalize jS (ad t A) x (ad z B) y=cv at*
 generalize d9 (ad t A) x (min x y)=ea at*
 generalize d9 (ad z B) y (min x y)=eb at*
 generalize up (ad t A) x (min x y)=za at*
 generalize up (ad z B) y (min x y)=zb at*
 generalize gj A x=ta at*
 generalize gj B y=tb at*
 generalize gi t A.length=br at*
 generalize gi z B.length=bt at*
 generalize bL (ad t A) x (ad z B) y=l at*
 have ba:Below w.heap.size w ((w.alloc (.cells #[.bool t,.slice G A.length I,.int .i64 x] 110)).alloc (.cells #[.bool z,.slice H B.length K,.int .i64 y] 110)):=((Below.refl _ _).alloc (Nat.le_refl _) _).alloc (by simp) _
 have D:aB ((w.alloc (.cells #[.bool t,.slice G A.length I,.int .i64 x] 110)).alloc (.cells #[.bool z,.slice H B.length K,.int .i64 y] 110)) w.heap.size (.bool t) (.slice G A.length I) (.int .i64 x):=(aB.new _ _ _ _).old _
 have F:aB ((w.alloc (.cells #[.bool t,.slice G A.length I,.int .i64 x] 110)).alloc (.cells #[.bool z,.slice H B.length K,.int .i64 y] 110)) (w.heap.size+1) (.bool z) (.slice H B.length K) (.int .i64 y):=by
  have:=aB.new (w.alloc (.cells #[.bool t,.slice G A.length I,.int .i64 x] 110)) (.bool z) (.slice H B.length K) (.int .i64 y)
  simpa using this
 have Y:=aa ba;have L:=aa D;have M:=aa F
 clear ba D F
 rcases uH am with⟨a7,_,hc⟩|⟨aj,s,c,hs,hc,rfl,bp,Z⟩|⟨aj,bq,h1,h2,Z,T⟩
 ·clear am a0 a1 ae HZ
  rcases uH a2 with rfl|rfl|rfl<;>rcases uH a3 with rfl|rfl|rfl
  all_goals first|exact absurd rfl a7|skip
  all_goals
   have Z:cv=_:=hc.symm
   clear a7 hc a2 a3
   simp only[show min (1:Int) (max (-1) (-1-0))= -1 by decide,show min (1:Int) (max (-1) (-1-1))= -1 by decide,show min (1:Int) (max (-1) (0- -1))=1 by decide,show min (1:Int) (max (-1) (0-1))= -1 by decide,show min (1:Int) (max (-1) (1- -1))=1 by decide,show min (1:Int) (max (-1) (1-0))=1 by decide]at Z
   subst Z
   go_enter Tryz.func144,Tryz.ntmps144
   go_wp2_with fail
   refine ap (fun W=>Below w.heap.size w W∧aB W w.heap.size (.bool t) (.slice G A.length I) (.int .i64 x)∧aB W (w.heap.size+1) (.bool z) (.slice H B.length K) (.int .i64 y)) ⟨uH Y,uH L,uH M⟩ ?_
   clear Y L M
   rintro m ⟨O,D,F⟩
   have hK:∀d,Below m.heap.size m d→Below m.heap.size m d∧d.cell? ⟨w.heap.size,0,none⟩=some (.bool t)∧d.cell? ⟨w.heap.size,1,none⟩=some (.slice G A.length I)∧d.cell? ⟨w.heap.size,2,none⟩=some (.int .i64 x)∧d.cell? ⟨w.heap.size+1,0,none⟩=some (.bool z)∧d.cell? ⟨w.heap.size+1,1,none⟩=some (.slice H B.length K)∧d.cell? ⟨w.heap.size+1,2,none⟩=some (.int .i64 y):=fun d h=>
    ⟨h,(D.all h).c0,(D.all h).c1,(D.all h).c2,(F.all h).c0,(F.all h).c1,(F.all h).c2⟩
   have U:=aa hK
   have HA:=aa (hA.below O);have HB:=aa (hB.below O);have V:=aa O;have L:=aa D;have M:=aa F
   clear hK O D F
   go_region_held3(fun d=>Below m.heap.size m d∧d.cell? ⟨w.heap.size,0,none⟩=some (.bool t)∧d.cell? ⟨w.heap.size,1,none⟩=some (.slice G A.length I)∧d.cell? ⟨w.heap.size,2,none⟩=some (.int .i64 x)∧d.cell? ⟨w.heap.size+1,0,none⟩=some (.bool z)∧d.cell? ⟨w.heap.size+1,1,none⟩=some (.slice H B.length K)∧d.cell? ⟨w.heap.size+1,2,none⟩=some (.int .i64 y))
    (first|exact uH U _ (Below.refl _ _).drew|exact uH U _ (by assumption))
    (first|(go_at_call_of 172 (Value.agg #[.bool t,.slice G A.length I,.int .i64 x]);refine(uH av _).mono ?_;rintro e N ⟨rfl,f⟩;have Q:Below m.heap.size m N:=Below.trans (And.left (by assumption)) (f.mono (Below.size (And.left (by assumption))));clear f)|(go_at_call_of 172 (Value.agg #[.bool z,.slice H B.length K,.int .i64 y]);refine(uH ax _).mono ?_;rintro e N ⟨rfl,f⟩;have Q:Below m.heap.size m N:=Below.trans (And.left (by assumption)) (f.mono (Below.size (And.left (by assumption))));clear f))
   go_wp2_with fail
   have X:Below m.heap.size m N:=And.left (by assumption)
   have b9:=(uH V).trans (X.mono (uH V).size);have x9:=(uH L).all X;have y9:=(uH M).all X
   clear U HA HB V L M X
   have Y:=aa b9;have L:=aa x9;have M:=aa y9
   clear b9 x9 y9
   refine ap (fun W=>Below w.heap.size w W∧aB W w.heap.size (.bool t) (.slice G A.length I) (.int .i64 x)∧aB W (w.heap.size+1) (.bool z) (.slice H B.length K) (.int .i64 y)) ⟨uH Y,uH L,uH M⟩ ?_
   clear Y L M
   rintro m ⟨O,D,F⟩
   have hK:∀d,Below m.heap.size m d→Below m.heap.size m d∧d.cell? ⟨w.heap.size,0,none⟩=some (.bool t)∧d.cell? ⟨w.heap.size,1,none⟩=some (.slice G A.length I)∧d.cell? ⟨w.heap.size,2,none⟩=some (.int .i64 x)∧d.cell? ⟨w.heap.size+1,0,none⟩=some (.bool z)∧d.cell? ⟨w.heap.size+1,1,none⟩=some (.slice H B.length K)∧d.cell? ⟨w.heap.size+1,2,none⟩=some (.int .i64 y):=fun d h=>
    ⟨h,(D.all h).c0,(D.all h).c1,(D.all h).c2,(F.all h).c0,(F.all h).c1,(F.all h).c2⟩
   have U:=aa hK
   have HA:=aa (hA.below O);have HB:=aa (hB.below O);have V:=aa O;have L:=aa D;have M:=aa F
   clear hK O D F
   go_region_held3(fun d=>Below m.heap.size m d∧d.cell? ⟨w.heap.size,0,none⟩=some (.bool t)∧d.cell? ⟨w.heap.size,1,none⟩=some (.slice G A.length I)∧d.cell? ⟨w.heap.size,2,none⟩=some (.int .i64 x)∧d.cell? ⟨w.heap.size+1,0,none⟩=some (.bool z)∧d.cell? ⟨w.heap.size+1,1,none⟩=some (.slice H B.length K)∧d.cell? ⟨w.heap.size+1,2,none⟩=some (.int .i64 y))
    (first|exact uH U _ (Below.refl _ _).drew|exact uH U _ (by assumption))
    (first|(go_at_call_of 172 (Value.agg #[.bool t,.slice G A.length I,.int .i64 x]);refine(uH av _).mono ?_;rintro e N ⟨rfl,f⟩;have Q:Below m.heap.size m N:=Below.trans (And.left (by assumption)) (f.mono (Below.size (And.left (by assumption))));clear f)|(go_at_call_of 172 (Value.agg #[.bool z,.slice H B.length K,.int .i64 y]);refine(uH ax _).mono ?_;rintro e N ⟨rfl,f⟩;have Q:Below m.heap.size m N:=Below.trans (And.left (by assumption)) (f.mono (Below.size (And.left (by assumption))));clear f))
   go_wp2
   go_ret
   exact⟨rfl,(uH V).trans (Below.mono (And.left (by assumption)) (uH V).size)⟩
 ·subst aj
  have bb:=aa Z
  clear am ae HZ a2 a3 bp Z
  rcases hs with rfl|rfl
  all_goals
   rcases hc with⟨rfl,ht⟩|⟨rfl,ht⟩
  all_goals
   have Z:=uH bb
   simp only[show(1:Int)*1=1 by decide,show(1:Int)* -1= -1 by decide,show(-1:Int)*1= -1 by decide,show(-1:Int)* -1=1 by decide]at Z
   subst Z
   have a7:(ta != tb)=true:=by rw[bne_iff_ne];omega
   first|(have g:decide (tb<ta)=true:=decide_eq_true (by omega))|(have g:decide (tb<ta)=false:=decide_eq_false (by omega))
   clear bb
   go_enter Tryz.func144,Tryz.ntmps144
   go_wp2_with fail
   refine ap (fun W=>Below w.heap.size w W∧aB W w.heap.size (.bool t) (.slice G A.length I) (.int .i64 x)∧aB W (w.heap.size+1) (.bool z) (.slice H B.length K) (.int .i64 y)) ⟨uH Y,uH L,uH M⟩ ?_
   clear Y L M
   rintro m ⟨O,D,F⟩
   have hK:∀d,Below m.heap.size m d→Below m.heap.size m d∧d.cell? ⟨w.heap.size,0,none⟩=some (.bool t)∧d.cell? ⟨w.heap.size,1,none⟩=some (.slice G A.length I)∧d.cell? ⟨w.heap.size,2,none⟩=some (.int .i64 x)∧d.cell? ⟨w.heap.size+1,0,none⟩=some (.bool z)∧d.cell? ⟨w.heap.size+1,1,none⟩=some (.slice H B.length K)∧d.cell? ⟨w.heap.size+1,2,none⟩=some (.int .i64 y):=fun d h=>
    ⟨h,(D.all h).c0,(D.all h).c1,(D.all h).c2,(F.all h).c0,(F.all h).c1,(F.all h).c2⟩
   have U:=aa hK
   have HA:=aa (hA.below O);have HB:=aa (hB.below O);have V:=aa O;have L:=aa D;have M:=aa F
   clear hK O D F
   go_region_held3(fun d=>Below m.heap.size m d∧d.cell? ⟨w.heap.size,0,none⟩=some (.bool t)∧d.cell? ⟨w.heap.size,1,none⟩=some (.slice G A.length I)∧d.cell? ⟨w.heap.size,2,none⟩=some (.int .i64 x)∧d.cell? ⟨w.heap.size+1,0,none⟩=some (.bool z)∧d.cell? ⟨w.heap.size+1,1,none⟩=some (.slice H B.length K)∧d.cell? ⟨w.heap.size+1,2,none⟩=some (.int .i64 y))
    (first|exact uH U _ (Below.refl _ _).drew|exact uH U _ (by assumption))
    (first|(go_at_call_of 172 (Value.agg #[.bool t,.slice G A.length I,.int .i64 x]);refine(uH av _).mono ?_;rintro e N ⟨rfl,f⟩;have Q:Below m.heap.size m N:=Below.trans (And.left (by assumption)) (f.mono (Below.size (And.left (by assumption))));clear f)|(go_at_call_of 172 (Value.agg #[.bool z,.slice H B.length K,.int .i64 y]);refine(uH ax _).mono ?_;rintro e N ⟨rfl,f⟩;have Q:Below m.heap.size m N:=Below.trans (And.left (by assumption)) (f.mono (Below.size (And.left (by assumption))));clear f))
   go_wp2_with fail
   have X:Below m.heap.size m N:=And.left (by assumption)
   have b9:=(uH V).trans (X.mono (uH V).size);have x9:=(uH L).all X;have y9:=(uH M).all X
   clear U HA HB V L M X
   have Y:=aa b9;have L:=aa x9;have M:=aa y9
   clear b9 x9 y9
   refine ap (fun W=>Below w.heap.size w W∧aB W w.heap.size (.bool t) (.slice G A.length I) (.int .i64 x)∧aB W (w.heap.size+1) (.bool z) (.slice H B.length K) (.int .i64 y)) ⟨uH Y,uH L,uH M⟩ ?_
   clear Y L M
   rintro m ⟨O,D,F⟩
   have hK:∀d,Below m.heap.size m d→Below m.heap.size m d∧d.cell? ⟨w.heap.size,0,none⟩=some (.bool t)∧d.cell? ⟨w.heap.size,1,none⟩=some (.slice G A.length I)∧d.cell? ⟨w.heap.size,2,none⟩=some (.int .i64 x)∧d.cell? ⟨w.heap.size+1,0,none⟩=some (.bool z)∧d.cell? ⟨w.heap.size+1,1,none⟩=some (.slice H B.length K)∧d.cell? ⟨w.heap.size+1,2,none⟩=some (.int .i64 y):=fun d h=>
    ⟨h,(D.all h).c0,(D.all h).c1,(D.all h).c2,(F.all h).c0,(F.all h).c1,(F.all h).c2⟩
   have U:=aa hK
   have HA:=aa (hA.below O);have HB:=aa (hB.below O);have V:=aa O;have L:=aa D;have M:=aa F
   clear hK O D F
   go_region_held3(fun d=>Below m.heap.size m d∧d.cell? ⟨w.heap.size,0,none⟩=some (.bool t)∧d.cell? ⟨w.heap.size,1,none⟩=some (.slice G A.length I)∧d.cell? ⟨w.heap.size,2,none⟩=some (.int .i64 x)∧d.cell? ⟨w.heap.size+1,0,none⟩=some (.bool z)∧d.cell? ⟨w.heap.size+1,1,none⟩=some (.slice H B.length K)∧d.cell? ⟨w.heap.size+1,2,none⟩=some (.int .i64 y))
    (first|exact uH U _ (Below.refl _ _).drew|exact uH U _ (by assumption))
    (first|(go_at_call_of 101 (Value.agg #[.bool t,.slice G A.length I,.int .i64 x]);refine(uH a0 _ ((uH HA).below (And.left (by assumption)))).mono ?_;rintro e N ⟨rfl,f⟩;have Q:Below m.heap.size m N:=Below.trans (And.left (by assumption)) (f.mono (Below.size (And.left (by assumption))));clear f)|(go_at_call_of 101 (Value.agg #[.bool z,.slice H B.length K,.int .i64 y]);refine(uH a1 _ ((uH HB).below (And.left (by assumption)))).mono ?_;rintro e N ⟨rfl,f⟩;have Q:Below m.heap.size m N:=Below.trans (And.left (by assumption)) (f.mono (Below.size (And.left (by assumption))));clear f))
   go_wp2_with fail
   have X:Below m.heap.size m N:=And.left (by assumption)
   have b9:=(uH V).trans (X.mono (uH V).size);have x9:=(uH L).all X;have y9:=(uH M).all X
   clear U HA HB V L M X
   have Y:=aa b9;have L:=aa x9;have M:=aa y9
   clear b9 x9 y9
   refine ap (fun W=>Below w.heap.size w W∧aB W w.heap.size (.bool t) (.slice G A.length I) (.int .i64 x)∧aB W (w.heap.size+1) (.bool z) (.slice H B.length K) (.int .i64 y)) ⟨uH Y,uH L,uH M⟩ ?_
   clear Y L M
   rintro m ⟨O,D,F⟩
   have hK:∀d,Below m.heap.size m d→Below m.heap.size m d∧d.cell? ⟨w.heap.size,0,none⟩=some (.bool t)∧d.cell? ⟨w.heap.size,1,none⟩=some (.slice G A.length I)∧d.cell? ⟨w.heap.size,2,none⟩=some (.int .i64 x)∧d.cell? ⟨w.heap.size+1,0,none⟩=some (.bool z)∧d.cell? ⟨w.heap.size+1,1,none⟩=some (.slice H B.length K)∧d.cell? ⟨w.heap.size+1,2,none⟩=some (.int .i64 y):=fun d h=>
    ⟨h,(D.all h).c0,(D.all h).c1,(D.all h).c2,(F.all h).c0,(F.all h).c1,(F.all h).c2⟩
   have U:=aa hK
   have HA:=aa (hA.below O);have HB:=aa (hB.below O);have V:=aa O;have L:=aa D;have M:=aa F
   clear hK O D F
   go_region_held3(fun d=>Below m.heap.size m d∧d.cell? ⟨w.heap.size,0,none⟩=some (.bool t)∧d.cell? ⟨w.heap.size,1,none⟩=some (.slice G A.length I)∧d.cell? ⟨w.heap.size,2,none⟩=some (.int .i64 x)∧d.cell? ⟨w.heap.size+1,0,none⟩=some (.bool z)∧d.cell? ⟨w.heap.size+1,1,none⟩=some (.slice H B.length K)∧d.cell? ⟨w.heap.size+1,2,none⟩=some (.int .i64 y))
    (first|exact uH U _ (Below.refl _ _).drew|exact uH U _ (by assumption))
    (first|(go_at_call_of 101 (Value.agg #[.bool t,.slice G A.length I,.int .i64 x]);refine(uH a0 _ ((uH HA).below (And.left (by assumption)))).mono ?_;rintro e N ⟨rfl,f⟩;have Q:Below m.heap.size m N:=Below.trans (And.left (by assumption)) (f.mono (Below.size (And.left (by assumption))));clear f)|(go_at_call_of 101 (Value.agg #[.bool z,.slice H B.length K,.int .i64 y]);refine(uH a1 _ ((uH HB).below (And.left (by assumption)))).mono ?_;rintro e N ⟨rfl,f⟩;have Q:Below m.heap.size m N:=Below.trans (And.left (by assumption)) (f.mono (Below.size (And.left (by assumption))));clear f)|(go_at_call_of 172 (Value.agg #[.bool t,.slice G A.length I,.int .i64 x]);refine(uH av _).mono ?_;rintro e N ⟨rfl,f⟩;have Q:Below m.heap.size m N:=Below.trans (And.left (by assumption)) (f.mono (Below.size (And.left (by assumption))));clear f)|(go_at_call_of 172 (Value.agg #[.bool z,.slice H B.length K,.int .i64 y]);refine(uH ax _).mono ?_;rintro e N ⟨rfl,f⟩;have Q:Below m.heap.size m N:=Below.trans (And.left (by assumption)) (f.mono (Below.size (And.left (by assumption))));clear f))
   go_wp2
   go_ret
   exact⟨rfl,(uH V).trans (Below.mono (And.left (by assumption)) (uH V).size)⟩
 ·subst aj
  subst bq
  have hz:=uH HZ T
  rw[Z]at hz
  have be:=aa hz
  have aI:=aa (uH ae T h1 h2)
  have ae:=aI
  clear am a2 a3 HZ T h1 h2 Z hz aI
  go_enter Tryz.func144,Tryz.ntmps144
  go_wp2_with fail
  refine ap (fun W=>Below w.heap.size w W∧aB W w.heap.size (.bool t) (.slice G A.length I) (.int .i64 x)∧aB W (w.heap.size+1) (.bool z) (.slice H B.length K) (.int .i64 y)) ⟨uH Y,uH L,uH M⟩ ?_
  clear Y L M
  rintro m ⟨O,D,F⟩
  have hK:∀d,Below m.heap.size m d→Below m.heap.size m d∧d.cell? ⟨w.heap.size,0,none⟩=some (.bool t)∧d.cell? ⟨w.heap.size,1,none⟩=some (.slice G A.length I)∧d.cell? ⟨w.heap.size,2,none⟩=some (.int .i64 x)∧d.cell? ⟨w.heap.size+1,0,none⟩=some (.bool z)∧d.cell? ⟨w.heap.size+1,1,none⟩=some (.slice H B.length K)∧d.cell? ⟨w.heap.size+1,2,none⟩=some (.int .i64 y):=fun d h=>
   ⟨h,(D.all h).c0,(D.all h).c1,(D.all h).c2,(F.all h).c0,(F.all h).c1,(F.all h).c2⟩
  have U:=aa hK
  have HA:=aa (hA.below O);have HB:=aa (hB.below O);have V:=aa O;have L:=aa D;have M:=aa F
  clear hK O D F
  go_region_held3(fun d=>Below m.heap.size m d∧d.cell? ⟨w.heap.size,0,none⟩=some (.bool t)∧d.cell? ⟨w.heap.size,1,none⟩=some (.slice G A.length I)∧d.cell? ⟨w.heap.size,2,none⟩=some (.int .i64 x)∧d.cell? ⟨w.heap.size+1,0,none⟩=some (.bool z)∧d.cell? ⟨w.heap.size+1,1,none⟩=some (.slice H B.length K)∧d.cell? ⟨w.heap.size+1,2,none⟩=some (.int .i64 y))
   (first|exact uH U _ (Below.refl _ _).drew|exact uH U _ (by assumption))
   (first|(go_at_call_of 172 (Value.agg #[.bool t,.slice G A.length I,.int .i64 x]);refine(uH av _).mono ?_;rintro e N ⟨rfl,f⟩;have Q:Below m.heap.size m N:=Below.trans (And.left (by assumption)) (f.mono (Below.size (And.left (by assumption))));clear f)|(go_at_call_of 172 (Value.agg #[.bool z,.slice H B.length K,.int .i64 y]);refine(uH ax _).mono ?_;rintro e N ⟨rfl,f⟩;have Q:Below m.heap.size m N:=Below.trans (And.left (by assumption)) (f.mono (Below.size (And.left (by assumption))));clear f))
  go_wp2_with fail
  have X:Below m.heap.size m N:=And.left (by assumption)
  have b9:=(uH V).trans (X.mono (uH V).size);have x9:=(uH L).all X;have y9:=(uH M).all X
  clear U HA HB V L M X
  have Y:=aa b9;have L:=aa x9;have M:=aa y9
  clear b9 x9 y9
  refine ap (fun W=>Below w.heap.size w W∧aB W w.heap.size (.bool t) (.slice G A.length I) (.int .i64 x)∧aB W (w.heap.size+1) (.bool z) (.slice H B.length K) (.int .i64 y)) ⟨uH Y,uH L,uH M⟩ ?_
  clear Y L M
  rintro m ⟨O,D,F⟩
  have hK:∀d,Below m.heap.size m d→Below m.heap.size m d∧d.cell? ⟨w.heap.size,0,none⟩=some (.bool t)∧d.cell? ⟨w.heap.size,1,none⟩=some (.slice G A.length I)∧d.cell? ⟨w.heap.size,2,none⟩=some (.int .i64 x)∧d.cell? ⟨w.heap.size+1,0,none⟩=some (.bool z)∧d.cell? ⟨w.heap.size+1,1,none⟩=some (.slice H B.length K)∧d.cell? ⟨w.heap.size+1,2,none⟩=some (.int .i64 y):=fun d h=>
   ⟨h,(D.all h).c0,(D.all h).c1,(D.all h).c2,(F.all h).c0,(F.all h).c1,(F.all h).c2⟩
  have U:=aa hK
  have HA:=aa (hA.below O);have HB:=aa (hB.below O);have V:=aa O;have L:=aa D;have M:=aa F
  clear hK O D F
  go_region_held3(fun d=>Below m.heap.size m d∧d.cell? ⟨w.heap.size,0,none⟩=some (.bool t)∧d.cell? ⟨w.heap.size,1,none⟩=some (.slice G A.length I)∧d.cell? ⟨w.heap.size,2,none⟩=some (.int .i64 x)∧d.cell? ⟨w.heap.size+1,0,none⟩=some (.bool z)∧d.cell? ⟨w.heap.size+1,1,none⟩=some (.slice H B.length K)∧d.cell? ⟨w.heap.size+1,2,none⟩=some (.int .i64 y))
   (first|exact uH U _ (Below.refl _ _).drew|exact uH U _ (by assumption))
   (first|(go_at_call_of 101 (Value.agg #[.bool t,.slice G A.length I,.int .i64 x]);refine(uH a0 _ ((uH HA).below (And.left (by assumption)))).mono ?_;rintro e N ⟨rfl,f⟩;have Q:Below m.heap.size m N:=Below.trans (And.left (by assumption)) (f.mono (Below.size (And.left (by assumption))));clear f)|(go_at_call_of 101 (Value.agg #[.bool z,.slice H B.length K,.int .i64 y]);refine(uH a1 _ ((uH HB).below (And.left (by assumption)))).mono ?_;rintro e N ⟨rfl,f⟩;have Q:Below m.heap.size m N:=Below.trans (And.left (by assumption)) (f.mono (Below.size (And.left (by assumption))));clear f))
  go_wp2_with fail
  have X:Below m.heap.size m N:=And.left (by assumption)
  have b9:=(uH V).trans (X.mono (uH V).size);have x9:=(uH L).all X;have y9:=(uH M).all X
  clear U HA HB V L M X
  have Y:=aa b9;have L:=aa x9;have M:=aa y9
  clear b9 x9 y9
  refine(uH ae _ (hA.below (uH Y)) (hB.below (uH Y))).mono ?_
  rintro r w5 ⟨u,rfl,iu,f⟩
  obtain⟨n5,a5,c5,L5,rfl,q1,q2,q3,q4,q5⟩:=iu.parts
  have a9:=BM q2 q3 q4
  rw[uH be]at a9
  have bc:=aa (fun d=>ku n5 a5 c5 L5.length oe d)
  rw[a9]at bc
  have B1:=aa ((uH Y).trans (f.mono (uH Y).size))
  clear q1 q2 q3 q4 q5 iu f a9
  go_wp2_with(go_at_call 172;refine(uH bc _).mono ?_;rintro r w6 ⟨rfl,f⟩)
  go_ret
  exact⟨rfl,(uH B1).trans (f.mono (uH B1).size)⟩
end Go.Proofs.YtenpggicmfhhdaaGreatDoor
namespace Go.Proofs.YtenpggicmfhhdaaGreatDoor
open Go.RowKit
theorem BN(k:Nat):(2:Int)^k≠0:=Int.pow_ne_zero (by decide)
theorem jT(z:Int)(k:Nat)(e:Int):oM (z*2^k)=oM z∧oE (z*2^k) e=oE z (e+k):=by
 by_cases h:z=0
 ·subst h;rw[Int.zero_mul,cg,cJ,cJ];exact⟨rfl,rfl⟩
 ·have f:z*2^k≠0:=fun e=>by rcases Int.mul_eq_zero.1 e with e|e;exact h e;exact BN k e
  have d:=fg z h
  have l:ii (z*2^k) (oM z) (tz z.natAbs+k):=by
   refine⟨?_,d.2⟩
   conv=>lhs;rw[d.1]
   rw[Int.mul_assoc,←Int.pow_add]
  obtain⟨_,m,t⟩:=l.eq
  refine⟨m.symm,?_⟩
  rw[dq _ _ f,dq _ _ h,←t]
  omega
theorem Ep(z1 z2:Int):oM (z1*z2)=oM z1*oM z2:=by
 by_cases d:z1=0
 ·subst d;rw[Int.zero_mul,cg,Int.zero_mul]
 by_cases f:z2=0
 ·subst f;rw[Int.mul_zero,cg,Int.mul_zero]
 have a:=fg z1 d
 have b:=fg z2 f
 have h:ii (z1*z2) (oM z1*oM z2) (tz z1.natAbs+tz z2.natAbs):=by
  refine⟨?_,?_⟩
  ·conv=>lhs;rw[a.1,b.1]
   rw[Int.pow_add]
   simp only[Int.mul_assoc,Int.mul_left_comm]
  ·rw[Int.mul_emod,a.2,b.2];rfl
 exact h.eq.2.1.symm
theorem BO(z1 z2:Int)(d:z1≠0)(f:z2≠0):tz (z1*z2).natAbs=tz z1.natAbs+tz z2.natAbs:=by
 have a:=fg z1 d
 have b:=fg z2 f
 have h:ii (z1*z2) (oM z1*oM z2) (tz z1.natAbs+tz z2.natAbs):=by
  refine⟨?_,?_⟩
  ·conv=>lhs;rw[a.1,b.1]
   rw[Int.pow_add]
   simp only[Int.mul_assoc,Int.mul_left_comm]
  ·rw[Int.mul_emod,a.2,b.2];rfl
 exact h.eq.2.2.symm
def kT(lo:Int)(W:Nat)(z:Int):Prop:=z.natAbs<2^W∧-16384≤lo∧lo+W≤16384∧W≤16384
theorem kT.tzs{lo:Int}{W:Nat}{z:Int}(h:kT lo W z)(d:z≠0):tz z.natAbs<W:=kO _ _ (by omega) h.1
theorem kT.tops{lo:Int}{W:Nat}{z:Int}(h:kT lo W z):z.natAbs<di:=pt h.1 h.2.2.2
theorem kT.right{lo:Int}{W:Nat}{z:Int}(h:kT lo W z):pq (oM z) (oE z lo)=true∧(oM z).natAbs<di:=by
 refine⟨?_,Nat.lt_of_le_of_lt (uy z) h.tops⟩
 unfold pq
 by_cases d:z=0
 ·subst d;rw[cg,cJ];rfl
 ·obtain⟨f,l⟩:=ge z d
  have m:=h.tzs d
  obtain⟨_,t,y,_⟩:=h
  rw[if_neg f,dq _ _ d,decide_eq_true l,decide_eq_true (show-16384≤lo+(tz z.natAbs:Int)∧lo+(tz z.natAbs:Int)≤16384 by omega)]
  rfl
theorem mi(z lo:Int)(h:z≠0):oM z*2^(oE z lo-lo).toNat=z:=by
 rw[dq _ _ h,show(lo+(tz z.natAbs:Int)-lo).toNat=tz z.natAbs by omega]
 exact(fg z h).1.symm
theorem mj(m e:Int)(h:pq m e=true):cI m e=0∧dM m e=m∧dX m e=e:=by
 unfold pq at h
 by_cases d:m=0
 ·subst d
  rw[if_pos rfl]at h
  have l:=of_decide_eq_true h
  subst l
  decide
 ·rw[if_neg d,Bool.and_eq_true]at h
  have t:=of_decide_eq_true h.1
  have D:=of_decide_eq_true h.2
  have y:ii m m 0:=⟨by simp,t⟩
  obtain⟨_,A,f⟩:=y.eq
  have z:kt m e=true:=by
   unfold kt
   rw[←f,decide_eq_true (show-32768≤e∧e≤32768 by omega),decide_eq_true (show-16384≤e+((0:Nat):Int)∧e+((0:Nat):Int)≤16384 by omega)]
   simp
  unfold cI dM dX
  rw[z,←A,dq _ _ d,←f]
  simp
theorem ym{lo:Int}{W:Nat}{z1 z2:Int}(I:kT lo W z1)(K:kT lo W z2)(X:kT lo W (z1+z2)):
  qG (oM z1) (oE z1 lo) (oM z2) (oE z2 lo)=0∧qH (oM z1) (oE z1 lo) (oM z2) (oE z2 lo)=oM (z1+z2)∧qI (oM z1) (oE z1 lo) (oM z2) (oE z2 lo)=oE (z1+z2) lo:=by
 have L:=I.right
 have M:=K.right
 have Y:∀m e,pq m e=true→-16384≤e∧e≤16384:=fun m e h=>by
  unfold pq at h
  by_cases h0:m=0
  ·rw[if_pos h0]at h;have:=of_decide_eq_true h;omega
  ·rw[if_neg h0,Bool.and_eq_true]at h;exact of_decide_eq_true h.2
 by_cases y:z1=0
 ·subst y
  rw[cg,cJ,Int.zero_add]
  obtain⟨G,p2,H⟩:=mb (oM z2) (oE z2 lo) (Y _ _ M.1) M.2
  rw[G,p2,H]
  exact mj _ _ M.1
 by_cases A:z2=0
 ·subst A
  rw[cg,cJ,Int.add_zero]
  obtain⟨G,p2,H⟩:=me (oM z1) (oE z1 lo) (Y _ _ L.1) L.2 (ge z1 y).1
  rw[G,p2,H]
  exact mj _ _ L.1
 have sa:=(ge z1 y).1
 have sb:=(ge z2 A).1
 have x1:=dq z1 lo y
 have x2:=dq z2 lo A
 have t1:=I.tzs y
 have t2:=K.tzs A
 have f:=I.tops
 obtain⟨_,l1,l2,l3⟩:=I
 have D:=g7 (oM z1) (oE z1 lo) (oM z2) (oE z2 lo) sa sb
 obtain⟨l,V⟩:∃l,min (oE z1 lo) (oE z2 lo)=l:=⟨_,rfl⟩
 rw[V]at D
 have ae:lo≤l:=by omega
 obtain⟨k,hk⟩:∃k:Nat,(k:Int)=l-lo:=⟨(l-lo).toNat,by omega⟩
 have N:lo+(k:Int)=l:=by omega
 have u1:up (oM z1) (oE z1 lo) l*2^k=z1:=by
  conv=>rhs;rw[←mi z1 lo y]
  unfold up
  rw[Int.mul_assoc,←Int.pow_add]
  congr 2
  omega
 have u2:up (oM z2) (oE z2 lo) l*2^k=z2:=by
  conv=>rhs;rw[←mi z2 lo A]
  unfold up
  rw[Int.mul_assoc,←Int.pow_add]
  congr 2
  omega
 have t:=K.tops
 have O:oE z1 lo-l≤16384:=by clear f t;omega
 have Q:oE z2 lo-l≤16384:=by clear f t;omega
 have d:∀u z:Int,u*2^k=z→u.natAbs≤z.natAbs:=fun u z h=>by
  rw[←h,Int.natAbs_mul,Int.natAbs_pow]
  exact Nat.le_mul_of_pos_right _ (Nat.pow_pos (by decide))
 have hZ:dy (oM z1) (oE z1 lo) (oM z2) (oE z2 lo)*2^k=z1+z2:=by
  unfold dy
  rw[D,Int.add_mul,u1,u2]
 have e1:d9 (oM z1) (oE z1 lo) l=0:=g6 _ _ _ (Nat.lt_of_le_of_lt (d _ _ u1) f) O
 have e2:d9 (oM z2) (oE z2 lo) l=0:=g6 _ _ _ (Nat.lt_of_le_of_lt (d _ _ u2) t) Q
 have F:(dy (oM z1) (oE z1 lo) (oM z2) (oE z2 lo)).natAbs<di:=Nat.lt_of_le_of_lt (d _ _ hZ) X.tops
 obtain⟨G,p2,H⟩:=BL (by rw[D];exact e1) (by rw[D];exact e2) F
 rw[G,p2,H,D]
 generalize dy (oM z1) (oE z1 lo) (oM z2) (oE z2 lo)=Z at*
 have T:=jT Z k lo
 rw[hZ]at T
 have hx:oE (z1+z2) lo=oE Z l:=by rw[T.2,N]
 have r3:=X.right.1
 rw[T.1,hx]at r3⊢
 have U:-32768≤l∧l≤32768:=by clear f t F;omega
 exact(vy Z l U).1 r3
theorem vE{lo1 lo2:Int}{W1 W2 W:Nat}{z1 z2:Int}(y:kT (lo1+lo2) W (z1*z2))(l:kT lo1 W1 z1)(m:kT lo2 W2 z2):
  (oM z1*oM z2).natAbs<di∧cI (oM z1*oM z2) (oE z1 lo1+oE z2 lo2)=0∧dM (oM z1*oM z2) (oE z1 lo1+oE z2 lo2)=oM (z1*z2)∧dX (oM z1*oM z2) (oE z1 lo1+oE z2 lo2)=oE (z1*z2) (lo1+lo2):=by
 have t:=y.right
 rw[←Ep]
 refine⟨t.2,?_⟩
 by_cases f:z1=0
 ·subst f
  have z:-16384≤oE z2 lo2∧oE z2 lo2≤16384:=by
   by_cases d:z2=0
   ·subst d;rw[cJ];decide
   ·have:=m.tzs d
    rw[dq _ _ d]
    have:=m.2
    omega
  rw[Int.zero_mul,cg,cJ,cJ,Int.zero_add]
  have h:kt 0 (oE z2 lo2)=true:=by unfold kt;rw[decide_eq_true (show-32768≤oE z2 lo2∧oE z2 lo2≤32768 by omega)];simp
  unfold cI dM dX
  rw[h]
  simp[cg,cJ]
 by_cases d:z2=0
 ·subst d
  have z:-16384≤oE z1 lo1∧oE z1 lo1≤16384:=by
   have:=l.tzs f
   rw[dq _ _ f]
   have:=l.2
   omega
  rw[Int.mul_zero,cg,cJ,cJ,Int.add_zero]
  have h:kt 0 (oE z1 lo1)=true:=by unfold kt;rw[decide_eq_true (show-32768≤oE z1 lo1∧oE z1 lo1≤32768 by omega)];simp
  unfold cI dM dX
  rw[h]
  simp[cg,cJ]
 have A:oE z1 lo1+oE z2 lo2=oE (z1*z2) (lo1+lo2):=by
  have D:z1*z2≠0:=fun e=>by rcases Int.mul_eq_zero.1 e with e|e;exact f e;exact d e
  rw[dq _ _ f,dq _ _ d,dq _ _ D,BO z1 z2 f d]
  omega
 rw[A]
 exact mj _ _ t.1
theorem Gx{w:World}{v u:Value}{lo:Int}{W:Nat}{z1 z2:Int}(y:aH w v (oM z1) (oE z1 lo))(z:aH w u (oM z2) (oE z2 lo))(d:kT lo W z1)(f:kT lo W z2)(D:kT lo W (z1+z2))(t:cd w):
  Calls Tryz.prog 160 #[v,u] w fun r h=>k9 h r 0 (oM (z1+z2)) (oE (z1+z2) lo)∧Below w.heap.size w h:=by
 obtain⟨F,G,H,A,rfl,I,X,K,Y,l⟩:=y.right d.right.2
 obtain⟨L,M,N,B,rfl,O,Z,Q,b4,m⟩:=z.right f.right.2
 rw[d.right.1]at l
 rw[f.right.1]at m
 have:=sI F L G M H N A B _ _ w I O l m t
 obtain⟨T,U,V⟩:=ym d f D
 rwa[K,Q,T,U,V]at this
theorem Gy{w:World}{v u:Value}{lo1 lo2:Int}{W1 W2 W:Nat}{z1 z2:Int}(D:aH w v (oM z1) (oE z1 lo1))(F:aH w u (oM z2) (oE z2 lo2))(d:kT lo1 W1 z1)(f:kT lo2 W2 z2)(G:kT (lo1+lo2) W (z1*z2))(t:cd w):
  Calls Tryz.prog 186 #[v,u] w fun r h=>k9 h r 0 (oM (z1*z2)) (oE (z1*z2) (lo1+lo2))∧Below w.heap.size w h:=by
 obtain⟨H,I,K,A,rfl,L,Y,l,Z,m⟩:=D.right d.right.2
 obtain⟨M,N,O,B,rfl,Q,b2,y,b4,z⟩:=F.right f.right.2
 rw[d.right.1]at m
 rw[f.right.1]at z
 obtain⟨T,U,V,X⟩:=vE G d f
 have:=sJ H M I N K O A B _ _ w L Q m z (by rw[l,y];exact T) t
 rwa[l,y,U,V,X]at this
end Go.Proofs.YtenpggicmfhhdaaGreatDoor
