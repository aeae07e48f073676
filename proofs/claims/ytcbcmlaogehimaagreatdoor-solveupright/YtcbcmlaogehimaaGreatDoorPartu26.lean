/- Part 26 of the texts. -/
import Derived.Test.YtcbcmlaogehimaaGreatDoorPartu25
set_option maxHeartbeats 4000000
set_option maxRecDepth 20000
namespace Go.Proofs.YtcbcmlaogehimaaGreatDoor
open Go.RowKit
attribute [local go_sem ↓] Go.wp_at_zero Go.wp_at_succ
theorem GP(w:World)(x y z u v:Value)(l:World)(h:Below (w.heap.size+1+1+1+1) ((((w.alloc (.cells #[x,y,z] 24)).alloc (.cells #[u] 3)).alloc (.cells #[v] 3)).alloc (.cells #[C0 0,C0 0,.slice none 0 0] 24)) l):
  Below w.heap.size w l/\aE l w.heap.size x y z/\(l.cell? ⟨w.heap.size+1,0,none⟩=some u/\l.cell? ⟨w.heap.size+1+1,0,none⟩=some v)/\aE l (w.heap.size+1+1+1) (C0 0) (C0 0) (.slice none 0 0):=by
 have O:=ad w (.cells #[x,y,z] 24);have Q:=aE.new w x y z;have G:=an w (.cells #[x,y,z] 24);generalize w.alloc (.cells #[x,y,z] 24)=D at*;have I:=ad D (.cells #[u] 3);have U:=d9 D u 3;have J:=an D (.cells #[u] 3);have Z:=Q.all I;generalize D.alloc (.cells #[u] 3)=F at*;have H:=ad F (.cells #[v] 3);have c2:=d9 F v 3;have s2:=an F (.cells #[v] 3);have x2:=Z.all H;have d1:=ay U H;generalize F.alloc (.cells #[v] 3)=wc at*;have t:=ad wc (.cells #[C0 0,C0 0,.slice none 0 0] 24);have K:=aE.new wc (C0 0) (C0 0) (.slice none 0 0);have s3:=an wc (.cells #[C0 0,C0 0,.slice none 0 0] 24);have x3:=x2.all t;have L:=ay d1 t;have M:=ay c2 t;generalize wc.alloc (.cells #[C0 0,C0 0,.slice none 0 0] 24)=N at*;rw[s2,J,G]at K;rw[G]at L;rw[J,G]at M;have hd:N.heap.size=w.heap.size+1+1+1+1:=by omega
 rw[<-hd]at h;have bb:H8 w N:=((O.trans (I.mono (by omega))).trans (H.mono (by omega))).trans (t.mono (by omega));exact⟨bb.trans (h.mono (by omega)),x3.all h,⟨ay L h,ay M h⟩,K.all h⟩
theorem OJ(r c:Int)(ao:GY)(n cap:Nat)(i k a b:Int)(w:World)(I:n<=35184372088830)(h:kx r c n=false):
  GF 95 #[.agg #[C0 r,C0 c,.slice ao n cap],C0 i,C0 k,C0 a,C0 b] w fun e F=>∃v,e=.returned (.tuple #[v,C0 1])/\bO w.heap.size F 0 0 [] v/\H8 w F:=by
 have K:=ac (kr r c ao n cap ((((w.alloc (.cells #[C0 r,C0 c,.slice ao n cap] 24)).alloc (.cells #[C0 i] 3)).alloc (.cells #[C0 k] 3)).alloc (.cells #[C0 0,C0 0,.slice none 0 0] 24)) I);rw[h]at K;(try unfold BS at K);(try unfold H8 at K);simp only[an]at K;have G:=ac (GP w (C0 r) (C0 c) (.slice ao n cap) (C0 i) (C0 k));clear h
 go_enter Tryz.func95,Tryz.ntmps95
 go_wp2_with fail;refine Calls.mono (uH K) ?_;rintro e Q ⟨rfl,t⟩;obtain⟨H,M,⟨N,O⟩,l⟩:=uH G Q t;clear K G t M N O;have U:=l.free 0;have Z:=l.free 1;have f2:=l.free 2;have s0:=l.c0;have s1:=l.c1;have s2:=l.c2;have D:=l.put (C0 0) (C0 0) (.slice none 0 0);have J:=D.c0;have z1:=D.c1;have z2:=D.c2;have L:=ac (az H (b:=w.heap.size+1+1+1) (by omega) (C0 0) (C0 0) (.slice none 0 0));clear D l H
 go_wp2
 exact bodyPost_ret (v:=.tuple #[.agg #[C0 0,C0 0,.slice none 0 0],C0 1]) (by simp[results,Tryz.results95,go_sem,J,z1,z2]) rfl ⟨_,rfl,bO.zero _ _,uH L⟩
theorem GS(r c:Int)(ao:GY)(n cap:Nat)(i k a b:Int)(x y:Nat)(S:H3)(w:World)(hn:n<=35184372088830)(h:kx r c n=true)(Z:∀F,GF 153 #[C0 i,C0 a,C0 r] F fun x l=>x=.returned (.bool true)/\F=l)(L2:∀F,GF 153 #[C0 k,C0 b,C0 c] F fun x l=>x=.returned (.bool true)/\F=l)
  (C:∀t,H8 w t->aE t w.heap.size (C0 r) (C0 c) (.slice ao n cap)->t.cell? ⟨w.heap.size+1,0,none⟩=some (C0 i)->t.cell? ⟨w.heap.size+1+1,0,none⟩=some (C0 k)->GF 131 #[C0 a,C0 b,.func (.func 154) #[] #[.pointer (some ⟨w.heap.size,0,none⟩),.pointer (some ⟨w.heap.size+1,0,none⟩),.pointer (some ⟨w.heap.size+1+1,0,none⟩)]] t fun e l=>∃v,e=.returned v/\bO t.heap.size l x y S v/\H8 t l):
  GF 95 #[.agg #[C0 r,C0 c,.slice ao n cap],C0 i,C0 k,C0 a,C0 b] w fun e F=>∃v,e=.returned (.tuple #[v,C0 0])/\bO w.heap.size F x y S v/\H8 w F:=by
 have M1:=ac Z;have M2:=ac L2;clear Z L2;have K:=ac (kr r c ao n cap ((((w.alloc (.cells #[C0 r,C0 c,.slice ao n cap] 24)).alloc (.cells #[C0 i] 3)).alloc (.cells #[C0 k] 3)).alloc (.cells #[C0 0,C0 0,.slice none 0 0] 24)) hn);rw[h]at K;(try unfold BS at K);(try unfold H8 at K);simp only[an]at K;have KB:=ac (GP w (C0 r) (C0 c) (.slice ao n cap) (C0 i) (C0 k));have KT:=ac (fun t (G:H8 w t) (H:aE t w.heap.size (C0 r) (C0 c) (.slice ao n cap)) (O:t.cell? ⟨w.heap.size+1,0,none⟩=some (C0 i)) (U:t.cell? ⟨w.heap.size+1+1,0,none⟩=some (C0 k)) (D:aE t (w.heap.size+1+1+1) (C0 0) (C0 0) (.slice none 0 0))=>(C t G H O U).mono (R':=fun e l=>∃v,e=.returned v/\bO w.heap.size l x y S v/\H8 w l/\aE l (w.heap.size+1+1+1) (C0 0) (C0 0) (.slice none 0 0)) (by
  rintro e l ⟨v,rfl,h1,h2⟩;exact⟨v,rfl,h1.least G.size,G.trans (h2.mono G.size),D.all h2⟩))
 clear h C
 go_enter Tryz.func95,Tryz.ntmps95
 go_wp2_with fail;refine Calls.mono (uH K) ?_;rintro e t ⟨rfl,I⟩;obtain⟨G,H,⟨O,U⟩,D⟩:=uH KB t I;have p0:=H.c0;have p1:=H.c1;have p2:=H.c2;have KC:=ac (uH KT t G H O U D);clear K KB KT I H D G;go_wp2_with fail;refine(uH M1 _).mono ?_;rintro e w9 ⟨rfl,rfl⟩;clear M1;go_wp2_with fail;refine(uH M2 _).mono ?_;rintro e w9 ⟨rfl,rfl⟩;clear M2;go_wp2_with fail;refine Calls.mono (uH KC) ?_;clear KC;rintro e w2 ⟨v,rfl,⟨J,L,rfl,n1,q1⟩,M,D⟩;have f0:=D.free 0;have f1:=D.free 1;have f2:=D.free 2;have N:=D.put (C0 x) (C0 y) (.slice J S.length L);have z0:=N.c0;have z1:=N.c1;have z2:=N.c2;have s0:=D.c0;have s1:=D.c1;have s2:=D.c2;have Q:=ac (q1.putM D (C0 x) (C0 y) (.slice J S.length L));have BP:=ac (az M (b:=w.heap.size+1+1+1) (by omega) (C0 x) (C0 y) (.slice J S.length L));clear N q1 M D
 go_wp2
 exact bodyPost_ret (v:=.tuple #[.agg #[C0 x,C0 y,.slice J S.length L],C0 0]) (by simp[results,Tryz.results95,go_sem,z0,z1,z2]) rfl ⟨_,rfl,⟨J,L,rfl,n1,uH Q⟩,uH BP⟩
theorem Pt(r c:Int)(x y:Nat)(S:H3)(w:World)(h:En r c=true)
  (C:∀D,H8 w D->GF 131 #[C0 r,C0 c,.func (.func 231) #[] #[]] D fun e l=>∃v,e=.returned v/\bO D.heap.size l x y S v/\H8 D l):
  GF 201 #[C0 r,C0 c] w fun e I=>∃v,e=.returned (.tuple #[v,C0 0])/\bO w.heap.size I x y S v/\H8 w I:=by
 have K:=ac (fun I=>js r c I);rw[h]at K;have L:=ac ((C _ (ad w (.cells #[C0 0,C0 0,.slice none 0 0] 24))).mono (R':=fun e l=>∃v,e=.returned v/\bO w.heap.size l x y S v/\H8 w l/\aE l w.heap.size (C0 0) (C0 0) (.slice none 0 0)) (by
  rintro e l ⟨v,rfl,Z,M⟩;have b:=ad w (.cells #[C0 0,C0 0,.slice none 0 0] 24);exact⟨v,rfl,Z.least b.size,b.trans (M.mono b.size),(aE.new w (C0 0) (C0 0) (.slice none 0 0)).all M⟩))
 clear h C
 go_enter Tryz.func201,Tryz.ntmps201
 go_wp2_with fail;refine(uH K _).mono ?_;rintro e D ⟨rfl,rfl⟩;clear K;go_wp2_with fail;refine Calls.mono (uH L) ?_;clear L;rintro e w2 ⟨v,rfl,⟨F,G,rfl,n1,N⟩,H,t⟩;have f0:=t.free 0;have f1:=t.free 1;have f2:=t.free 2;have J:=t.put (C0 x) (C0 y) (.slice F S.length G);have O:=J.c0;have z1:=J.c1;have z2:=J.c2;have s0:=t.c0;have s1:=t.c1;have s2:=t.c2;have Q:=ac (N.putM t (C0 x) (C0 y) (.slice F S.length G));have U:=ac (az H (b:=w.heap.size) (by omega) (C0 x) (C0 y) (.slice F S.length G));clear J N H t
 go_wp2
 exact bodyPost_ret (v:=.tuple #[.agg #[C0 x,C0 y,.slice F S.length G],C0 0]) (by simp[results,Tryz.results201,go_sem,O,z1,z2]) rfl ⟨_,rfl,⟨F,G,rfl,n1,uH Q⟩,uH U⟩
theorem KW(r:Int)(x y:Nat)(S:H3)(w:World)(h:En r r=true)
  (C:∀D,H8 w D->GF 131 #[C0 r,C0 r,.func (.func 209) #[] #[]] D fun e l=>∃v,e=.returned v/\bO D.heap.size l x y S v/\H8 D l):
  GF 170 #[C0 r] w fun e I=>∃v,e=.returned (.tuple #[v,C0 0])/\bO w.heap.size I x y S v/\H8 w I:=by
 have K:=ac (fun I=>js r r I);rw[h]at K;have L:=ac ((C _ (ad w (.cells #[C0 0,C0 0,.slice none 0 0] 24))).mono (R':=fun e l=>∃v,e=.returned v/\bO w.heap.size l x y S v/\H8 w l/\aE l w.heap.size (C0 0) (C0 0) (.slice none 0 0)) (by
  rintro e l ⟨v,rfl,Z,M⟩;have b:=ad w (.cells #[C0 0,C0 0,.slice none 0 0] 24);exact⟨v,rfl,Z.least b.size,b.trans (M.mono b.size),(aE.new w (C0 0) (C0 0) (.slice none 0 0)).all M⟩))
 clear h C
 go_enter Tryz.func170,Tryz.ntmps170
 go_wp2_with fail;refine(uH K _).mono ?_;rintro e D ⟨rfl,rfl⟩;clear K;go_wp2_with fail;refine Calls.mono (uH L) ?_;clear L;rintro e w2 ⟨v,rfl,⟨F,G,rfl,n1,N⟩,H,t⟩;have f0:=t.free 0;have f1:=t.free 1;have f2:=t.free 2;have J:=t.put (C0 x) (C0 y) (.slice F S.length G);have O:=J.c0;have z1:=J.c1;have z2:=J.c2;have s0:=t.c0;have s1:=t.c1;have s2:=t.c2;have Q:=ac (N.putM t (C0 x) (C0 y) (.slice F S.length G));have U:=ac (az H (b:=w.heap.size) (by omega) (C0 x) (C0 y) (.slice F S.length G));clear J N H t
 go_wp2
 exact bodyPost_ret (v:=.tuple #[.agg #[C0 x,C0 y,.slice F S.length G],C0 0]) (by simp[results,Tryz.results170,go_sem,O,z1,z2]) rfl ⟨_,rfl,⟨F,G,rfl,n1,uH Q⟩,uH U⟩
theorem La(r c n cap p q m d:Nat)(ao Z:GY)(x y:Nat)(S T:H3)(w:World)(hn:n<=36)(hm:m<=36)(_hr:r<=6)(_hc:c<=6)(_hp:p<=6)(_hq:q<=6)(h:(kx r c n&&kx p q m)=true)(he:c=p)
  (C1:∀l,H8 w l->GF 134 #[.agg #[C0 p,C0 q,.slice Z m d]] l fun e t=>∃v,e=.returned v/\bO l.heap.size t q p T v/\H8 l t)
  (C:∀l g I J,H8 w l->aE l w.heap.size (C0 r) (C0 c) (.slice ao n cap)->aE l g (C0 q) (C0 p) (.slice I T.length J)->ag l I J (aX T)->GF 131 #[C0 r,C0 q,.func (.func 135) #[] #[.pointer (some ⟨w.heap.size,0,none⟩),.pointer (some ⟨g,0,none⟩)]] l fun e t=>∃v,e=.returned v/\bO l.heap.size t x y S v/\H8 l t):
  GF 75 #[.agg #[C0 r,C0 c,.slice ao n cap],.agg #[C0 p,C0 q,.slice Z m d]] w fun e w'=>∃v,e=.returned (.tuple #[v,C0 0])/\bO w.heap.size w' x y S v/\H8 w w':=by
 have K:=ac (zQ r c ao n cap p q Z m d (((w.alloc (.cells #[C0 r,C0 c,.slice ao n cap] 24)).alloc (.cells #[C0 p,C0 q,.slice Z m d] 24)).alloc (.cells #[C0 0,C0 0,.slice none 0 0] 24)) (by omega) (by omega));rw[h]at K;(try unfold BS at K);(try unfold H8 at K);simp only[an]at K;have KB:=ac (zT w (C0 r) (C0 c) (.slice ao n cap) (C0 p) (C0 q) (.slice Z m d) (C0 0) (C0 0) (.slice none 0 0));have M1:=ac C1;have KT:=ac (fun l g I J (M:H8 w l) (N:aE l w.heap.size (C0 r) (C0 c) (.slice ao n cap)) (hT:aE l g (C0 q) (C0 p) (.slice I T.length J)) (hq:ag l I J (aX T)) (F:aE l (w.heap.size+1+1) (C0 0) (C0 0) (.slice none 0 0))=>(C l g I J M N hT hq).mono (R':=fun e t=>∃v,e=.returned v/\bO w.heap.size t x y S v/\H8 w t/\aE t (w.heap.size+1+1) (C0 0) (C0 0) (.slice none 0 0)) (by
  rintro e t ⟨v,rfl,h1,h2⟩;exact⟨v,rfl,h1.least M.size,M.trans (h2.mono M.size),F.all h2⟩))
 subst he;clear h C C1
 go_enter Tryz.func75,Tryz.ntmps75
 go_wp2_with fail;refine Calls.mono (uH K) ?_;rintro e l ⟨rfl,am⟩;obtain⟨M,N,H,F⟩:=uH KB l am;have p0:=N.c0;have p1:=N.c1;have p2:=N.c2;have q0:=H.c0;have ap:=H.c1;have q2:=H.c2;have HB:=ac M;have HA:=ac N;have HX:=ac F;have aa:=ac H;clear K KB am N H F M;go_wp2_with fail;refine(uH M1 _ (uH HB)).mono ?_;rintro e w2 ⟨v,rfl,⟨I,J,rfl,n1,q1⟩,D⟩;have U:=ad w2 (.cells #[C0 q,C0 c,.slice I T.length J] 24);have O:=(uH HB).trans (D.mono (uH HB).size);have ae:=O.trans (U.mono O.size);have G:=((uH HA).all D).all U;have L:=((uH aa).all D).all U;have KC:=ac (uH KT _ w2.heap.size I J ae G (aE.new w2 _ _ _) (q1.below U) (((uH HX).all D).all U));clear p0 p1 p2 q0 ap q2;have p0:=G.c0;have p1:=G.c1;have p2:=G.c2;have q0:=L.c0;have q3:=L.c1;have q2:=L.c2;clear HB HA HX aa D U O ae G L q1 M1 KT n1;go_wp2_with fail;refine Calls.mono (uH KC) ?_;clear KC;rintro e w2 ⟨v,rfl,⟨ro,rd,rfl,n1,q1⟩,D,F⟩;have f0:=F.free 0;have f1:=F.free 1;have f2:=F.free 2;have XP:=F.put (C0 x) (C0 y) (.slice ro S.length rd);have z0:=XP.c0;have z1:=XP.c1;have z2:=XP.c2;have s0:=F.c0;have s1:=F.c1;have s2:=F.c2;have Q:=ac (q1.putM F (C0 x) (C0 y) (.slice ro S.length rd));have BP:=ac (az D (b:=w.heap.size+1+1) (by omega) (C0 x) (C0 y) (.slice ro S.length rd));clear XP q1 D F
 go_wp2
 exact bodyPost_ret (v:=.tuple #[.agg #[C0 x,C0 y,.slice ro S.length rd],C0 0]) (by simp[results,Tryz.results75,go_sem,z0,z1,z2]) rfl ⟨_,rfl,⟨ro,rd,rfl,n1,uH Q⟩,uH BP⟩
end Go.Proofs.YtcbcmlaogehimaaGreatDoor
namespace Go.Proofs.YtcbcmlaogehimaaGreatDoor
open Go.RowKit
theorem GT(r c cap:Nat)(ao:GY)(S:H3)(w:World)(h:Mx w ao cap r c S):
  GF 103 #[.agg #[C0 r,C0 c,.slice ao S.length cap]] w fun e l=>∃v,e=.returned (.tuple #[v,C0 0])/\bO w.heap.size l c r (sG r c S) v/\H8 w l:=
 GM r c ao S.length cap c r (sG r c S) w (by have:=h.small;omega) (pw h) (fun t D=>rM r c cap ao S t (h.below D))
theorem Lb(args:Array Value)(w:World):(callFunc 154 args).run Tryz.prog w=.ok (.enter 154 args) w:=by
 simp only[callFunc,go_sem];rfl
theorem OK(args:Array Value)(w:World):(callFunc 135 args).run Tryz.prog w=.ok (.enter 135 args) w:=by
 simp only[callFunc,go_sem];rfl
theorem GU(args:Array Value)(w:World):(callFunc 231 args).run Tryz.prog w=.ok (.enter 231 args) w:=by
 simp only[callFunc,go_sem];rfl
theorem OL(args:Array Value)(w:World):(callFunc 209 args).run Tryz.prog w=.ok (.enter 209 args) w:=by
 simp only[callFunc,go_sem];rfl
theorem k7(r c cap i k a b:Nat)(ao:GY)(S:H3)(w:World)(h:Mx w ao cap r c S)(K:i+a<=r)(L:k+b<=c):
  GF 95 #[.agg #[C0 r,C0 c,.slice ao S.length cap],C0 i,C0 k,C0 a,C0 b] w fun e l=>∃v,e=.returned (.tuple #[v,C0 0])/\bO w.heap.size l a b (t5 c S i k a b) v/\H8 w l:=by
 have M:=h.2.2.1;have N:=h.2.2.2;refine GS r c ao S.length cap i k a b a b (t5 c S i k a b) w (by have:=h.small;omega) (pw h) (fun l=>?_) (fun l=>?_) ?_
 ·have:=xz i a r l (by omega) (by omega)
  rwa[decide_eq_true (by omega)]at this
 ·have:=xz k b c l (by omega) (by omega)
  rwa[decide_eq_true (by omega)]at this
 ·intro G F H I J
  refine me 154 _ a b _ G Lb (by omega) (by omega) (fun x y _ _=>h.el_lt _ _) ?_;intro l x y t O Q;have D:H8 w l:=F.trans (t.mono F.size);refine GO r c S.length cap x y i k _ w.heap.size (w.heap.size+1) (w.heap.size+1+1) ao l (by omega) (by omega) (H.all t) (ay I t) (ay J t) ?_;rw[show(i:Int)+(x:Int)=((i+x:Nat):Int) by simp,show(k:Int)+(y:Int)=((k+y:Nat):Int) by simp];exact Bw r c cap (i+x) (k+y) ao S l (h.below D) (by omega) (by omega)
theorem Lc(n:Nat)(w:World)(l:n<=6):
  GF 170 #[C0 n] w fun e h=>∃v,e=.returned (.tuple #[v,C0 0])/\bO w.heap.size h n n (ML n) v/\H8 w h:=
 KW n n n _ w (decide_eq_true (by omega)) (fun t _=>me 209 #[] n n _ t OL l l (fun i k _ _=>by split<;>decide) (fun h i k _ _ _=>GN i k h))
theorem ON(r c:Nat)(S:H3):(sG r c S).length=c*r:=cQ _ _ _
theorem Ld(n q k:Nat)(S T:H3)(i:Nat)(l:k<q):uR (aX (uV n S i)) (aX (uV n (sG n q T) k)) n=Em n (fun j=>a8 n S i j) (fun j=>a8 q T j k):=by
 rw[KE];refine Dz n (fun j h=>?_) (fun j h=>?_)
 ·rw[fW,zP n S i j h]
 ·rw[fW,zP n _ k j h]
  exact kw q n (fun k i=>a8 q T i k) l h
theorem Le(r c cap q d:Nat)(ao J:GY)(S T:H3)(w:World)(h:Mx w ao cap r c S)(F:Mx w J d c q T)(hT:cX w):
  GF 75 #[.agg #[C0 r,C0 c,.slice ao S.length cap],.agg #[C0 c,C0 q,.slice J T.length d]] w fun e H=>∃v,e=.returned (.tuple #[v,C0 0])/\bO w.heap.size H r q (IH r c q S T) v/\H8 w H:=by
 refine La r c S.length cap c q T.length d ao J r q (IH r c q S T) (sG c q T) w h.small F.small h.2.2.1 h.2.2.2 F.2.2.1 F.2.2.2 (by rw[pw h,pw F];rfl) rfl (fun K G=>rM c q d J T K (F.below G)) ?_;intro K g L M U hA hC hq;have hM:Mx K L M q c (sG c q T):=⟨hq,ON _ _ _,F.2.2.2,h.2.2.2⟩;refine me 135 _ r q _ K OK h.2.2.1 F.2.2.2 (fun i k _ _=>GH _ _ _) ?_;intro H i k G hi Z;have I:H8 w H:=U.trans (G.mono U.size);refine KU r c S.length cap q c (sG c q T).length M i k _ w.heap.size g ao L (aX (uV c S i)) (aX (uV c (sG c q T) k)) H (hA.all G) (hC.all G) (fun t l=>Bx r c cap i ao S t ((h.below I).below l) hi) (fun t l=>Bx q c M k L (sG c q T) t ((hM.below G).below l) Z) ?_;intro t so sd ro rd l hu hv;have N:(aX (uV c S i)).length=c:=by rw[aC,mc]
 have O:(aX (uV c (sG c q T) k)).length=c:=by rw[aC,mc]
 have c6:=h.2.2.2;have Q:Ow (aX (uV c S i)) (aX (uV c (sG c q T) k))=true:=decide_eq_true (by rw[N,O];omega);have D:=xh so ro sd rd _ _ t hu hv ((hT.all I).all l);rw[if_pos Q,if_pos Q,N,O,Ld c q k S T i Z]at D;exact D
attribute [local go_sem ↓] Go.wp_at_zero Go.wp_at_succ
theorem rN(r c:Int)(ao:GY)(n cap:Nat)(w:World):
  BS 47 #[.agg #[C0 r,C0 c,.slice ao n cap]] w (.bool (kx r c n)):=by
 have l:=ac (ad w (.cells #[C0 r,C0 c,.slice ao n cap] 24));rcases(show(r<0/\kx r c n=false)\/(0<=r/\6<r/\kx r c n=false)\/(0<=r/\r<=6/\c<0/\kx r c n=false)\/(0<=r/\r<=6/\0<=c/\6<c/\kx r c n=false)\/(0<=r/\r<=6/\0<=c/\c<=6) by
  unfold kx
  by_cases h:0<=r/\r<=6/\0<=c/\c<=6
  ·omega
  ·rw[decide_eq_false (fun g=>h g.1)];simp;omega)with⟨h1,e⟩|⟨h1,h2,e⟩|⟨h1,h2,h3,e⟩|⟨h1,h2,h3,h4,e⟩|⟨h1,h2,h3,h4⟩
 ·rw[e]
  clear e
  go_enter Tryz.func47,Tryz.ntmps47
  go_wp2
  go_ret
  exact⟨rfl,uH l⟩
 ·rw[e]
  clear e
  go_enter Tryz.func47,Tryz.ntmps47
  go_wp2
  go_ret
  exact⟨rfl,uH l⟩
 ·rw[e]
  clear e
  go_enter Tryz.func47,Tryz.ntmps47
  go_wp2
  go_ret
  exact⟨rfl,uH l⟩
 ·rw[e]
  clear e
  go_enter Tryz.func47,Tryz.ntmps47
  go_wp2
  go_ret
  exact⟨rfl,uH l⟩
 ·have t:∃m:Nat,r*c=(m:Int)/\m<=36:=by
   obtain⟨a,rfl⟩:=Int.eq_ofNat_of_zero_le h1;obtain⟨b,rfl⟩:=Int.eq_ofNat_of_zero_le h3;refine⟨a*b,by simp,?_⟩;have:a*b<=6*6:=Nat.mul_le_mul (by omega) (by omega);omega
  obtain⟨m,t,G⟩:=t;have D:kx r c n=decide ((n:Int)=(m:Int)):=decide_eq_decide.2 (by rw[t];exact⟨fun h=>h.2,fun h=>⟨⟨h1,h2,h3,h4⟩,h⟩⟩);rw[D];clear D
  go_enter Tryz.func47,Tryz.ntmps47
  go_wp2
  go_ret
  refine⟨?_,uH l⟩
  first|rfl|simp
theorem OO(r c n cap b h i k q x:Nat)(w:World)(H:(i:Int)*(c:Int)=(q:Int))(D:q+k<n)(I:n<=36)
  (t:w.cell? ⟨b,h+(q+k),none⟩=some (CI (x:Nat))):
  BS 61 #[.agg #[C0 r,C0 c,.slice (some ⟨b,h,none⟩) n cap],C0 i,C0 k] w (CI (x:Nat)):=by
 have l:=ac (ad w (.cells #[C0 r,C0 c,.slice (some ⟨b,h,none⟩) n cap] 24));have J:=ay t (uH l);clear t;have G:(q:Int)+(k:Int)<(n:Int):=by omega
 go_enter Tryz.func61,Tryz.ntmps61
 go_wp2
 go_ret
 exact⟨rfl,uH l⟩
theorem uW(r c cap i k:Nat)(ao:GY)(S:H3)(w:World)(h:Mx w ao cap r c S)(t:i<r)(D:k<c):
  BS 61 #[.agg #[C0 r,C0 c,.slice ao S.length cap],C0 i,C0 k] w (CI (a8 c S i k:Nat)):=by
 obtain⟨b,l,rfl,I,G,H⟩:=h.cells t D;exact OO r c S.length cap b l i k (i*c) _ w (ch i c) H h.small G
theorem Lf(r c n cap i q p:Nat)(ao:GY)(w:World)(H:(i:Int)*(c:Int)=(q:Int))(I:((i:Int)+1)*(c:Int)=(p:Int))(t:q<=p)(D:p<=n)(F:n<=cap)(J:n<=36)(K:i<=6):
  BS 59 #[.agg #[C0 r,C0 c,.slice ao n cap],C0 i] w (.slice (if cap=q then ao else ao.map (·.add (q*1))) (p-q) (cap-q)):=by
 have l:=ac (ad w (.cells #[C0 r,C0 c,.slice ao n cap] 24))
 by_cases h:cap=q
 ·subst h
  rw[if_pos rfl]
  go_enter Tryz.func59,Tryz.ntmps59
  go_wp2
  go_ret
  exact⟨by simp,uH l⟩
 ·rw[if_neg h]
  go_enter Tryz.func59,Tryz.ntmps59
  go_wp2
  go_ret
  exact⟨by simp,uH l⟩
theorem xA(r c cap i:Nat)(ao:GY)(S:H3)(w:World)(h:Mx w ao cap r c S)(t:i<r):
  GF 59 #[.agg #[C0 r,C0 c,.slice ao S.length cap],C0 i] w fun e l=>∃D d,e=.returned (.slice D c d)/\ag l D d (aX (uV c S i))/\H8 w l:=by
 have H:(i+1)*c<=S.length:=by rw[h.2.1];exact Nat.mul_le_mul_right c t
 have I:i*c<=(i+1)*c:=Nat.mul_le_mul_right c (by omega);have F:=h.1.1;rw[aC]at F;have J:=h.2.2.1;refine(Lf r c S.length cap i (i*c) ((i+1)*c) ao w (ch i c) (by simp) I H F h.small (by omega)).mono ?_;rintro e l ⟨rfl,G⟩;rw[show(i+1)*c-i*c=c by rw[Nat.add_mul,Nat.one_mul];omega];exact⟨_,_,rfl,xw h G t,G⟩
theorem cT.at{l:Nat}{w:World}{ao:GY}{n cap:Nat}{S:H3}(h:cT l w (.slice ao n cap) S){j:Nat}(F:j<S.length):
  ∃g,ao=some ⟨g,0,none⟩/\l<=g/\g<w.heap.size/\w.cell? ⟨g,j,none⟩=some (CI (S.getD j 0:Nat))/\w.frozen? ⟨g,j,none⟩=false/\
   ∀x,x<18446744073709551616->cT l (w.setCell ⟨g,j,none⟩ (CI (x:Nat))) (.slice ao n cap) (S.set j x):=by
 obtain⟨⟨Z,L⟩,M⟩:=h;rcases L with⟨_,h0⟩|⟨g,G,D,H,I,t,O,Q,U,J⟩
 ·omega
 ·simp only[Value.slice.injEq]at H
  obtain⟨rfl,rfl,rfl⟩:=H;have q:(S.map ml)[j]? =some (CI ((S[j]:Nat):Int)):=by
   rw[List.getElem?_map,List.getElem?_eq_getElem F];rfl
  rw[<-J,List.getElem?_take,if_pos (by omega)]at q;refine⟨g,rfl,I,(Array.getElem?_eq_some_iff.1 t).1,?_,frozen_of_row w g j _ _ t,fun x K=>⟨⟨by simp,.inr ⟨g,cap,D.setIfInBounds j (CI (x:Nat)),?_,I,heap_setCell_same w g j _ _ _ t,by simpa using O,Q,by simpa using U,?_⟩⟩,?_⟩⟩
  ·rw[cell_of_row w g j _ _ _ t]
   have e:S.getD j 0=S[j]:=by rw[List.getD_eq_getElem?_getD,List.getElem?_eq_getElem F];rfl
   rw[e]
   simpa using q
  ·simp
  ·rw[Array.toList_setIfInBounds,List.take_set,List.length_set,J,List.map_set]
   rfl
  ·intro y N
   rcases List.mem_or_eq_of_mem_set N with e|e
   ·exact M y e
   ·rw[e];exact K
theorem rO{P:Program}(w:World){H:Array Oper}{o:Oper}{a:Act}{K:Act->World->Prop}{Q:Exit->Act->World->Prop}{E:Prop}(J:o.guard=none)(s x:Operand)(t:TypeId)
  (N:o.op=.call {callee:=.builtin .append,args:=#[s,x],argTypes:=#[t,t]}) (L M:Value) (n:Nat) (F:GY->Nat->World->Prop) (O:a.eval s=L) (U:a.eval x=M)
  (Z:∃l D G,(Builtin.append_ #[t,t] o.type #[L,M]).run P w=.ok (.slice l n D) G/\F l D G) (h:∀l D G,F l D G->K (a.put o.dst (.slice l n D)) G):
  if Region.wanted o (yielded H a.tmps)=true then Oper.wp P o a w K Q else E:=by
 have hw:Region.wanted o (yielded H a.tmps)=true:=by simp[Region.wanted,J]
 rw[if_pos hw];obtain⟨l,D,G,I,hF⟩:=Z;unfold Oper.wp execOp;simp only[N,resolve,invoke,builtin,Sem.run_bind,Sem.run_pure,Result.andThen_ok,List.map_toArray,List.map_cons,List.map_nil,O,U,I];exact h l D G hF
def jl(w:World)(g:Nat)(lo s:Int):Prop:=∃n a l c X,ar w g (.bool n) (.slice a l c) (C0 X)/\aN w (.agg #[.bool n,.slice a l c,C0 X]) lo s
theorem jl.all{w t:World}{g:Nat}{lo s:Int}(h:jl w g lo s)(D:H8 w t):jl t g lo s:=by
 obtain⟨n,a,l,c,X,F,G⟩:=h;exact⟨n,a,l,c,X,F.all D,G.below D⟩
theorem jl.lt{w:World}{g:Nat}{lo s:Int}(h:jl w g lo s):g<w.heap.size:=by
 obtain⟨n,a,l,c,X,t,D⟩:=h;exact t.lt
theorem jl.new(w:World)(lo:Int):jl (w.alloc (.cells #[.bool false,.slice none 0 0,C0 0] 35)) w.heap.size lo 0:=
 ⟨false,none,0,0,0,ar.new w _ _ _,aN.zero _ _⟩
end Go.Proofs.YtcbcmlaogehimaaGreatDoor
namespace Go.Proofs.YtcbcmlaogehimaaGreatDoor
open Go.RowKit
structure Nm where
 neg:Bool
 ao:GY
 cap:Nat
 L:H3
structure Rw where
 ao:GY
 cap:Nat
 R:List Nm
def Nm.nil:Nm:=⟨false,none,0,[]⟩
def Rw.nil:Rw:=⟨none,0,[]⟩
def Q7(R:List Nm)(k:Nat):Nm:=R[k]?.getD Nm.nil
def Q8(M:List Rw)(i:Nat):Rw:=M[i]?.getD Rw.nil
end Go.Proofs.YtcbcmlaogehimaaGreatDoor
