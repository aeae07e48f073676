/- Part 23 of the texts. -/
import Derived.Test.YtdhmglmccafbnaaGreatDoorPartw22
set_option maxHeartbeats 4000000
set_option maxRecDepth 20000
namespace Go.Proofs.YtdhmglmccafbnaaGreatDoor
open Go.RowKit
attribute [local go_sem ↓] Go.wp_at_zero Go.wp_at_succ
theorem uU(w:World)(x y z:Value)(d:World)(h:Below (w.heap.size+1) (w.alloc (.cells #[x,y,z] 25)) d):
  Below w.heap.size w d∧aw d w.heap.size x y z:=by
 have f:=ac w (.cells #[x,y,z] 25)
 exact⟨f.trans (h.mono (by omega)),(aw.new w x y z).below h (by omega)⟩
theorem gC(w:World)(x y z f l u:Value)(d:World)(h:Below (w.heap.size+1+1) ((w.alloc (.cells #[x,y,z] 25)).alloc (.cells #[f,l,u] 25)) d):
  Below w.heap.size w d∧aw d w.heap.size x y z∧aw d (w.heap.size+1) f l u:=by
 have D:=ah w (.cells #[x,y,z] 25)
 have H:Below ((w.alloc (.cells #[x,y,z] 25)).heap.size+1) ((w.alloc (.cells #[x,y,z] 25)).alloc (.cells #[f,l,u] 25)) d:=by rw[D];exact h
 obtain⟨F,G⟩:=uU _ f l u d H
 rw[D]at F G
 obtain⟨J,K⟩:=uU w x y z d F
 exact⟨J,K,G⟩
theorem qT(w:World)(x y z f l u D F z2:Value)(d:World)(h:Below (w.heap.size+1+1+1) (((w.alloc (.cells #[x,y,z] 25)).alloc (.cells #[f,l,u] 25)).alloc (.cells #[D,F,z2] 25)) d):
  Below w.heap.size w d∧aw d w.heap.size x y z∧aw d (w.heap.size+1) f l u∧aw d (w.heap.size+1+1) D F z2:=by
 have G:=ah w (.cells #[x,y,z] 25)
 have L:Below ((w.alloc (.cells #[x,y,z] 25)).heap.size+1+1) (((w.alloc (.cells #[x,y,z] 25)).alloc (.cells #[f,l,u] 25)).alloc (.cells #[D,F,z2] 25)) d:=by rw[G];exact h
 obtain⟨H,J,K⟩:=gC _ f l u D F z2 d L
 rw[G]at H J K
 obtain⟨M,N⟩:=uU w x y z d H
 exact⟨M,N,J,K⟩
theorem Bm(i k:Nat)(w:World):
  Calls Tryz.prog 196 #[.int .i64 i,.int .i64 k] w fun e w'=>e=.returned (.int .u64 ((if k=i then 4607182418800017408 else 0:Nat):Int))∧Below w.heap.size w w':=by
 by_cases h:k=i
 ·rw[if_pos h]
  subst h
  go_enter Tryz.func196,Tryz.ntmps196
  go_wp2
  go_ret
  exact⟨rfl,Below.refl _ _⟩
 ·rw[if_neg h]
  have d:decide ((i:Int)=(k:Int))=false:=decide_eq_false (by omega)
  go_enter Tryz.func196,Tryz.ntmps196
  go_wp2
  go_ret
  exact⟨rfl,Below.refl _ _⟩
theorem Bn(r c n d i k a b x l u bk:Nat)(z:Option Addr)(w:World)(D:a+i≤6)(F:b+k≤6)(f:aw w l (.int .i64 r) (.int .i64 c) (.slice z n d))(G:w.cell? ⟨u,0,none⟩=some (.int .i64 (a:Nat)))(H:w.cell? ⟨bk,0,none⟩=some (.int .i64 (b:Nat)))
  (C:Calls Tryz.prog 183 #[.agg #[.int .i64 r,.int .i64 c,.slice z n d],.int .i64 ((a:Int)+(i:Int)),.int .i64 ((b:Int)+(k:Int))] w fun e w'=>e=.returned (.int .u64 (x:Nat))∧Below w.heap.size w w'):
  Calls Tryz.prog 182 #[.int .i64 i,.int .i64 k,.pointer (some ⟨l,0,none⟩),.pointer (some ⟨u,0,none⟩),.pointer (some ⟨bk,0,none⟩)] w fun e w'=>e=.returned (.int .u64 (x:Nat))∧Below w.heap.size w w':=by
 have K:=aa C
 have J:=f.c0;have L:=f.c1;have p2:=f.c2
 clear C f
 go_enter Tryz.func182,Tryz.ntmps182
 go_wp2_with fail
 refine Calls.mono (uH K) ?_
 rintro e M ⟨rfl,h⟩
 clear K
 go_wp2
 go_ret
 exact⟨rfl,h⟩
theorem Bo(w:World)(x y z u v:Value)(d:World)(h:Below (w.heap.size+1+1+1+1) ((((w.alloc (.cells #[x,y,z] 25)).alloc (.cells #[u] 3)).alloc (.cells #[v] 3)).alloc (.cells #[.int .i64 0,.int .i64 0,.slice none 0 0] 25)) d):
  Below w.heap.size w d∧aw d w.heap.size x y z∧(d.cell? ⟨w.heap.size+1,0,none⟩=some u∧d.cell? ⟨w.heap.size+1+1,0,none⟩=some v)∧aw d (w.heap.size+1+1+1) (.int .i64 0) (.int .i64 0) (.slice none 0 0):=by
 have O:=ac w (.cells #[x,y,z] 25)
 have Q:=aw.new w x y z
 have F:=ah w (.cells #[x,y,z] 25)
 generalize w.alloc (.cells #[x,y,z] 25)=l at*
 have H:=ac l (.cells #[u] 3)
 have U:=fd l u 3
 have J:=ah l (.cells #[u] 3)
 have V:=Q.all H
 generalize l.alloc (.cells #[u] 3)=D at*
 have G:=ac D (.cells #[v] 3)
 have X:=fd D v 3
 have Y:=ah D (.cells #[v] 3)
 have Z:=V.all G
 have d1:=ak U G
 generalize D.alloc (.cells #[v] 3)=wc at*
 have f:=ac wc (.cells #[.int .i64 0,.int .i64 0,.slice none 0 0] 25)
 have K:=aw.new wc (.int .i64 0) (.int .i64 0) (.slice none 0 0)
 have s3:=ah wc (.cells #[.int .i64 0,.int .i64 0,.slice none 0 0] 25)
 have x3:=Z.all f
 have L:=ak d1 f
 have M:=ak X f
 generalize wc.alloc (.cells #[.int .i64 0,.int .i64 0,.slice none 0 0] 25)=N at*
 rw[Y,J,F]at K
 rw[F]at L
 rw[J,F]at M
 have hd:N.heap.size=w.heap.size+1+1+1+1:=by omega
 rw[←hd]at h
 have bb:Below w.heap.size w N:=((O.trans (H.mono (by omega))).trans (G.mono (by omega))).trans (f.mono (by omega))
 exact⟨bb.trans (h.mono (by omega)),x3.all h,⟨ak L h,ak M h⟩,K.all h⟩
theorem GQ(r c:Int)(u:Option Addr)(n d:Nat)(i k a b:Int)(w:World)(G:n≤35184372088830)(h:kK r c n=false):
  Calls Tryz.prog 121 #[.agg #[.int .i64 r,.int .i64 c,.slice u n d],.int .i64 i,.int .i64 k,.int .i64 a,.int .i64 b] w fun e w'=>∃v,e=.returned (.tuple #[v,.int .i64 1])∧bK w.heap.size w' 0 0 [] v∧Below w.heap.size w w':=by
 have K:=aa (oj r c u n d ((((w.alloc (.cells #[.int .i64 r,.int .i64 c,.slice u n d] 25)).alloc (.cells #[.int .i64 i] 3)).alloc (.cells #[.int .i64 k] 3)).alloc (.cells #[.int .i64 0,.int .i64 0,.slice none 0 0] 25)) G)
 rw[h]at K
 simp only[ah]at K
 have D:=aa (Bo w (.int .i64 r) (.int .i64 c) (.slice u n d) (.int .i64 i) (.int .i64 k))
 clear h
 go_enter Tryz.func121,Tryz.ntmps121
 go_wp2_with fail
 refine Calls.mono (uH K) ?_
 rintro e O ⟨rfl,l⟩
 obtain⟨F,L,⟨M,N⟩,f⟩:=uH D O l
 clear K D l L M N
 have Q:=f.free 0;have U:=f.free 1;have V:=f.free 2
 have X:=f.c0;have Y:=f.c1;have Z:=f.c2
 have z:=f.put (.int .i64 0) (.int .i64 0) (.slice none 0 0)
 have H:=z.c0;have z1:=z.c1;have z2:=z.c2
 have J:=aa (aq F (b:=w.heap.size+1+1+1) (by omega) (.int .i64 0) (.int .i64 0) (.slice none 0 0))
 clear z f F
 go_wp2
 exact bodyPost_ret (v:=.tuple #[.agg #[.int .i64 0,.int .i64 0,.slice none 0 0],.int .i64 1]) (by simp[results,Tryz.results121,go_sem,H,z1,z2]) rfl ⟨_,rfl,bK.zero _ _,uH J⟩
theorem Bp(r c:Int)(F:Option Addr)(n u:Nat)(i k a b:Int)(x y:Nat)(S:List Nat)(w:World)(hn:n≤35184372088830)(h:kK r c n=true)(U:∀w',Calls Tryz.prog 180 #[.int .i64 i,.int .i64 a,.int .i64 r] w' fun x d=>x=.returned (.bool true)∧w'=d)(V:∀w',Calls Tryz.prog 180 #[.int .i64 k,.int .i64 b,.int .i64 c] w' fun x d=>x=.returned (.bool true)∧w'=d)
  (C:∀f,Below w.heap.size w f→aw f w.heap.size (.int .i64 r) (.int .i64 c) (.slice F n u)→f.cell? ⟨w.heap.size+1,0,none⟩=some (.int .i64 i)→f.cell? ⟨w.heap.size+1+1,0,none⟩=some (.int .i64 k)→Calls Tryz.prog 181 #[.int .i64 a,.int .i64 b,.func (.func 182) #[] #[.pointer (some ⟨w.heap.size,0,none⟩),.pointer (some ⟨w.heap.size+1,0,none⟩),.pointer (some ⟨w.heap.size+1+1,0,none⟩)]] f fun e d=>∃v,e=.returned v∧bK f.heap.size d x y S v∧Below f.heap.size f d):
  Calls Tryz.prog 121 #[.agg #[.int .i64 r,.int .i64 c,.slice F n u],.int .i64 i,.int .i64 k,.int .i64 a,.int .i64 b] w fun e w'=>∃v,e=.returned (.tuple #[v,.int .i64 0])∧bK w.heap.size w' x y S v∧Below w.heap.size w w':=by
 have X:=aa U;have Y:=aa V
 clear U V
 have K:=aa (oj r c F n u ((((w.alloc (.cells #[.int .i64 r,.int .i64 c,.slice F n u] 25)).alloc (.cells #[.int .i64 i] 3)).alloc (.cells #[.int .i64 k] 3)).alloc (.cells #[.int .i64 0,.int .i64 0,.slice none 0 0] 25)) hn)
 rw[h]at K
 simp only[ah]at K
 have Z:=aa (Bo w (.int .i64 r) (.int .i64 c) (.slice F n u) (.int .i64 i) (.int .i64 k))
 have KT:=aa (fun f (z:Below w.heap.size w f) (D:aw f w.heap.size (.int .i64 r) (.int .i64 c) (.slice F n u)) (N:f.cell? ⟨w.heap.size+1,0,none⟩=some (.int .i64 i)) (O:f.cell? ⟨w.heap.size+1+1,0,none⟩=some (.int .i64 k)) (l:aw f (w.heap.size+1+1+1) (.int .i64 0) (.int .i64 0) (.slice none 0 0))=>(C f z D N O).mono (R':=fun e d=>∃v,e=.returned v∧bK w.heap.size d x y S v∧Below w.heap.size w d∧aw d (w.heap.size+1+1+1) (.int .i64 0) (.int .i64 0) (.slice none 0 0)) (by
  rintro e d ⟨v,rfl,h1,h2⟩
  exact⟨v,rfl,h1.least z.size,z.trans (h2.mono z.size),l.all h2⟩))
 clear h C
 go_enter Tryz.func121,Tryz.ntmps121
 go_wp2_with fail
 refine Calls.mono (uH K) ?_
 rintro e f ⟨rfl,G⟩
 obtain⟨z,D,⟨N,O⟩,l⟩:=uH Z f G
 have p0:=D.c0;have p1:=D.c1;have p2:=D.c2
 have KC:=aa (uH KT f z D N O l)
 clear K Z KT G D l z
 go_wp2_with fail
 refine(uH X _).mono ?_
 rintro e w9 ⟨rfl,rfl⟩
 clear X
 go_wp2_with fail
 refine(uH Y _).mono ?_
 rintro e w9 ⟨rfl,rfl⟩
 clear Y
 go_wp2_with fail
 refine Calls.mono (uH KC) ?_
 clear KC
 rintro e w2 ⟨v,rfl,⟨H,J,rfl,n1,q1⟩,L,l⟩
 have f0:=l.free 0;have f1:=l.free 1;have f2:=l.free 2
 have M:=l.put (.int .i64 x) (.int .i64 y) (.slice H S.length J)
 have z0:=M.c0;have z1:=M.c1;have z2:=M.c2
 have s0:=l.c0;have s1:=l.c1;have s2:=l.c2
 have Q:=aa (q1.putM l (.int .i64 x) (.int .i64 y) (.slice H S.length J))
 have BP:=aa (aq L (b:=w.heap.size+1+1+1) (by omega) (.int .i64 x) (.int .i64 y) (.slice H S.length J))
 clear M q1 L l
 go_wp2
 exact bodyPost_ret (v:=.tuple #[.agg #[.int .i64 x,.int .i64 y,.slice H S.length J],.int .i64 0]) (by simp[results,Tryz.results121,go_sem,z0,z1,z2]) rfl ⟨_,rfl,⟨H,J,rfl,n1,uH Q⟩,uH BP⟩
theorem Hg(r c:Int)(x y:Nat)(S:List Nat)(w:World)(h:Bk r c=true)
  (C:∀l,Below w.heap.size w l→Calls Tryz.prog 181 #[.int .i64 r,.int .i64 c,.func (.func 221) #[] #[]] l fun e d=>∃v,e=.returned v∧bK l.heap.size d x y S v∧Below l.heap.size l d):
  Calls Tryz.prog 173 #[.int .i64 r,.int .i64 c] w fun e w'=>∃v,e=.returned (.tuple #[v,.int .i64 0])∧bK w.heap.size w' x y S v∧Below w.heap.size w w':=by
 have K:=aa (fun w'=>iW r c w')
 rw[h]at K
 have G:=aa ((C _ (ac w (.cells #[.int .i64 0,.int .i64 0,.slice none 0 0] 25))).mono (R':=fun e d=>∃v,e=.returned v∧bK w.heap.size d x y S v∧Below w.heap.size w d∧aw d w.heap.size (.int .i64 0) (.int .i64 0) (.slice none 0 0)) (by
  rintro e d ⟨v,rfl,N,H⟩
  have b:=ac w (.cells #[.int .i64 0,.int .i64 0,.slice none 0 0] 25)
  exact⟨v,rfl,N.least b.size,b.trans (H.mono b.size),(aw.new w (.int .i64 0) (.int .i64 0) (.slice none 0 0)).all H⟩))
 clear h C
 go_enter Tryz.func173,Tryz.ntmps173
 go_wp2_with fail
 refine(uH K _).mono ?_
 rintro e l ⟨rfl,rfl⟩
 clear K
 go_wp2_with fail
 refine Calls.mono (uH G) ?_
 clear G
 rintro e w2 ⟨v,rfl,⟨u,z,rfl,O,J⟩,D,f⟩
 have U:=f.free 0;have V:=f.free 1;have X:=f.free 2
 have F:=f.put (.int .i64 x) (.int .i64 y) (.slice u S.length z)
 have L:=F.c0;have z1:=F.c1;have z2:=F.c2
 have Y:=f.c0;have Z:=f.c1;have s2:=f.c2
 have Q:=aa (J.putM f (.int .i64 x) (.int .i64 y) (.slice u S.length z))
 have M:=aa (aq D (b:=w.heap.size) (by omega) (.int .i64 x) (.int .i64 y) (.slice u S.length z))
 clear F J D f
 go_wp2
 exact bodyPost_ret (v:=.tuple #[.agg #[.int .i64 x,.int .i64 y,.slice u S.length z],.int .i64 0]) (by simp[results,Tryz.results173,go_sem,L,z1,z2]) rfl ⟨_,rfl,⟨u,z,rfl,O,uH Q⟩,uH M⟩
theorem EH(r:Int)(x y:Nat)(S:List Nat)(w:World)(h:Bk r r=true)
  (C:∀l,Below w.heap.size w l→Calls Tryz.prog 181 #[.int .i64 r,.int .i64 r,.func (.func 196) #[] #[]] l fun e d=>∃v,e=.returned v∧bK l.heap.size d x y S v∧Below l.heap.size l d):
  Calls Tryz.prog 138 #[.int .i64 r] w fun e w'=>∃v,e=.returned (.tuple #[v,.int .i64 0])∧bK w.heap.size w' x y S v∧Below w.heap.size w w':=by
 have K:=aa (fun w'=>iW r r w')
 rw[h]at K
 have G:=aa ((C _ (ac w (.cells #[.int .i64 0,.int .i64 0,.slice none 0 0] 25))).mono (R':=fun e d=>∃v,e=.returned v∧bK w.heap.size d x y S v∧Below w.heap.size w d∧aw d w.heap.size (.int .i64 0) (.int .i64 0) (.slice none 0 0)) (by
  rintro e d ⟨v,rfl,N,H⟩
  have b:=ac w (.cells #[.int .i64 0,.int .i64 0,.slice none 0 0] 25)
  exact⟨v,rfl,N.least b.size,b.trans (H.mono b.size),(aw.new w (.int .i64 0) (.int .i64 0) (.slice none 0 0)).all H⟩))
 clear h C
 go_enter Tryz.func138,Tryz.ntmps138
 go_wp2_with fail
 refine(uH K _).mono ?_
 rintro e l ⟨rfl,rfl⟩
 clear K
 go_wp2_with fail
 refine Calls.mono (uH G) ?_
 clear G
 rintro e w2 ⟨v,rfl,⟨u,z,rfl,O,J⟩,D,f⟩
 have U:=f.free 0;have V:=f.free 1;have X:=f.free 2
 have F:=f.put (.int .i64 x) (.int .i64 y) (.slice u S.length z)
 have L:=F.c0;have z1:=F.c1;have z2:=F.c2
 have Y:=f.c0;have Z:=f.c1;have s2:=f.c2
 have Q:=aa (J.putM f (.int .i64 x) (.int .i64 y) (.slice u S.length z))
 have M:=aa (aq D (b:=w.heap.size) (by omega) (.int .i64 x) (.int .i64 y) (.slice u S.length z))
 clear F J D f
 go_wp2
 exact bodyPost_ret (v:=.tuple #[.agg #[.int .i64 x,.int .i64 y,.slice u S.length z],.int .i64 0]) (by simp[results,Tryz.results138,go_sem,L,z1,z2]) rfl ⟨_,rfl,⟨u,z,rfl,O,uH Q⟩,uH M⟩
end Go.Proofs.YtdhmglmccafbnaaGreatDoor
namespace Go.Proofs.YtdhmglmccafbnaaGreatDoor
open Go.RowKit
theorem EI(d:Array Value)(w:World):(callFunc 182 d).run Tryz.prog w=.ok (.enter 182 d) w:=by
 simp only[callFunc,go_sem]
 rfl
theorem GR(d:Array Value)(w:World):(callFunc 196 d).run Tryz.prog w=.ok (.enter 196 d) w:=by
 simp only[callFunc,go_sem]
 rfl
theorem Bq(r c d i k a b:Nat)(f:Option Addr)(S:List Nat)(w:World)(h:Mx w f d r c S)(J:i+a≤r)(K:k+b≤c):
  Calls Tryz.prog 121 #[.agg #[.int .i64 r,.int .i64 c,.slice f S.length d],.int .i64 i,.int .i64 k,.int .i64 a,.int .i64 b] w fun e w'=>∃v,e=.returned (.tuple #[v,.int .i64 0])∧bK w.heap.size w' a b (GM c S i k a b) v∧Below w.heap.size w w':=by
 have L:=h.2.2.1
 have M:=h.2.2.2
 refine Bp r c f S.length d i k a b a b (GM c S i k a b) w (by have:=h.small;omega) (vW h) (fun w'=>?_) (fun w'=>?_) ?_
 ·have:=tg i a r w' (by omega) (by omega)
  rwa[decide_eq_true (by omega)]at this
 ·have:=tg k b c w' (by omega) (by omega)
  rwa[decide_eq_true (by omega)]at this
 ·intro D z F G H
  refine pX 182 _ a b _ D EI (by omega) (by omega) (fun x y _ _=>h.el_lt _ _) ?_
  intro w' x y l N O
  have u:Below w.heap.size w w':=z.trans (l.mono z.size)
  refine Bn r c S.length d x y i k _ w.heap.size (w.heap.size+1) (w.heap.size+1+1) f w' (by omega) (by omega) (F.all l) (ak G l) (ak H l) ?_
  rw[show(i:Int)+(x:Int)=((i+x:Nat):Int) by simp,show(k:Int)+(y:Int)=((k+y:Nat):Int) by simp]
  exact EG r c d (i+x) (k+y) f S w' (h.below u) (by omega) (by omega)
theorem EJ(n:Nat)(w:World)(d:n≤6):
  Calls Tryz.prog 138 #[.int .i64 n] w fun e w'=>∃v,e=.returned (.tuple #[v,.int .i64 0])∧bK w.heap.size w' n n (gE n) v∧Below w.heap.size w w':=
 EH n n n _ w (decide_eq_true (by omega)) (fun f _=>pX 196 #[] n n _ f GR d d (fun i k _ _=>by split<;>decide) (fun w' i k _ _ _=>Bm i k w'))
attribute [local go_sem ↓] Go.wp_at_zero Go.wp_at_succ
theorem uV(r c:Int)(u:Option Addr)(n f:Nat)(w:World):
  Calls Tryz.prog 62 #[.agg #[.int .i64 r,.int .i64 c,.slice u n f]] w fun e w'=>e=.returned (.bool (kK r c n))∧Below w.heap.size w w':=by
 have d:=aa (ac w (.cells #[.int .i64 r,.int .i64 c,.slice u n f] 25))
 rcases(show(r<0∧kK r c n=false)∨(0≤r∧6<r∧kK r c n=false)∨(0≤r∧r≤6∧c<0∧kK r c n=false)∨(0≤r∧r≤6∧0≤c∧6<c∧kK r c n=false)∨(0≤r∧r≤6∧0≤c∧c≤6) by
  unfold kK
  by_cases h:0≤r∧r≤6∧0≤c∧c≤6
  ·omega
  ·rw[decide_eq_false (fun g=>h g.1)];simp;omega)with⟨h1,e⟩|⟨h1,h2,e⟩|⟨h1,h2,h3,e⟩|⟨h1,h2,h3,h4,e⟩|⟨h1,h2,h3,h4⟩
 ·rw[e]
  clear e
  go_enter Tryz.func62,Tryz.ntmps62
  go_wp2
  go_ret
  exact⟨rfl,uH d⟩
 ·rw[e]
  clear e
  go_enter Tryz.func62,Tryz.ntmps62
  go_wp2
  go_ret
  exact⟨rfl,uH d⟩
 ·rw[e]
  clear e
  go_enter Tryz.func62,Tryz.ntmps62
  go_wp2
  go_ret
  exact⟨rfl,uH d⟩
 ·rw[e]
  clear e
  go_enter Tryz.func62,Tryz.ntmps62
  go_wp2
  go_ret
  exact⟨rfl,uH d⟩
 ·have l:∃m:Nat,r*c=(m:Int)∧m≤36:=by
   obtain⟨a,rfl⟩:=Int.eq_ofNat_of_zero_le h1
   obtain⟨b,rfl⟩:=Int.eq_ofNat_of_zero_le h3
   refine⟨a*b,by simp,?_⟩
   have:a*b≤6*6:=Nat.mul_le_mul (by omega) (by omega)
   omega
  obtain⟨m,l,D⟩:=l
  have z:kK r c n=decide ((n:Int)=(m:Int)):=decide_eq_decide.2 (by rw[l];exact⟨fun h=>h.2,fun h=>⟨⟨h1,h2,h3,h4⟩,h⟩⟩)
  rw[z]
  clear z
  go_enter Tryz.func62,Tryz.ntmps62
  go_wp2
  go_ret
  refine⟨?_,uH d⟩
  first|rfl|simp
theorem GT(r c n f b d i k q x:Nat)(w:World)(D:(i:Int)*(c:Int)=(q:Int))(u:q+k<n)(F:n≤36)
  (l:w.cell? ⟨b,d+(q+k),none⟩=some (.int .u64 (x:Nat))):
  Calls Tryz.prog 59 #[.agg #[.int .i64 r,.int .i64 c,.slice (some ⟨b,d,none⟩) n f],.int .i64 i,.int .i64 k] w fun e w'=>e=.returned (.int .u64 (x:Nat))∧Below w.heap.size w w':=by
 have h:=aa (ac w (.cells #[.int .i64 r,.int .i64 c,.slice (some ⟨b,d,none⟩) n f] 25))
 have G:=ak l (uH h)
 clear l
 have z:(q:Int)+(k:Int)<(n:Int):=by omega
 go_enter Tryz.func59,Tryz.ntmps59
 go_wp2
 go_ret
 exact⟨rfl,uH h⟩
theorem kB(r c d i k:Nat)(l:Option Addr)(S:List Nat)(w:World)(h:Mx w l d r c S)(u:i<r)(z:k<c):
  Calls Tryz.prog 59 #[.agg #[.int .i64 r,.int .i64 c,.slice l S.length d],.int .i64 i,.int .i64 k] w fun e w'=>e=.returned (.int .u64 (bJ c S i k:Nat))∧Below w.heap.size w w':=by
 obtain⟨b,f,rfl,G,D,F⟩:=h.cells u z
 exact GT r c S.length d b f i k (i*c) _ w (bu i c) F h.small D
theorem jM(r c:Nat)(w:World)(D:r≤6)(F:c≤6):
  Calls Tryz.prog 15 #[.int .i64 r,.int .i64 c] w fun e w'=>∃v,e=.returned v∧bK w.heap.size w' r c (List.replicate (r*c) 0) v∧Below w.heap.size w w':=by
 have L:(r:Int)*(c:Int)=((r*c:Nat):Int):=bu r c
 have H:r*c≤36:=Nat.mul_le_mul D F
 have J:=run_make_row' (P:=Tryz.prog) 23 28 (.int .u64 0) 8 Tryz.underlying23 (by kernel_rfl) rfl .i64 .i64 (r*c) (by omega) (by omega)
 generalize h:r*c=n at*
 clear h
 have d:=ac w (.cells #[.int .i64 r,.int .i64 c,.slice (some ⟨w.heap.size+1,0,none⟩) n n] 25)
 have l:=ah w (.cells #[.int .i64 r,.int .i64 c,.slice (some ⟨w.heap.size+1,0,none⟩) n n] 25)
 have u:=ac (w.alloc (.cells #[.int .i64 r,.int .i64 c,.slice (some ⟨w.heap.size+1,0,none⟩) n n] 25)) (.cells (madeCells #[.int .u64 0] n) 28)
 have z:=bp.made (w.alloc (.cells #[.int .i64 r,.int .i64 c,.slice (some ⟨w.heap.size+1,0,none⟩) n n] 25)) n
 have K:=aa (d.trans (u.mono d.size))
 have f:=z.bits (fun x G=>by rw[(List.mem_replicate.1 G).2];decide)
 rw[l,List.length_replicate]at f
 have Q:=aa f
 clear d u z f l
 go_enter Tryz.func15,Tryz.ntmps15
 go_wp2
 exact bodyPost_ret (v:=.agg #[.int .i64 r,.int .i64 c,.slice (some ⟨w.heap.size+1,0,none⟩) n n]) (by simp[results,Tryz.results15,go_sem]) rfl ⟨_,rfl,⟨some ⟨w.heap.size+1,0,none⟩,n,by rw[List.length_replicate],.inr ⟨_,_,rfl,by omega⟩,uH Q⟩,uH K⟩
theorem br.at{d:Nat}{w:World}{u:Option Addr}{n f:Nat}{S:List Nat}(h:br d w (.slice u n f) S){j:Nat}(D:j<S.length):
  ∃g,u=some ⟨g,0,none⟩∧d≤g∧g<w.heap.size∧w.cell? ⟨g,j,none⟩=some (.int .u64 (S.getD j 0:Nat))∧w.frozen? ⟨g,j,none⟩=false∧
   ∀x,x<18446744073709551616→br d (w.setCell ⟨g,j,none⟩ (.int .u64 (x:Nat))) (.slice u n f) (S.set j x):=by
 obtain⟨⟨V,L⟩,M⟩:=h
 rcases L with⟨_,X⟩|⟨g,F,z,G,H,l,O,Q,U,J⟩
 ·omega
 ·simp only[Value.slice.injEq]at G
  obtain⟨rfl,rfl,rfl⟩:=G
  have q:(S.map gW)[j]? =some (.int .u64 ((S[j]:Nat):Int)):=by
   rw[List.getElem?_map,List.getElem?_eq_getElem D];rfl
  rw[←J,List.getElem?_take,if_pos (by omega)]at q
  refine⟨g,rfl,H,(Array.getElem?_eq_some_iff.1 l).1,?_,frozen_of_row w g j _ _ l,fun x K=>⟨⟨by simp,.inr ⟨g,f,z.setIfInBounds j (.int .u64 (x:Nat)),?_,H,heap_setCell_same w g j _ _ _ l,by simpa using O,Q,by simpa using U,?_⟩⟩,?_⟩⟩
  ·rw[cell_of_row w g j _ _ _ l]
   have e:S.getD j 0=S[j]:=by rw[List.getD_eq_getElem?_getD,List.getElem?_eq_getElem D];rfl
   rw[e]
   simpa using q
  ·simp
  ·rw[Array.toList_setIfInBounds,List.take_set,List.length_set,J,List.map_set]
   rfl
  ·intro y N
   rcases List.mem_or_eq_of_mem_set N with e|e
   ·exact M y e
   ·rw[e];exact K
theorem Br(r c n f i k q x g:Nat)(J:Option Addr)(M:Option Addr)(l:Nat)(S:List Nat)(w K:World)(N:S.length=n)(hq:(i:Int)*(c:Int)=(q:Int))(am:q+k<n)(hn:n≤36)(hx:x<18446744073709551616)
  (u:(Builtin.append_ #[23,23] 23 #[.slice (some ⟨w.heap.size+1+1,0,none⟩) 0 0,.slice J n f]).run Tryz.prog (((w.alloc (.cells #[.int .i64 r,.int .i64 c,.slice J n f] 25)).alloc (.cells #[.int .i64 0,.int .i64 0,.slice none 0 0] 25)).alloc (.cells #[] 28))=.ok (.slice M n l) K)
  (X:br (w.heap.size+1+1) K (.slice M n l) S) (Y:Below (w.heap.size+1+1) ((w.alloc (.cells #[.int .i64 r,.int .i64 c,.slice J n f] 25)).alloc (.cells #[.int .i64 0,.int .i64 0,.slice none 0 0] 25)) K) (Z:M=some ⟨g,0,none⟩):
  Calls Tryz.prog 54 #[.agg #[.int .i64 r,.int .i64 c,.slice J n f],.int .i64 i,.int .i64 k,.int .u64 x] w fun e w'=>∃v,e=.returned v∧bK w.heap.size w' r c (S.set (q+k) x) v∧Below w.heap.size w w':=by
 have z:=aa u
 obtain⟨F,G,hX⟩:=gC w _ _ _ _ _ _ K Y
 obtain⟨g',U,hg,ae,cx,fx,H⟩:=X.at (j:=q+k) (by omega)
 rw[Z]at U
 simp only[Option.some.injEq,Addr.mk.injEq]at U
 obtain⟨rfl,_⟩:=U
 subst Z
 have O:=H x hx
 have h:=G.other (p:=⟨g,q+k,none⟩) (by show w.heap.size≠g;omega) (.int .u64 (x:Nat))
 have d:=hX.other (p:=⟨g,q+k,none⟩) (by show w.heap.size+1≠g;omega) (.int .u64 (x:Nat))
 have D:=F.setCell (p:=⟨g,q+k,none⟩) (by show w.heap.size≤g;omega) (.int .u64 (x:Nat))
 have c0:=G.c0;have c1:=G.c1;have c2:=G.c2
 have y0:=h.c0;have y1:=h.c1;have y2:=h.c2
 have u0:=d.c0;have u1:=d.c1;have u2:=d.c2
 have f0:=d.free 0;have f1:=d.free 1;have f2:=d.free 2
 have L:=d.put (.int .i64 r) (.int .i64 c) (.slice (some ⟨g,0,none⟩) n l)
 have z0:=L.c0;have z1:=L.c1;have z2:=L.c2
 obtain⟨ax,d',V,q2⟩:=O.bits
 have HN:=aa (O.newB.least (H':=w.heap.size) (by omega))
 rw[List.length_set,N]at V
 simp only[Value.slice.injEq]at V
 obtain⟨rfl,_,rfl⟩:=V
 have Q:=aa (af.putM q2 d (.int .i64 r) (.int .i64 c) (.slice (some ⟨g,0,none⟩) n l))
 have BP:=aa (aq D (b:=w.heap.size+1) (by omega) (.int .i64 r) (.int .i64 c) (.slice (some ⟨g,0,none⟩) n l))
 have ap:(q:Int)+(k:Int)<(n:Int):=by omega
 have HL:=aa N
 generalize S.getD (q+k) 0=aI at*
 clear u X Y F G hX h d D L O q2 H N hg
 go_enter Tryz.func54,Tryz.ntmps54
 go_wp2_with(at_builtin;refine aS _ rfl _ _ 23 rfl _ _ _ _ rfl rfl (uH z) ?_;clear z)
 exact bodyPost_ret (v:=.agg #[.int .i64 r,.int .i64 c,.slice (some ⟨g,0,none⟩) n l]) (by simp[results,Tryz.results54,go_sem,z0,z1,z2]) rfl ⟨_,rfl,⟨some ⟨g,0,none⟩,l,by rw[List.length_set,uH HL],uH HN,uH Q⟩,uH BP⟩
theorem ol{P:Program}(w:World){l:Array Oper}{o:Oper}{a:Act}{K:Act→World→Prop}{Q:Exit→Act→World→Prop}{E:Prop}(z:o.guard=none)(s x:Operand)(t:TypeId)
  (H:o.op=.call {callee:=.builtin .append,args:=#[s,x],argTypes:=#[t,t]}) (D G:Value) (n:Nat) (F:Option Addr→Nat→World→Prop) (J:a.eval s=D) (L:a.eval x=G)
  (M:∃d f w',(Builtin.append_ #[t,t] o.type #[D,G]).run P w=.ok (.slice d n f) w'∧F d f w') (h:∀d f w',F d f w'→K (a.put o.dst (.slice d n f)) w'):
  if Region.wanted o (yielded l a.tmps)=true then Oper.wp P o a w K Q else E:=by
 have N:Region.wanted o (yielded l a.tmps)=true:=by simp[Region.wanted,z]
 rw[if_pos N]
 obtain⟨d,f,w',u,hF⟩:=M
 unfold Oper.wp execOp
 simp only[H,resolve,invoke,builtin,Sem.run_bind,Sem.run_pure,Result.andThen_ok,List.map_toArray,List.map_cons,List.map_nil,J,L,u]
 exact h d f w' hF
theorem gZ(r c d i k x:Nat)(f:Option Addr)(S:List Nat)(w:World)(h:Mx w f d r c S)(N:i<r)(O:k<c)(Q:x<18446744073709551616):
  Calls Tryz.prog 54 #[.agg #[.int .i64 r,.int .i64 c,.slice f S.length d],.int .i64 i,.int .i64 k,.int .u64 x] w fun e w'=>∃v,e=.returned v∧bK w.heap.size w' r c (S.set (i*c+k) x) v∧Below w.heap.size w w':=by
 have K:i*c+k<S.length:=by rw[h.2.1];exact bW N O
 have H:=h.small
 have L:=ac w (.cells #[.int .i64 r,.int .i64 c,.slice f S.length d] 25)
 have D:=ah w (.cells #[.int .i64 r,.int .i64 c,.slice f S.length d] 25)
 have U:=ac (w.alloc (.cells #[.int .i64 r,.int .i64 c,.slice f S.length d] 25)) (.cells #[.int .i64 0,.int .i64 0,.slice none 0 0] 25)
 have F:=ah (w.alloc (.cells #[.int .i64 r,.int .i64 c,.slice f S.length d] 25)) (.cells #[.int .i64 0,.int .i64 0,.slice none 0 0] 25)
 have V:=L.trans (U.mono L.size)
 have M:=ac ((w.alloc (.cells #[.int .i64 r,.int .i64 c,.slice f S.length d] 25)).alloc (.cells #[.int .i64 0,.int .i64 0,.slice none 0 0] 25)) (.cells #[] 28)
 have X:=br.nil ((w.alloc (.cells #[.int .i64 r,.int .i64 c,.slice f S.length d] 25)).alloc (.cells #[.int .i64 0,.int .i64 0,.slice none 0 0] 25)) (w.heap.size+1+1) (by rw[F,D];omega)
 have l:=(h.1.below V).below M
 obtain⟨Y,Z,w1,u,z,gr⟩:=pW _ (w.heap.size+1+1) 23 f d (aL S) _ l (by rw[av];omega) X.1 (by simp)
 rw[tf,av]at*
 have J:=(M.mono (Nat.le_of_eq (by rw[F,D]))).grown gr (by simp) (fun g G=>by cases G;rw[F,D];exact Nat.le_refl _)
 rw[F,D]at u
 obtain⟨g,G,_⟩:=z.at K
 exact Br r c S.length d i k (i*c) x g f Y Z S w w1 rfl (bu i c) K H Q u z J G
theorem pY(r c:Int)(l u:Option Addr)(f d:Nat)(S:List Nat)(w:World)(h:af w l f (aL S))(G:af w u d (aL S))(L:S.length≤1000000):
  Calls Tryz.prog 33 #[.agg #[.int .i64 r,.int .i64 c,.slice l S.length f],.agg #[.int .i64 r,.int .i64 c,.slice u S.length d]] w fun e w'=>e=.returned (.bool true)∧Below w.heap.size w w':=by
 have D:=ac w (.cells #[.int .i64 r,.int .i64 c,.slice l S.length f] 25)
 have H:=ac (w.alloc (.cells #[.int .i64 r,.int .i64 c,.slice l S.length f] 25)) (.cells #[.int .i64 r,.int .i64 c,.slice u S.length d] 25)
 have z:=D.trans (H.mono D.size)
 have K:=aa (oh l u f d (aL S) _ (h.below z) (G.below z) (by rw[av];omega))
 rw[av]at K
 have J:=aa z
 clear D H z h G
 generalize S.length=n at*
 go_enter Tryz.func33,Tryz.ntmps33
 go_wp2_with fail
 refine Calls.mono (uH K) ?_
 rintro e M ⟨rfl,F⟩
 clear K
 go_wp2
 go_ret
 exact⟨rfl,(uH J).trans (F.mono (uH J).size)⟩
end Go.Proofs.YtdhmglmccafbnaaGreatDoor
