/- Part 38 of the texts. -/
import Derived.Test.YtmpkkhackbpflaaGreatDoorPartg37
set_option maxHeartbeats 4000000
set_option maxRecDepth 20000
namespace Go.Proofs.YtmpkkhackbpflaaGreatDoor
open Go.RowKit
attribute [local go_sem ↓] Go.wp_at_zero Go.wp_at_succ
theorem EQ(i k:Nat)(w:World):
  Calls Tryz.prog 159 #[.int .i64 i,.int .i64 k] w fun e d=>e=.returned (.int .u64 ((if k=i then 4607182418800017408 else 0:Nat):Int))∧Below w.heap.size w d:=by
 by_cases h:k=i
 ·rw[if_pos h]
  subst h
  go_enter Tryz.func159,Tryz.ntmps159
  go_wp2
  go_ret
  exact⟨rfl,Below.refl _ _⟩
 ·rw[if_neg h]
  have l:decide ((i:Int)=(k:Int))=false:=decide_eq_false (by omega)
  go_enter Tryz.func159,Tryz.ntmps159
  go_wp2
  go_ret
  exact⟨rfl,Below.refl _ _⟩
theorem ER(r c n d i k a b x z D bk:Nat)(F:Option Addr)(w:World)(G:a+i≤6)(H:b+k≤6)(h:aT w z (.int .i64 r) (.int .i64 c) (.slice F n d))(I:w.cell? ⟨D,0,none⟩=some (.int .i64 (a:Nat)))(J:w.cell? ⟨bk,0,none⟩=some (.int .i64 (b:Nat)))
  (C:Calls Tryz.prog 154 #[.agg #[.int .i64 r,.int .i64 c,.slice F n d],.int .i64 ((a:Int)+(i:Int)),.int .i64 ((b:Int)+(k:Int))] w fun e l=>e=.returned (.int .u64 (x:Nat))∧Below w.heap.size w l):
  Calls Tryz.prog 153 #[.int .i64 i,.int .i64 k,.pointer (some ⟨z,0,none⟩),.pointer (some ⟨D,0,none⟩),.pointer (some ⟨bk,0,none⟩)] w fun e l=>e=.returned (.int .u64 (x:Nat))∧Below w.heap.size w l:=by
 have K:=ac C
 have L:=h.c0;have M:=h.c1;have p2:=h.c2
 clear C h
 go_enter Tryz.func153,Tryz.ntmps153
 go_wp2_with fail
 refine Calls.mono (uH K) ?_
 rintro e N ⟨rfl,t⟩
 clear K
 go_wp2
 go_ret
 exact⟨rfl,t⟩
theorem ES(w:World)(x y z u v:Value)(d:World)(h:Below (w.heap.size+1+1+1+1) ((((w.alloc (.cells #[x,y,z] 25)).alloc (.cells #[u] 3)).alloc (.cells #[v] 3)).alloc (.cells #[.int .i64 0,.int .i64 0,.slice none 0 0] 25)) d):
  Below w.heap.size w d∧aT d w.heap.size x y z∧(d.cell? ⟨w.heap.size+1,0,none⟩=some u∧d.cell? ⟨w.heap.size+1+1,0,none⟩=some v)∧aT d (w.heap.size+1+1+1) (.int .i64 0) (.int .i64 0) (.slice none 0 0):=by
 have N:=ag w (.cells #[x,y,z] 25)
 have O:=aT.new w x y z
 have D:=aH w (.cells #[x,y,z] 25)
 generalize w.alloc (.cells #[x,y,z] 25)=t at*
 have G:=ag t (.cells #[u] 3)
 have Q:=ei t u 3
 have H:=aH t (.cells #[u] 3)
 have T:=O.all G
 generalize t.alloc (.cells #[u] 3)=wb at*
 have F:=ag wb (.cells #[v] 3)
 have U:=ei wb v 3
 have V:=aH wb (.cells #[v] 3)
 have X:=T.all F
 have Y:=av Q F
 generalize wb.alloc (.cells #[v] 3)=wc at*
 have l:=ag wc (.cells #[.int .i64 0,.int .i64 0,.slice none 0 0] 25)
 have I:=aT.new wc (.int .i64 0) (.int .i64 0) (.slice none 0 0)
 have s3:=aH wc (.cells #[.int .i64 0,.int .i64 0,.slice none 0 0] 25)
 have Z:=X.all l
 have J:=av Y l
 have L:=av U l
 generalize wc.alloc (.cells #[.int .i64 0,.int .i64 0,.slice none 0 0] 25)=M at*
 rw[V,H,D]at I
 rw[D]at J
 rw[H,D]at L
 have hd:M.heap.size=w.heap.size+1+1+1+1:=by omega
 rw[←hd]at h
 have bb:Below w.heap.size w M:=((N.trans (G.mono (by omega))).trans (F.mono (by omega))).trans (l.mono (by omega))
 exact⟨bb.trans (h.mono (by omega)),Z.all h,⟨av J h,av L h⟩,I.all h⟩
theorem LF(r c:Int)(z:Option Addr)(n d:Nat)(i k a b:Int)(w:World)(I:n≤35184372088830)(h:ya r c n=false):
  Calls Tryz.prog 99 #[.agg #[.int .i64 r,.int .i64 c,.slice z n d],.int .i64 i,.int .i64 k,.int .i64 a,.int .i64 b] w fun e F=>∃v,e=.returned (.tuple #[v,.int .i64 1])∧dc w.heap.size F 0 0 [] v∧Below w.heap.size w F:=by
 have K:=ac (qf r c z n d ((((w.alloc (.cells #[.int .i64 r,.int .i64 c,.slice z n d] 25)).alloc (.cells #[.int .i64 i] 3)).alloc (.cells #[.int .i64 k] 3)).alloc (.cells #[.int .i64 0,.int .i64 0,.slice none 0 0] 25)) I)
 rw[h]at K
 simp only[aH]at K
 have G:=ac (ES w (.int .i64 r) (.int .i64 c) (.slice z n d) (.int .i64 i) (.int .i64 k))
 clear h
 go_enter Tryz.func99,Tryz.ntmps99
 go_wp2_with fail
 refine Calls.mono (uH K) ?_
 rintro e Q ⟨rfl,t⟩
 obtain⟨H,M,⟨N,O⟩,l⟩:=uH G Q t
 clear K G t M N O
 have T:=l.free 0;have U:=l.free 1;have V:=l.free 2
 have X:=l.c0;have Y:=l.c1;have Z:=l.c2
 have D:=l.put (.int .i64 0) (.int .i64 0) (.slice none 0 0)
 have J:=D.c0;have z1:=D.c1;have z2:=D.c2
 have L:=ac (aW H (b:=w.heap.size+1+1+1) (by omega) (.int .i64 0) (.int .i64 0) (.slice none 0 0))
 clear D l H
 go_wp2
 exact bodyPost_ret (v:=.tuple #[.agg #[.int .i64 0,.int .i64 0,.slice none 0 0],.int .i64 1]) (by simp[results,Tryz.results99,go_sem,J,z1,z2]) rfl ⟨_,rfl,dc.zero _ _,uH L⟩
theorem ET(r c:Int)(H:Option Addr)(n z:Nat)(i k a b:Int)(x y:Nat)(S:List Nat)(w:World)(hn:n≤35184372088830)(h:ya r c n=true)(U:∀D,Calls Tryz.prog 151 #[.int .i64 i,.int .i64 a,.int .i64 r] D fun x d=>x=.returned (.bool true)∧D=d)(V:∀D,Calls Tryz.prog 151 #[.int .i64 k,.int .i64 b,.int .i64 c] D fun x d=>x=.returned (.bool true)∧D=d)
  (C:∀l,Below w.heap.size w l→aT l w.heap.size (.int .i64 r) (.int .i64 c) (.slice H n z)→l.cell? ⟨w.heap.size+1,0,none⟩=some (.int .i64 i)→l.cell? ⟨w.heap.size+1+1,0,none⟩=some (.int .i64 k)→Calls Tryz.prog 152 #[.int .i64 a,.int .i64 b,.func (.func 153) #[] #[.pointer (some ⟨w.heap.size,0,none⟩),.pointer (some ⟨w.heap.size+1,0,none⟩),.pointer (some ⟨w.heap.size+1+1,0,none⟩)]] l fun e d=>∃v,e=.returned v∧dc l.heap.size d x y S v∧Below l.heap.size l d):
  Calls Tryz.prog 99 #[.agg #[.int .i64 r,.int .i64 c,.slice H n z],.int .i64 i,.int .i64 k,.int .i64 a,.int .i64 b] w fun e D=>∃v,e=.returned (.tuple #[v,.int .i64 0])∧dc w.heap.size D x y S v∧Below w.heap.size w D:=by
 have X:=ac U;have Y:=ac V
 clear U V
 have K:=ac (qf r c H n z ((((w.alloc (.cells #[.int .i64 r,.int .i64 c,.slice H n z] 25)).alloc (.cells #[.int .i64 i] 3)).alloc (.cells #[.int .i64 k] 3)).alloc (.cells #[.int .i64 0,.int .i64 0,.slice none 0 0] 25)) hn)
 rw[h]at K
 simp only[aH]at K
 have Z:=ac (ES w (.int .i64 r) (.int .i64 c) (.slice H n z) (.int .i64 i) (.int .i64 k))
 have KT:=ac (fun l (F:Below w.heap.size w l) (G:aT l w.heap.size (.int .i64 r) (.int .i64 c) (.slice H n z)) (O:l.cell? ⟨w.heap.size+1,0,none⟩=some (.int .i64 i)) (T:l.cell? ⟨w.heap.size+1+1,0,none⟩=some (.int .i64 k)) (t:aT l (w.heap.size+1+1+1) (.int .i64 0) (.int .i64 0) (.slice none 0 0))=>(C l F G O T).mono (R':=fun e d=>∃v,e=.returned v∧dc w.heap.size d x y S v∧Below w.heap.size w d∧aT d (w.heap.size+1+1+1) (.int .i64 0) (.int .i64 0) (.slice none 0 0)) (by
  rintro e d ⟨v,rfl,h1,h2⟩
  exact⟨v,rfl,h1.least F.size,F.trans (h2.mono F.size),t.all h2⟩))
 clear h C
 go_enter Tryz.func99,Tryz.ntmps99
 go_wp2_with fail
 refine Calls.mono (uH K) ?_
 rintro e l ⟨rfl,I⟩
 obtain⟨F,G,⟨O,T⟩,t⟩:=uH Z l I
 have p0:=G.c0;have p1:=G.c1;have p2:=G.c2
 have KC:=ac (uH KT l F G O T t)
 clear K Z KT I G t F
 go_wp2_with fail
 refine(uH X _).mono ?_
 rintro e w9 ⟨rfl,rfl⟩
 clear X
 go_wp2_with fail
 refine(uH Y _).mono ?_
 rintro e w9 ⟨rfl,rfl⟩
 clear Y
 go_wp2_with fail
 refine Calls.mono (uH KC) ?_
 clear KC
 rintro e w2 ⟨v,rfl,⟨J,L,rfl,n1,q1⟩,M,t⟩
 have f0:=t.free 0;have f1:=t.free 1;have f2:=t.free 2
 have N:=t.put (.int .i64 x) (.int .i64 y) (.slice J S.length L)
 have z0:=N.c0;have z1:=N.c1;have z2:=N.c2
 have s0:=t.c0;have s1:=t.c1;have s2:=t.c2
 have Q:=ac (q1.putM t (.int .i64 x) (.int .i64 y) (.slice J S.length L))
 have BP:=ac (aW M (b:=w.heap.size+1+1+1) (by omega) (.int .i64 x) (.int .i64 y) (.slice J S.length L))
 clear N q1 M t
 go_wp2
 exact bodyPost_ret (v:=.tuple #[.agg #[.int .i64 x,.int .i64 y,.slice J S.length L],.int .i64 0]) (by simp[results,Tryz.results99,go_sem,z0,z1,z2]) rfl ⟨_,rfl,⟨J,L,rfl,n1,uH Q⟩,uH BP⟩
theorem Mw(r c:Int)(x y:Nat)(S:List Nat)(w:World)(h:EO r c=true)
  (C:∀t,Below w.heap.size w t→Calls Tryz.prog 152 #[.int .i64 r,.int .i64 c,.func (.func 196) #[] #[]] t fun e d=>∃v,e=.returned v∧dc t.heap.size d x y S v∧Below t.heap.size t d):
  Calls Tryz.prog 167 #[.int .i64 r,.int .i64 c] w fun e G=>∃v,e=.returned (.tuple #[v,.int .i64 0])∧dc w.heap.size G x y S v∧Below w.heap.size w G:=by
 have K:=ac (fun G=>jZ r c G)
 rw[h]at K
 have I:=ac ((C _ (ag w (.cells #[.int .i64 0,.int .i64 0,.slice none 0 0] 25))).mono (R':=fun e d=>∃v,e=.returned v∧dc w.heap.size d x y S v∧Below w.heap.size w d∧aT d w.heap.size (.int .i64 0) (.int .i64 0) (.slice none 0 0)) (by
  rintro e d ⟨v,rfl,O,J⟩
  have b:=ag w (.cells #[.int .i64 0,.int .i64 0,.slice none 0 0] 25)
  exact⟨v,rfl,O.least b.size,b.trans (J.mono b.size),(aT.new w (.int .i64 0) (.int .i64 0) (.slice none 0 0)).all J⟩))
 clear h C
 go_enter Tryz.func167,Tryz.ntmps167
 go_wp2_with fail
 refine(uH K _).mono ?_
 rintro e t ⟨rfl,rfl⟩
 clear K
 go_wp2_with fail
 refine Calls.mono (uH I) ?_
 clear I
 rintro e w2 ⟨v,rfl,⟨z,D,rfl,T,L⟩,F,l⟩
 have U:=l.free 0;have V:=l.free 1;have X:=l.free 2
 have H:=l.put (.int .i64 x) (.int .i64 y) (.slice z S.length D)
 have M:=H.c0;have z1:=H.c1;have z2:=H.c2
 have Y:=l.c0;have Z:=l.c1;have s2:=l.c2
 have Q:=ac (L.putM l (.int .i64 x) (.int .i64 y) (.slice z S.length D))
 have N:=ac (aW F (b:=w.heap.size) (by omega) (.int .i64 x) (.int .i64 y) (.slice z S.length D))
 clear H L F l
 go_wp2
 exact bodyPost_ret (v:=.tuple #[.agg #[.int .i64 x,.int .i64 y,.slice z S.length D],.int .i64 0]) (by simp[results,Tryz.results167,go_sem,M,z1,z2]) rfl ⟨_,rfl,⟨z,D,rfl,T,uH Q⟩,uH N⟩
theorem Ia(r:Int)(x y:Nat)(S:List Nat)(w:World)(h:EO r r=true)
  (C:∀t,Below w.heap.size w t→Calls Tryz.prog 152 #[.int .i64 r,.int .i64 r,.func (.func 159) #[] #[]] t fun e d=>∃v,e=.returned v∧dc t.heap.size d x y S v∧Below t.heap.size t d):
  Calls Tryz.prog 105 #[.int .i64 r] w fun e G=>∃v,e=.returned (.tuple #[v,.int .i64 0])∧dc w.heap.size G x y S v∧Below w.heap.size w G:=by
 have K:=ac (fun G=>jZ r r G)
 rw[h]at K
 have I:=ac ((C _ (ag w (.cells #[.int .i64 0,.int .i64 0,.slice none 0 0] 25))).mono (R':=fun e d=>∃v,e=.returned v∧dc w.heap.size d x y S v∧Below w.heap.size w d∧aT d w.heap.size (.int .i64 0) (.int .i64 0) (.slice none 0 0)) (by
  rintro e d ⟨v,rfl,O,J⟩
  have b:=ag w (.cells #[.int .i64 0,.int .i64 0,.slice none 0 0] 25)
  exact⟨v,rfl,O.least b.size,b.trans (J.mono b.size),(aT.new w (.int .i64 0) (.int .i64 0) (.slice none 0 0)).all J⟩))
 clear h C
 go_enter Tryz.func105,Tryz.ntmps105
 go_wp2_with fail
 refine(uH K _).mono ?_
 rintro e t ⟨rfl,rfl⟩
 clear K
 go_wp2_with fail
 refine Calls.mono (uH I) ?_
 clear I
 rintro e w2 ⟨v,rfl,⟨z,D,rfl,T,L⟩,F,l⟩
 have U:=l.free 0;have V:=l.free 1;have X:=l.free 2
 have H:=l.put (.int .i64 x) (.int .i64 y) (.slice z S.length D)
 have M:=H.c0;have z1:=H.c1;have z2:=H.c2
 have Y:=l.c0;have Z:=l.c1;have s2:=l.c2
 have Q:=ac (L.putM l (.int .i64 x) (.int .i64 y) (.slice z S.length D))
 have N:=ac (aW F (b:=w.heap.size) (by omega) (.int .i64 x) (.int .i64 y) (.slice z S.length D))
 clear H L F l
 go_wp2
 exact bodyPost_ret (v:=.tuple #[.agg #[.int .i64 x,.int .i64 y,.slice z S.length D],.int .i64 0]) (by simp[results,Tryz.results105,go_sem,M,z1,z2]) rfl ⟨_,rfl,⟨z,D,rfl,T,uH Q⟩,uH N⟩
end Go.Proofs.YtmpkkhackbpflaaGreatDoor
namespace Go.Proofs.YtmpkkhackbpflaaGreatDoor
open Go.RowKit
theorem Ib(d:Array Value)(w:World):(callFunc 153 d).run Tryz.prog w=.ok (.enter 153 d) w:=by
 simp only[callFunc,go_sem]
 rfl
theorem LG(d:Array Value)(w:World):(callFunc 159 d).run Tryz.prog w=.ok (.enter 159 d) w:=by
 simp only[callFunc,go_sem]
 rfl
theorem mD(r c d i k a b:Nat)(t:Option Addr)(S:List Nat)(w:World)(h:Mx w t d r c S)(L:i+a≤r)(M:k+b≤c):
  Calls Tryz.prog 99 #[.agg #[.int .i64 r,.int .i64 c,.slice t S.length d],.int .i64 i,.int .i64 k,.int .i64 a,.int .i64 b] w fun e l=>∃v,e=.returned (.tuple #[v,.int .i64 0])∧dc w.heap.size l a b (Mv c S i k a b) v∧Below w.heap.size w l:=by
 have N:=h.2.2.1
 have O:=h.2.2.2
 refine ET r c t S.length d i k a b a b (Mv c S i k a b) w (by have:=h.small;omega) (zT h) (fun l=>?_) (fun l=>?_) ?_
 ·have:=vV i a r l (by omega) (by omega)
  rwa[decide_eq_true (by omega)]at this
 ·have:=vV k b c l (by omega) (by omega)
  rwa[decide_eq_true (by omega)]at this
 ·intro G F H I J
  refine rU 153 _ a b _ G Ib (by omega) (by omega) (fun x y _ _=>h.el_lt _ _) ?_
  intro l x y z Q T
  have D:Below w.heap.size w l:=F.trans (z.mono F.size)
  refine ER r c S.length d x y i k _ w.heap.size (w.heap.size+1) (w.heap.size+1+1) t l (by omega) (by omega) (H.all z) (av I z) (av J z) ?_
  rw[show(i:Int)+(x:Int)=((i+x:Nat):Int) by simp,show(k:Int)+(y:Int)=((k+y:Nat):Int) by simp]
  exact H9 r c d (i+x) (k+y) t S l (h.below D) (by omega) (by omega)
theorem Ic(n:Nat)(w:World)(h:n≤6):
  Calls Tryz.prog 105 #[.int .i64 n] w fun e d=>∃v,e=.returned (.tuple #[v,.int .i64 0])∧dc w.heap.size d n n (Ju n) v∧Below w.heap.size w d:=
 Ia n n n _ w (decide_eq_true (by omega)) (fun l _=>rU 159 #[] n n _ l LG h h (fun i k _ _=>by split<;>decide) (fun d i k _ _ _=>EQ i k d))
attribute [local go_sem ↓] Go.wp_at_zero Go.wp_at_succ
theorem LH(r c n h b d i k q x:Nat)(w:World)(G:(i:Int)*(c:Int)=(q:Int))(z:q+k<n)(H:n≤36)
  (t:w.cell? ⟨b,d+(q+k),none⟩=some (.int .u64 (x:Nat))):
  Calls Tryz.prog 50 #[.agg #[.int .i64 r,.int .i64 c,.slice (some ⟨b,d,none⟩) n h],.int .i64 i,.int .i64 k] w fun e D=>e=.returned (.int .u64 (x:Nat))∧Below w.heap.size w D:=by
 have l:=ac (ag w (.cells #[.int .i64 r,.int .i64 c,.slice (some ⟨b,d,none⟩) n h] 25))
 have I:=av t (uH l)
 clear t
 have F:(q:Int)+(k:Int)<(n:Int):=by omega
 go_enter Tryz.func50,Tryz.ntmps50
 go_wp2
 go_ret
 exact⟨rfl,uH l⟩
theorem Ie(r c d i k:Nat)(t:Option Addr)(S:List Nat)(w:World)(h:Mx w t d r c S)(z:i<r)(D:k<c):
  Calls Tryz.prog 50 #[.agg #[.int .i64 r,.int .i64 c,.slice t S.length d],.int .i64 i,.int .i64 k] w fun e F=>e=.returned (.int .u64 (cj c S i k:Nat))∧Below w.heap.size w F:=by
 obtain⟨b,l,rfl,I,G,H⟩:=h.cells z D
 exact LH r c S.length d b l i k (i*c) _ w (cK i c) H h.small G
end Go.Proofs.YtmpkkhackbpflaaGreatDoor
namespace Go.Proofs.YtmpkkhackbpflaaGreatDoor
open Go.RowKit
def Av(g:Option Nat)(x:Nm):Prop:=x.L= []∨∃b off,x.ao=some ⟨b,off,none⟩∧some b≠g
def ye(g:Option Nat)(r:Rw):Prop:=(r.R= []∨∃b off,r.ao=some ⟨b,off,none⟩∧some b≠g)∧∀x∈r.R,Av g x
def cZ(R:List Nm):List Value:=R.flatMap (fun x=>[.bool x.neg,.slice x.ao x.L.length x.cap])
theorem Av.new{w:World}{x:Nm}(h:af w x.ao x.cap x.L){g:Nat}(l:w.heap.size≤g):Av (some g) x:=by
 rcases h.2.2 with e|⟨b,d,e,t,_⟩
 ·exact .inl e
 ·exact .inr ⟨b,d,e,by intro e;cases e;omega⟩
theorem Av.old{B:Nat}{x:Nm}(h:bB B x.ao x.L){g:Option Nat}(l:∀m,g=some m→m<B):Av g x:=by
 rcases h with e|⟨b,d,e,t⟩
 ·exact .inl e
 ·exact .inr ⟨b,d,e,fun e=>by have:=l b e.symm;omega⟩
theorem ye.new{w:World}{r:Rw}(h:bP w r.ao r.cap r.R){g:Nat}(l:w.heap.size≤g):ye (some g) r:=by
 refine⟨?_,fun x t=>Av.new (h.2.1 x t) l⟩
 rcases h.2.2 with e|⟨b,d,e,z,_⟩
 ·exact .inl e
 ·exact .inr ⟨b,d,e,by intro e;cases e;omega⟩
theorem af.grownAv{w z:World}{x:Nm}{g:Option Nat}(h:af w x.ao x.cap x.L)(H:Av g x)(D:w.grownBy z g):af z x.ao x.cap x.L:=by
 refine⟨h.1,h.2.1,?_⟩
 rcases h.2.2 with e|⟨b,d,e,F,J⟩
 ·exact .inl e
 ·rcases H with l|⟨M,G,l,t⟩
  ·exact .inl l
  ·rw[e]at l
   simp only[Option.some.injEq,Addr.mk.injEq]at l
   obtain⟨rfl,rfl,_⟩:=l
   refine .inr ⟨b,d,e,Nat.lt_of_lt_of_le F D.size,fun i I=>?_⟩
   rw[World.cell?_of_block (a:=⟨b,d+i,none⟩) (D.block b F t)]
   exact J i I
theorem bP.grownAv{w F:World}{r:Rw}{g:Option Nat}(h:bP w r.ao r.cap r.R)(G:ye g r)(z:w.grownBy F g):bP F r.ao r.cap r.R:=by
 refine⟨h.1,fun x H=>(h.2.1 x H).grownAv (G.2 x H) z,?_⟩
 rcases h.2.2 with e|⟨b,d,e,D,L⟩
 ·exact .inl e
 ·rcases G.1 with l|⟨M,I,l,t⟩
  ·exact .inl l
  ·rw[e]at l
   simp only[Option.some.injEq,Addr.mk.injEq]at l
   obtain⟨rfl,rfl,_⟩:=l
   refine .inr ⟨b,d,e,Nat.lt_of_lt_of_le D z.size,fun k J=>?_⟩
   rw[World.cell?_of_block (a:=⟨b,d+k*2,none⟩) (z.block b D t),World.cell?_of_block (a:=⟨b,d+k*2+1,none⟩) (z.block b D t)]
   exact L k J
def cS(base:Nat)(w:World)(v:Value)(R:List Nm):Prop:=w.ownsRow base 55 2 v R.length (cZ R)∧∀x∈R,af w x.ao x.cap x.L∧Av v.ownBlock x
def OwnRows(base:Nat)(w:World)(v:Value)(M:List Rw):Prop:=w.ownsRow base 75 1 v M.length (M.map Rw.v)∧∀r∈M,bP w r.ao r.cap r.R∧ye v.ownBlock r
theorem mE:∀(R:List Nm) (k:Nat),k<R.length→(cZ R)[k*2]? =some (.bool (bT R k).neg)∧(cZ R)[k*2+1]? =some (.slice (bT R k).ao (bT R k).L.length (bT R k).cap)
 |x::R,0,_=>by simp[cZ,bT]
 |x::R,k+1,h=>by
  have:=mE R k (by simpa using h)
  have e:cZ (x::R)=.bool x.neg::.slice x.ao x.L.length x.cap::cZ R:=rfl
  rw[e,show(k+1)*2=k*2+1+1 by omega]
  simpa[bT]using this
theorem cS.start(w:World)(d:Nat)(h:d≤w.heap.size):cS d (w.alloc (.cells #[] 55)) (.slice (some ⟨w.heap.size,0,none⟩) 0 0) []:=
 ⟨World.ownsRow_made w #[] 0 h (by simp[maxLen]) (by simp),by simp⟩
theorem OwnRows.start(w:World)(d:Nat)(h:d≤w.heap.size):OwnRows d (w.alloc (.cells #[] 75)) (.slice (some ⟨w.heap.size,0,none⟩) 0 0) []:=
 ⟨World.ownsRow_made w #[] 0 h (by simp[maxLen]) (by simp),by simp⟩
theorem cS.lt{d:Nat}{w:World}{v:Value}{R:List Nm}(h:cS d w v R):∀k,v.ownBlock=some k→d≤k∧k<w.heap.size:=h.1.lt
theorem OwnRows.lt{d:Nat}{w:World}{v:Value}{M:List Rw}(h:OwnRows d w v M):∀k,v.ownBlock=some k→d≤k∧k<w.heap.size:=h.1.lt
theorem iK{w F:World}{d e l n:Nat}{v:Value}{G:List Value}{g:Option Nat}(h:w.ownsRow d e l v n G)(J:w.grownBy F g)(t:∀k,v.ownBlock=some k→some k≠g):F.ownsRow d e l v n G:=by
 refine⟨h.1,?_⟩
 rcases h.2 with h|⟨k,z,D,H,M,I,N⟩
 ·exact .inl h
 ·have L:k<w.heap.size:=(Array.getElem?_eq_some_iff.1 I).1
  exact .inr ⟨k,z,D,H,M,(J.block k L (t k (by rw[H];rfl))).trans I,N⟩
theorem cS.below{d:Nat}{w t:World}{v:Value}{R:List Nm}(h:cS d w v R)(l:Below w.heap.size w t):cS d t v R:=
 ⟨iK h.1 ⟨l.os,l.tape,l.output,l.size,fun k D _=>l.block k D⟩ (fun k _=>by simp:∀k,v.ownBlock=some k→some k≠none),fun x z=>⟨((h.2 x z).1).below l,(h.2 x z).2⟩⟩
theorem OwnRows.below{d:Nat}{w t:World}{v:Value}{M:List Rw}(h:OwnRows d w v M)(l:Below w.heap.size w t):OwnRows d t v M:=
 ⟨iK h.1 ⟨l.os,l.tape,l.output,l.size,fun k D _=>l.block k D⟩ (fun k _=>by simp:∀k,v.ownBlock=some k→some k≠none),fun x z=>⟨((h.2 x z).1).below l,(h.2 x z).2⟩⟩
theorem OwnRows.grown{d:Nat}{w D:World}{v:Value}{M:List Rw}{g:Option Nat}(h:OwnRows d w v M)(F:w.grownBy D g)(l:∀k,v.ownBlock=some k→some k≠g)(t:∀r∈M,ye g r):OwnRows d D v M:=
 ⟨iK h.1 F l,fun r z=>⟨((h.2 r z).1).grownAv (t r z) F,(h.2 r z).2⟩⟩
theorem cS.snoc{d:Nat}{w z:World}{v v':Value}{R:List Nm}{x:Nm}(h:cS d w v R)(D:af w x.ao x.cap x.L)(F:Av v.ownBlock x)(G:z.ownsRow d 55 2 v' (R.length+1) (cZ R++[.bool x.neg,.slice x.ao x.L.length x.cap]))(H:w.grownBy z v.ownBlock)(I:v'.ownBlock=v.ownBlock∨v'.ownBlock=some w.heap.size):cS d z v' (R++[x]):=by
 refine⟨?_,fun y t=>?_⟩
 ·rw[List.length_append,show cZ (R++[x])=cZ R++[.bool x.neg,.slice x.ao x.L.length x.cap] by simp[cZ]]
  exact G
 ·have l:af w y.ao y.cap y.L∧Av v.ownBlock y:=by
   rcases List.mem_append.1 t with t|t
   ·exact h.2 y t
   ·simp at t;subst t;exact⟨D,F⟩
  refine⟨l.1.grownAv l.2 H,?_⟩
  rcases I with e|e
  ·rw[e];exact l.2
  ·rw[e];exact Av.new l.1 (Nat.le_refl _)
theorem OwnRows.snoc{d:Nat}{w z:World}{v v':Value}{M:List Rw}{r:Rw}(h:OwnRows d w v M)(D:bP w r.ao r.cap r.R)(F:ye v.ownBlock r)(G:z.ownsRow d 75 1 v' (M.length+1) (M.map Rw.v++[r.v]))(H:w.grownBy z v.ownBlock)(I:v'.ownBlock=v.ownBlock∨v'.ownBlock=some w.heap.size):OwnRows d z v' (M++[r]):=by
 refine⟨?_,fun y t=>?_⟩
 ·rw[List.length_append,List.map_append]
  exact G
 ·have l:bP w y.ao y.cap y.R∧ye v.ownBlock y:=by
   rcases List.mem_append.1 t with t|t
   ·exact h.2 y t
   ·simp at t;subst t;exact⟨D,F⟩
  refine⟨l.1.grownAv l.2 H,?_⟩
  rcases I with e|e
  ·rw[e];exact l.2
  ·rw[e];exact ye.new l.1 (Nat.le_refl _)
theorem cS.nums{l:Nat}{w:World}{v:Value}{R:List Nm}(h:cS l w v R):∃D d,v=.slice D R.length d∧bP w D d R∧bB l D (R.map (fun _=>0)):=by
 rcases h.1.2 with⟨F,J⟩|⟨g,d,L,F,M,G,N,Q,T,O⟩
 ·have:R= []:=List.length_eq_zero_iff.1 J
  subst this
  exact⟨none,0,F,⟨by simp,by simp,.inl rfl⟩,.inl rfl⟩
 ·refine⟨some ⟨g,0,none⟩,d,F,⟨N,fun x H=>(h.2 x H).1,.inr ⟨g,0,rfl,(Array.getElem?_eq_some_iff.1 G).1,fun k I=>?_⟩⟩,.inr ⟨g,0,rfl,M⟩⟩
  obtain⟨t,z⟩:=mE R k I
  rw[←O,List.getElem?_take]at t z
  rw[if_pos (by omega)]at t z
  rw[cell_of_row w g _ _ _ _ G,cell_of_row w g _ _ _ _ G,Nat.zero_add]
  simp only[Array.getElem?_toList]at t z
  exact⟨t,z⟩
theorem OwnRows.mat{l:Nat}{w:World}{v:Value}{M:List Rw}(h:OwnRows l w v M):∃t d,v=.slice t M.length d∧gV w t d M∧bB l t (M.map (fun _=>0)):=by
 rcases h.1.2 with⟨z,I⟩|⟨g,d,J,z,L,F,N,Q,T,O⟩
 ·have:M= []:=List.length_eq_zero_iff.1 I
  subst this
  exact⟨none,0,z,⟨by simp,by simp,.inl rfl⟩,.inl rfl⟩
 ·refine⟨some ⟨g,0,none⟩,d,z,⟨N,fun x G=>(h.2 x G).1,.inr ⟨g,0,rfl,(Array.getElem?_eq_some_iff.1 F).1,fun i H=>?_⟩⟩,.inr ⟨g,0,rfl,L⟩⟩
  have D:(M.map Rw.v)[i]? =some (aY M i).v:=by
   rw[List.getElem?_map]
   unfold aY
   rw[List.getElem?_eq_getElem H];rfl
  rw[←O,List.getElem?_take,if_pos (by omega)]at D
  rw[cell_of_row w g _ _ _ _ F,Nat.zero_add]
  simpa using D
theorem fY{B:Nat}{a w l:World}{g:Option Nat}(h:Below B a w)(d:w.grownBy l g)(z:B≤w.heap.size)(t:∀m,g=some m→B≤m):Below B a l:=
 h.trans ⟨d.os,d.tape,d.output,d.size,fun k D=>d.block k (by omega) (fun e=>by have:=t k e.symm;omega)⟩
end Go.Proofs.YtmpkkhackbpflaaGreatDoor
