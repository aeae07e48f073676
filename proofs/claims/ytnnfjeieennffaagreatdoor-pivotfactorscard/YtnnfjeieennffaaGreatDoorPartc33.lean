/- Part 33 of the texts. -/
import Derived.Test.YtnnfjeieennffaaGreatDoorPartc32
set_option maxHeartbeats 4000000
set_option maxRecDepth 20000
namespace Go.Proofs.YtnnfjeieennffaaGreatDoor
open Go.RowKit
attribute [local go_sem ↓] Go.wp_at_zero Go.wp_at_succ
theorem vC(w:World)(x y z:Value)(d:World)(h:Below (w.heap.size+1) (w.alloc (.cells #[x,y,z] 24)) d):
  Below w.heap.size w d∧aw d w.heap.size x y z:=by
 have f:=ac w (.cells #[x,y,z] 24)
 exact⟨f.trans (h.mono (by omega)),(aw.new w x y z).below h (by omega)⟩
theorem lI(w:World)(x y z f l m:Value)(d:World)(h:Below (w.heap.size+1+1) ((w.alloc (.cells #[x,y,z] 24)).alloc (.cells #[f,l,m] 24)) d):
  Below w.heap.size w d∧aw d w.heap.size x y z∧aw d (w.heap.size+1) f l m:=by
 have t:=an w (.cells #[x,y,z] 24)
 have F:Below ((w.alloc (.cells #[x,y,z] 24)).heap.size+1) ((w.alloc (.cells #[x,y,z] 24)).alloc (.cells #[f,l,m] 24)) d:=by rw[t];exact h
 obtain⟨A,D⟩:=vC _ f l m d F
 rw[t]at A D
 obtain⟨G,H⟩:=vC w x y z d A
 exact⟨G,H,D⟩
theorem Il(w:World)(x y z f l m t A z2:Value)(d:World)(h:Below (w.heap.size+1+1+1) (((w.alloc (.cells #[x,y,z] 24)).alloc (.cells #[f,l,m] 24)).alloc (.cells #[t,A,z2] 24)) d):
  Below w.heap.size w d∧aw d w.heap.size x y z∧aw d (w.heap.size+1) f l m∧aw d (w.heap.size+1+1) t A z2:=by
 have D:=an w (.cells #[x,y,z] 24)
 have K:Below ((w.alloc (.cells #[x,y,z] 24)).heap.size+1+1) (((w.alloc (.cells #[x,y,z] 24)).alloc (.cells #[f,l,m] 24)).alloc (.cells #[t,A,z2] 24)) d:=by rw[D];exact h
 obtain⟨F,G,H⟩:=lI _ f l m t A z2 d K
 rw[D]at F G H
 obtain⟨L,M⟩:=vC w x y z d F
 exact⟨L,M,G,H⟩
theorem Ck(i k:Nat)(w:World):
  Calls Tryz.prog 123 #[.int .i64 i,.int .i64 k] w fun e w'=>e=.returned (.int .u64 ((if k=i then 4607182418800017408 else 0:Nat):Int))∧Below w.heap.size w w':=by
 by_cases h:k=i
 ·rw[if_pos h]
  subst h
  go_enter Tryz.func123,Tryz.ntmps123
  go_wp2
  go_ret
  exact⟨rfl,Below.refl _ _⟩
 ·rw[if_neg h]
  have d:decide ((i:Int)=(k:Int))=false:=decide_eq_false (by omega)
  go_enter Tryz.func123,Tryz.ntmps123
  go_wp2
  go_ret
  exact⟨rfl,Below.refl _ _⟩
theorem Cl(r c n d i k a b x l m bk:Nat)(t:Option Addr)(w:World)(z:a+i≤6)(A:b+k≤6)(f:aw w l (.int .i64 r) (.int .i64 c) (.slice t n d))(D:w.cell? ⟨m,0,none⟩=some (.int .i64 (a:Nat)))(F:w.cell? ⟨bk,0,none⟩=some (.int .i64 (b:Nat)))
  (C:Calls Tryz.prog 118 #[.agg #[.int .i64 r,.int .i64 c,.slice t n d],.int .i64 ((a:Int)+(i:Int)),.int .i64 ((b:Int)+(k:Int))] w fun e w'=>e=.returned (.int .u64 (x:Nat))∧Below w.heap.size w w'):
  Calls Tryz.prog 117 #[.int .i64 i,.int .i64 k,.pointer (some ⟨l,0,none⟩),.pointer (some ⟨m,0,none⟩),.pointer (some ⟨bk,0,none⟩)] w fun e w'=>e=.returned (.int .u64 (x:Nat))∧Below w.heap.size w w':=by
 have K:=aa C
 have G:=f.c0;have H:=f.c1;have p2:=f.c2
 clear C f
 go_enter Tryz.func117,Tryz.ntmps117
 go_wp2_with fail
 refine Calls.mono (uH K) ?_
 rintro e L ⟨rfl,h⟩
 clear K
 go_wp2
 go_ret
 exact⟨rfl,h⟩
theorem Cm(w:World)(x y z u v:Value)(d:World)(h:Below (w.heap.size+1+1+1+1) ((((w.alloc (.cells #[x,y,z] 24)).alloc (.cells #[u] 3)).alloc (.cells #[v] 3)).alloc (.cells #[.int .i64 0,.int .i64 0,.slice none 0 0] 24)) d):
  Below w.heap.size w d∧aw d w.heap.size x y z∧(d.cell? ⟨w.heap.size+1,0,none⟩=some u∧d.cell? ⟨w.heap.size+1+1,0,none⟩=some v)∧aw d (w.heap.size+1+1+1) (.int .i64 0) (.int .i64 0) (.slice none 0 0):=by
 have M:=ac w (.cells #[x,y,z] 24)
 have N:=aw.new w x y z
 have t:=an w (.cells #[x,y,z] 24)
 generalize w.alloc (.cells #[x,y,z] 24)=l at*
 have D:=ac l (.cells #[u] 3)
 have O:=dq l u 3
 have F:=an l (.cells #[u] 3)
 have Q:=N.all D
 generalize l.alloc (.cells #[u] 3)=m at*
 have A:=ac m (.cells #[v] 3)
 have U:=dq m v 3
 have V:=an m (.cells #[v] 3)
 have X:=Q.all A
 have Y:=ai O A
 generalize m.alloc (.cells #[v] 3)=wc at*
 have f:=ac wc (.cells #[.int .i64 0,.int .i64 0,.slice none 0 0] 24)
 have G:=aw.new wc (.int .i64 0) (.int .i64 0) (.slice none 0 0)
 have s3:=an wc (.cells #[.int .i64 0,.int .i64 0,.slice none 0 0] 24)
 have Z:=X.all f
 have H:=ai Y f
 have K:=ai U f
 generalize wc.alloc (.cells #[.int .i64 0,.int .i64 0,.slice none 0 0] 24)=L at*
 rw[V,F,t]at G
 rw[t]at H
 rw[F,t]at K
 have hd:L.heap.size=w.heap.size+1+1+1+1:=by omega
 rw[←hd]at h
 have bb:Below w.heap.size w L:=((M.trans (D.mono (by omega))).trans (A.mono (by omega))).trans (f.mono (by omega))
 exact⟨bb.trans (h.mono (by omega)),Z.all h,⟨ai H h,ai K h⟩,G.all h⟩
theorem Im(r c:Int)(m:Option Addr)(n d:Nat)(i k a b:Int)(w:World)(D:n≤35184372088830)(h:lH r c n=false):
  Calls Tryz.prog 69 #[.agg #[.int .i64 r,.int .i64 c,.slice m n d],.int .i64 i,.int .i64 k,.int .i64 a,.int .i64 b] w fun e w'=>∃v,e=.returned (.tuple #[v,.int .i64 1])∧bS w.heap.size w' 0 0 [] v∧Below w.heap.size w w':=by
 have K:=aa (oA r c m n d ((((w.alloc (.cells #[.int .i64 r,.int .i64 c,.slice m n d] 24)).alloc (.cells #[.int .i64 i] 3)).alloc (.cells #[.int .i64 k] 3)).alloc (.cells #[.int .i64 0,.int .i64 0,.slice none 0 0] 24)) D)
 rw[h]at K
 simp only[an]at K
 have z:=aa (Cm w (.int .i64 r) (.int .i64 c) (.slice m n d) (.int .i64 i) (.int .i64 k))
 clear h
 go_enter Tryz.func69,Tryz.ntmps69
 go_wp2_with fail
 refine Calls.mono (uH K) ?_
 rintro e N ⟨rfl,l⟩
 obtain⟨A,H,⟨L,M⟩,f⟩:=uH z N l
 clear K z l H L M
 have O:=f.free 0;have Q:=f.free 1;have U:=f.free 2
 have V:=f.c0;have X:=f.c1;have Y:=f.c2
 have t:=f.put (.int .i64 0) (.int .i64 0) (.slice none 0 0)
 have F:=t.c0;have z1:=t.c1;have z2:=t.c2
 have G:=aa (aA A (b:=w.heap.size+1+1+1) (by omega) (.int .i64 0) (.int .i64 0) (.slice none 0 0))
 clear t f A
 go_wp2
 exact bodyPost_ret (v:=.tuple #[.agg #[.int .i64 0,.int .i64 0,.slice none 0 0],.int .i64 1]) (by simp[results,Tryz.results69,go_sem,F,z1,z2]) rfl ⟨_,rfl,bS.zero _ _,uH G⟩
theorem Cn(r c:Int)(A:Option Addr)(n m:Nat)(i k a b:Int)(x y:Nat)(S:List Nat)(w:World)(hn:n≤35184372088830)(h:lH r c n=true)(O:∀w',Calls Tryz.prog 115 #[.int .i64 i,.int .i64 a,.int .i64 r] w' fun x d=>x=.returned (.bool true)∧w'=d)(U:∀w',Calls Tryz.prog 115 #[.int .i64 k,.int .i64 b,.int .i64 c] w' fun x d=>x=.returned (.bool true)∧w'=d)
  (C:∀f,Below w.heap.size w f→aw f w.heap.size (.int .i64 r) (.int .i64 c) (.slice A n m)→f.cell? ⟨w.heap.size+1,0,none⟩=some (.int .i64 i)→f.cell? ⟨w.heap.size+1+1,0,none⟩=some (.int .i64 k)→Calls Tryz.prog 116 #[.int .i64 a,.int .i64 b,.func (.func 117) #[] #[.pointer (some ⟨w.heap.size,0,none⟩),.pointer (some ⟨w.heap.size+1,0,none⟩),.pointer (some ⟨w.heap.size+1+1,0,none⟩)]] f fun e d=>∃v,e=.returned v∧bS f.heap.size d x y S v∧Below f.heap.size f d):
  Calls Tryz.prog 69 #[.agg #[.int .i64 r,.int .i64 c,.slice A n m],.int .i64 i,.int .i64 k,.int .i64 a,.int .i64 b] w fun e w'=>∃v,e=.returned (.tuple #[v,.int .i64 0])∧bS w.heap.size w' x y S v∧Below w.heap.size w w':=by
 have V:=aa O;have X:=aa U
 clear O U
 have K:=aa (oA r c A n m ((((w.alloc (.cells #[.int .i64 r,.int .i64 c,.slice A n m] 24)).alloc (.cells #[.int .i64 i] 3)).alloc (.cells #[.int .i64 k] 3)).alloc (.cells #[.int .i64 0,.int .i64 0,.slice none 0 0] 24)) hn)
 rw[h]at K
 simp only[an]at K
 have Y:=aa (Cm w (.int .i64 r) (.int .i64 c) (.slice A n m) (.int .i64 i) (.int .i64 k))
 have Z:=aa (fun f (t:Below w.heap.size w f) (z:aw f w.heap.size (.int .i64 r) (.int .i64 c) (.slice A n m)) (M:f.cell? ⟨w.heap.size+1,0,none⟩=some (.int .i64 i)) (N:f.cell? ⟨w.heap.size+1+1,0,none⟩=some (.int .i64 k)) (l:aw f (w.heap.size+1+1+1) (.int .i64 0) (.int .i64 0) (.slice none 0 0))=>(C f t z M N).mono (R':=fun e d=>∃v,e=.returned v∧bS w.heap.size d x y S v∧Below w.heap.size w d∧aw d (w.heap.size+1+1+1) (.int .i64 0) (.int .i64 0) (.slice none 0 0)) (by
  rintro e d ⟨v,rfl,h1,h2⟩
  exact⟨v,rfl,h1.least t.size,t.trans (h2.mono t.size),l.all h2⟩))
 clear h C
 go_enter Tryz.func69,Tryz.ntmps69
 go_wp2_with fail
 refine Calls.mono (uH K) ?_
 rintro e f ⟨rfl,D⟩
 obtain⟨t,z,⟨M,N⟩,l⟩:=uH Y f D
 have p0:=z.c0;have p1:=z.c1;have p2:=z.c2
 have KC:=aa (uH Z f t z M N l)
 clear K Y Z D z l t
 go_wp2_with fail
 refine(uH V _).mono ?_
 rintro e w9 ⟨rfl,rfl⟩
 clear V
 go_wp2_with fail
 refine(uH X _).mono ?_
 rintro e w9 ⟨rfl,rfl⟩
 clear X
 go_wp2_with fail
 refine Calls.mono (uH KC) ?_
 clear KC
 rintro e w2 ⟨v,rfl,⟨F,G,rfl,n1,q1⟩,H,l⟩
 have f0:=l.free 0;have f1:=l.free 1;have f2:=l.free 2
 have L:=l.put (.int .i64 x) (.int .i64 y) (.slice F S.length G)
 have z0:=L.c0;have z1:=L.c1;have z2:=L.c2
 have s0:=l.c0;have s1:=l.c1;have s2:=l.c2
 have Q:=aa (q1.putM l (.int .i64 x) (.int .i64 y) (.slice F S.length G))
 have BP:=aa (aA H (b:=w.heap.size+1+1+1) (by omega) (.int .i64 x) (.int .i64 y) (.slice F S.length G))
 clear L q1 H l
 go_wp2
 exact bodyPost_ret (v:=.tuple #[.agg #[.int .i64 x,.int .i64 y,.slice F S.length G],.int .i64 0]) (by simp[results,Tryz.results69,go_sem,z0,z1,z2]) rfl ⟨_,rfl,⟨F,G,rfl,n1,uH Q⟩,uH BP⟩
theorem Ft(r:Int)(x y:Nat)(S:List Nat)(w:World)(h:Dw r r=true)
  (C:∀l,Below w.heap.size w l→Calls Tryz.prog 116 #[.int .i64 r,.int .i64 r,.func (.func 123) #[] #[]] l fun e d=>∃v,e=.returned v∧bS l.heap.size d x y S v∧Below l.heap.size l d):
  Calls Tryz.prog 75 #[.int .i64 r] w fun e w'=>∃v,e=.returned (.tuple #[v,.int .i64 0])∧bS w.heap.size w' x y S v∧Below w.heap.size w w':=by
 have K:=aa (fun w'=>ml r r w')
 rw[h]at K
 have D:=aa ((C _ (ac w (.cells #[.int .i64 0,.int .i64 0,.slice none 0 0] 24))).mono (R':=fun e d=>∃v,e=.returned v∧bS w.heap.size d x y S v∧Below w.heap.size w d∧aw d w.heap.size (.int .i64 0) (.int .i64 0) (.slice none 0 0)) (by
  rintro e d ⟨v,rfl,M,F⟩
  have b:=ac w (.cells #[.int .i64 0,.int .i64 0,.slice none 0 0] 24)
  exact⟨v,rfl,M.least b.size,b.trans (F.mono b.size),(aw.new w (.int .i64 0) (.int .i64 0) (.slice none 0 0)).all F⟩))
 clear h C
 go_enter Tryz.func75,Tryz.ntmps75
 go_wp2_with fail
 refine(uH K _).mono ?_
 rintro e l ⟨rfl,rfl⟩
 clear K
 go_wp2_with fail
 refine Calls.mono (uH D) ?_
 clear D
 rintro e w2 ⟨v,rfl,⟨m,t,rfl,N,G⟩,z,f⟩
 have O:=f.free 0;have U:=f.free 1;have V:=f.free 2
 have A:=f.put (.int .i64 x) (.int .i64 y) (.slice m S.length t)
 have H:=A.c0;have z1:=A.c1;have z2:=A.c2
 have X:=f.c0;have Y:=f.c1;have Z:=f.c2
 have Q:=aa (G.putM f (.int .i64 x) (.int .i64 y) (.slice m S.length t))
 have L:=aa (aA z (b:=w.heap.size) (by omega) (.int .i64 x) (.int .i64 y) (.slice m S.length t))
 clear A G z f
 go_wp2
 exact bodyPost_ret (v:=.tuple #[.agg #[.int .i64 x,.int .i64 y,.slice m S.length t],.int .i64 0]) (by simp[results,Tryz.results75,go_sem,H,z1,z2]) rfl ⟨_,rfl,⟨m,t,rfl,N,uH Q⟩,uH L⟩
end Go.Proofs.YtnnfjeieennffaaGreatDoor
namespace Go.Proofs.YtnnfjeieennffaaGreatDoor
open Go.RowKit
theorem Fu(d:Array Value)(w:World):(callFunc 117 d).run Tryz.prog w=.ok (.enter 117 d) w:=by
 simp only[callFunc,go_sem]
 rfl
theorem Io(d:Array Value)(w:World):(callFunc 123 d).run Tryz.prog w=.ok (.enter 123 d) w:=by
 simp only[callFunc,go_sem]
 rfl
theorem kO(r c d i k a b:Nat)(f:Option Addr)(S:List Nat)(w:World)(h:Mx w f d r c S)(G:i+a≤r)(H:k+b≤c):
  Calls Tryz.prog 69 #[.agg #[.int .i64 r,.int .i64 c,.slice f S.length d],.int .i64 i,.int .i64 k,.int .i64 a,.int .i64 b] w fun e w'=>∃v,e=.returned (.tuple #[v,.int .i64 0])∧bS w.heap.size w' a b (IL c S i k a b) v∧Below w.heap.size w w':=by
 have K:=h.2.2.1
 have L:=h.2.2.2
 refine Cn r c f S.length d i k a b a b (IL c S i k a b) w (by have:=h.small;omega) (Cc h) (fun w'=>?_) (fun w'=>?_) ?_
 ·have:=tu i a r w' (by omega) (by omega)
  rwa[decide_eq_true (by omega)]at this
 ·have:=tu k b c w' (by omega) (by omega)
  rwa[decide_eq_true (by omega)]at this
 ·intro z t A D F
  refine qh 117 _ a b _ z Fu (by omega) (by omega) (fun x y _ _=>h.el_lt _ _) ?_
  intro w' x y l M N
  have m:Below w.heap.size w w':=t.trans (l.mono t.size)
  refine Cl r c S.length d x y i k _ w.heap.size (w.heap.size+1) (w.heap.size+1+1) f w' (by omega) (by omega) (A.all l) (ai D l) (ai F l) ?_
  rw[show(i:Int)+(x:Int)=((i+x:Nat):Int) by simp,show(k:Int)+(y:Int)=((k+y:Nat):Int) by simp]
  exact Fs r c d (i+x) (k+y) f S w' (h.below m) (by omega) (by omega)
theorem Fv(n:Nat)(w:World)(d:n≤6):
  Calls Tryz.prog 75 #[.int .i64 n] w fun e w'=>∃v,e=.returned (.tuple #[v,.int .i64 0])∧bS w.heap.size w' n n (yT n) v∧Below w.heap.size w w':=
 Ft n n n _ w (decide_eq_true (by omega)) (fun f _=>qh 123 #[] n n _ f Io d d (fun i k _ _=>by split<;>decide) (fun w' i k _ _ _=>Ck i k w'))
attribute [local go_sem ↓] Go.wp_at_zero Go.wp_at_succ
theorem vD(r c:Int)(t:Option Addr)(n f:Nat)(w:World):
  Calls Tryz.prog 18 #[.agg #[.int .i64 r,.int .i64 c,.slice t n f]] w fun e w'=>e=.returned (.bool (lH r c n))∧Below w.heap.size w w':=by
 have d:=aa (ac w (.cells #[.int .i64 r,.int .i64 c,.slice t n f] 24))
 rcases(show(r<0∧lH r c n=false)∨(0≤r∧6<r∧lH r c n=false)∨(0≤r∧r≤6∧c<0∧lH r c n=false)∨(0≤r∧r≤6∧0≤c∧6<c∧lH r c n=false)∨(0≤r∧r≤6∧0≤c∧c≤6) by
  unfold lH
  by_cases h:0≤r∧r≤6∧0≤c∧c≤6
  ·omega
  ·rw[decide_eq_false (fun g=>h g.1)];simp;omega)with⟨h1,e⟩|⟨h1,h2,e⟩|⟨h1,h2,h3,e⟩|⟨h1,h2,h3,h4,e⟩|⟨h1,h2,h3,h4⟩
 ·rw[e]
  clear e
  go_enter Tryz.func18,Tryz.ntmps18
  go_wp2
  go_ret
  exact⟨rfl,uH d⟩
 ·rw[e]
  clear e
  go_enter Tryz.func18,Tryz.ntmps18
  go_wp2
  go_ret
  exact⟨rfl,uH d⟩
 ·rw[e]
  clear e
  go_enter Tryz.func18,Tryz.ntmps18
  go_wp2
  go_ret
  exact⟨rfl,uH d⟩
 ·rw[e]
  clear e
  go_enter Tryz.func18,Tryz.ntmps18
  go_wp2
  go_ret
  exact⟨rfl,uH d⟩
 ·have l:∃m:Nat,r*c=(m:Int)∧m≤36:=by
   obtain⟨a,rfl⟩:=Int.eq_ofNat_of_zero_le h1
   obtain⟨b,rfl⟩:=Int.eq_ofNat_of_zero_le h3
   refine⟨a*b,by simp,?_⟩
   have:a*b≤6*6:=Nat.mul_le_mul (by omega) (by omega)
   omega
  obtain⟨m,l,A⟩:=l
  have z:lH r c n=decide ((n:Int)=(m:Int)):=decide_eq_decide.2 (by rw[l];exact⟨fun h=>h.2,fun h=>⟨⟨h1,h2,h3,h4⟩,h⟩⟩)
  rw[z]
  clear z
  go_enter Tryz.func18,Tryz.ntmps18
  go_wp2
  go_ret
  refine⟨?_,uH d⟩
  first|rfl|simp
theorem Ip(r c n f b d i k q x:Nat)(w:World)(z:(i:Int)*(c:Int)=(q:Int))(m:q+k<n)(A:n≤36)
  (l:w.cell? ⟨b,d+(q+k),none⟩=some (.int .u64 (x:Nat))):
  Calls Tryz.prog 50 #[.agg #[.int .i64 r,.int .i64 c,.slice (some ⟨b,d,none⟩) n f],.int .i64 i,.int .i64 k] w fun e w'=>e=.returned (.int .u64 (x:Nat))∧Below w.heap.size w w':=by
 have h:=aa (ac w (.cells #[.int .i64 r,.int .i64 c,.slice (some ⟨b,d,none⟩) n f] 24))
 have D:=ai l (uH h)
 clear l
 have t:(q:Int)+(k:Int)<(n:Int):=by omega
 go_enter Tryz.func50,Tryz.ntmps50
 go_wp2
 go_ret
 exact⟨rfl,uH h⟩
theorem wV(r c d i k:Nat)(l:Option Addr)(S:List Nat)(w:World)(h:Mx w l d r c S)(m:i<r)(t:k<c):
  Calls Tryz.prog 50 #[.agg #[.int .i64 r,.int .i64 c,.slice l S.length d],.int .i64 i,.int .i64 k] w fun e w'=>e=.returned (.int .u64 (gJ c S i k:Nat))∧Below w.heap.size w w':=by
 obtain⟨b,f,rfl,D,z,A⟩:=h.cells m t
 exact Ip r c S.length d b f i k (i*c) _ w (bY i c) A h.small z
theorem oB(r c:Nat)(w:World)(z:r≤6)(A:c≤6):
  Calls Tryz.prog 26 #[.int .i64 r,.int .i64 c] w fun e w'=>∃v,e=.returned v∧bS w.heap.size w' r c (List.replicate (r*c) 0) v∧Below w.heap.size w w':=by
 have K:(r:Int)*(c:Int)=((r*c:Nat):Int):=bY r c
 have F:r*c≤36:=Nat.mul_le_mul z A
 have G:=run_make_row' (P:=Tryz.prog) 22 31 (.int .u64 0) 8 Tryz.underlying22 (by kernel_rfl) rfl .i64 .i64 (r*c) (by omega) (by omega)
 generalize h:r*c=n at*
 clear h
 have d:=ac w (.cells #[.int .i64 r,.int .i64 c,.slice (some ⟨w.heap.size+1,0,none⟩) n n] 24)
 have l:=an w (.cells #[.int .i64 r,.int .i64 c,.slice (some ⟨w.heap.size+1,0,none⟩) n n] 24)
 have m:=ac (w.alloc (.cells #[.int .i64 r,.int .i64 c,.slice (some ⟨w.heap.size+1,0,none⟩) n n] 24)) (.cells (madeCells #[.int .u64 0] n) 31)
 have t:=bg.made (w.alloc (.cells #[.int .i64 r,.int .i64 c,.slice (some ⟨w.heap.size+1,0,none⟩) n n] 24)) n
 have H:=aa (d.trans (m.mono d.size))
 have f:=t.bits (fun x D=>by rw[(List.mem_replicate.1 D).2];decide)
 rw[l,List.length_replicate]at f
 have Q:=aa f
 clear d m t f l
 go_enter Tryz.func26,Tryz.ntmps26
 go_wp2
 exact bodyPost_ret (v:=.agg #[.int .i64 r,.int .i64 c,.slice (some ⟨w.heap.size+1,0,none⟩) n n]) (by simp[results,Tryz.results26,go_sem]) rfl ⟨_,rfl,⟨some ⟨w.heap.size+1,0,none⟩,n,by rw[List.length_replicate],.inr ⟨_,_,rfl,by omega⟩,uH Q⟩,uH H⟩
end Go.Proofs.YtnnfjeieennffaaGreatDoor
