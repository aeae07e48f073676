/- Part 32 of the texts. -/
import Derived.Test.YtenpggicmfhhdaaGreatDoorParte31
set_option maxHeartbeats 4000000
set_option maxRecDepth 20000
namespace Go.Proofs.YtenpggicmfhhdaaGreatDoor
open Go.RowKit
attribute [local go_sem ↓] Go.wp_at_zero Go.wp_at_succ
theorem zY(w:World)(x y z u v:Value)(d:World)(h:Below (w.heap.size+1+1+1+1) ((((w.alloc (.cells #[x,y,z] 24)).alloc (.cells #[u] 3)).alloc (.cells #[v] 3)).alloc (.cells #[.int .i64 0,.int .i64 0,.slice none 0 0] 24)) d):
  Below w.heap.size w d∧au d w.heap.size x y z∧(d.cell? ⟨w.heap.size+1,0,none⟩=some u∧d.cell? ⟨w.heap.size+1+1,0,none⟩=some v)∧au d (w.heap.size+1+1+1) (.int .i64 0) (.int .i64 0) (.slice none 0 0):=by
 have L:=ac w (.cells #[x,y,z] 24)
 have M:=au.new w x y z
 have t:=ai w (.cells #[x,y,z] 24)
 generalize w.alloc (.cells #[x,y,z] 24)=l at*
 have D:=ac l (.cells #[u] 3)
 have N:=cD l u 3
 have F:=ai l (.cells #[u] 3)
 have O:=M.all D
 generalize l.alloc (.cells #[u] 3)=m at*
 have A:=ac m (.cells #[v] 3)
 have Q:=cD m v 3
 have T:=ai m (.cells #[v] 3)
 have U:=O.all A
 have V:=ag N A
 generalize m.alloc (.cells #[v] 3)=wc at*
 have f:=ac wc (.cells #[.int .i64 0,.int .i64 0,.slice none 0 0] 24)
 have G:=au.new wc (.int .i64 0) (.int .i64 0) (.slice none 0 0)
 have s3:=ai wc (.cells #[.int .i64 0,.int .i64 0,.slice none 0 0] 24)
 have X:=U.all f
 have H:=ag V f
 have I:=ag Q f
 generalize wc.alloc (.cells #[.int .i64 0,.int .i64 0,.slice none 0 0] 24)=K at*
 rw[T,F,t]at G
 rw[t]at H
 rw[F,t]at I
 have Y:K.heap.size=w.heap.size+1+1+1+1:=by omega
 rw[←Y]at h
 have Z:Below w.heap.size w K:=((L.trans (D.mono (by omega))).trans (A.mono (by omega))).trans (f.mono (by omega))
 exact⟨Z.trans (h.mono (by omega)),X.all h,⟨ag H h,ag I h⟩,G.all h⟩
theorem Fo(r c:Int)(m:Option Addr)(n d:Nat)(i k a b:Int)(w:World)(D:n≤35184372088830)(h:jA r c n=false):
  Calls Tryz.prog 50 #[.agg #[.int .i64 r,.int .i64 c,.slice m n d],.int .i64 i,.int .i64 k,.int .i64 a,.int .i64 b] w fun e y=>∃v,e=.returned (.tuple #[v,.int .i64 1])∧az w.heap.size y 0 0 [] v∧Below w.heap.size w y:=by
 have K:=aa (ic r c m n d ((((w.alloc (.cells #[.int .i64 r,.int .i64 c,.slice m n d] 24)).alloc (.cells #[.int .i64 i] 3)).alloc (.cells #[.int .i64 k] 3)).alloc (.cells #[.int .i64 0,.int .i64 0,.slice none 0 0] 24)) D)
 rw[h]at K
 simp only[ai]at K
 have z:=aa (zY w (.int .i64 r) (.int .i64 c) (.slice m n d) (.int .i64 i) (.int .i64 k))
 clear h
 go_enter Tryz.func50,Tryz.ntmps50
 go_wp2_with fail
 refine Calls.mono (uH K) ?_
 rintro e M ⟨rfl,l⟩
 obtain⟨A,H,⟨I,L⟩,f⟩:=uH z M l
 clear K z l H I L
 have N:=f.free 0;have O:=f.free 1;have Q:=f.free 2
 have T:=f.c0;have U:=f.c1;have V:=f.c2
 have t:=f.put (.int .i64 0) (.int .i64 0) (.slice none 0 0)
 have F:=t.c0;have z1:=t.c1;have z2:=t.c2
 have G:=aa (al A (b:=w.heap.size+1+1+1) (by omega) (.int .i64 0) (.int .i64 0) (.slice none 0 0))
 clear t f A
 go_wp2
 exact bodyPost_ret (v:=.tuple #[.agg #[.int .i64 0,.int .i64 0,.slice none 0 0],.int .i64 1]) (by simp[results,Tryz.results50,go_sem,F,z1,z2]) rfl ⟨_,rfl,az.zero _ _,uH G⟩
theorem zZ(r c:Int)(D:Option Addr)(n m:Nat)(i k a b:Int)(x y:Nat)(S:List Nat)(w:World)(hn:n≤35184372088830)(h:jA r c n=true)(O:∀t,Calls Tryz.prog 68 #[.int .i64 i,.int .i64 a,.int .i64 r] t fun x d=>x=.returned (.bool true)∧t=d)(T:∀t,Calls Tryz.prog 68 #[.int .i64 k,.int .i64 b,.int .i64 c] t fun x d=>x=.returned (.bool true)∧t=d)
  (C:∀f,Below w.heap.size w f→au f w.heap.size (.int .i64 r) (.int .i64 c) (.slice D n m)→f.cell? ⟨w.heap.size+1,0,none⟩=some (.int .i64 i)→f.cell? ⟨w.heap.size+1+1,0,none⟩=some (.int .i64 k)→Calls Tryz.prog 46 #[.int .i64 a,.int .i64 b,.func (.func 69) #[] #[.pointer (some ⟨w.heap.size,0,none⟩),.pointer (some ⟨w.heap.size+1,0,none⟩),.pointer (some ⟨w.heap.size+1+1,0,none⟩)]] f fun e d=>∃v,e=.returned v∧az f.heap.size d x y S v∧Below f.heap.size f d):
  Calls Tryz.prog 50 #[.agg #[.int .i64 r,.int .i64 c,.slice D n m],.int .i64 i,.int .i64 k,.int .i64 a,.int .i64 b] w fun e t=>∃v,e=.returned (.tuple #[v,.int .i64 0])∧az w.heap.size t x y S v∧Below w.heap.size w t:=by
 have U:=aa O;have V:=aa T
 clear O T
 have K:=aa (ic r c D n m ((((w.alloc (.cells #[.int .i64 r,.int .i64 c,.slice D n m] 24)).alloc (.cells #[.int .i64 i] 3)).alloc (.cells #[.int .i64 k] 3)).alloc (.cells #[.int .i64 0,.int .i64 0,.slice none 0 0] 24)) hn)
 rw[h]at K
 simp only[ai]at K
 have X:=aa (zY w (.int .i64 r) (.int .i64 c) (.slice D n m) (.int .i64 i) (.int .i64 k))
 have Y:=aa (fun f (z:Below w.heap.size w f) (A:au f w.heap.size (.int .i64 r) (.int .i64 c) (.slice D n m)) (M:f.cell? ⟨w.heap.size+1,0,none⟩=some (.int .i64 i)) (N:f.cell? ⟨w.heap.size+1+1,0,none⟩=some (.int .i64 k)) (l:au f (w.heap.size+1+1+1) (.int .i64 0) (.int .i64 0) (.slice none 0 0))=>(C f z A M N).mono (R':=fun e d=>∃v,e=.returned v∧az w.heap.size d x y S v∧Below w.heap.size w d∧au d (w.heap.size+1+1+1) (.int .i64 0) (.int .i64 0) (.slice none 0 0)) (by
  rintro e d ⟨v,rfl,h1,h2⟩
  exact⟨v,rfl,h1.least z.size,z.trans (h2.mono z.size),l.all h2⟩))
 clear h C
 go_enter Tryz.func50,Tryz.ntmps50
 go_wp2_with fail
 refine Calls.mono (uH K) ?_
 rintro e f ⟨rfl,F⟩
 obtain⟨z,A,⟨M,N⟩,l⟩:=uH X f F
 have p0:=A.c0;have p1:=A.c1;have p2:=A.c2
 have Z:=aa (uH Y f z A M N l)
 clear K X Y F A l z
 go_wp2_with fail
 refine(uH U _).mono ?_
 rintro e w9 ⟨rfl,rfl⟩
 clear U
 go_wp2_with fail
 refine(uH V _).mono ?_
 rintro e w9 ⟨rfl,rfl⟩
 clear V
 go_wp2_with fail
 refine Calls.mono (uH Z) ?_
 clear Z
 rintro e w2 ⟨v,rfl,⟨G,H,rfl,n1,q1⟩,I,l⟩
 have f0:=l.free 0;have f1:=l.free 1;have f2:=l.free 2
 have L:=l.put (.int .i64 x) (.int .i64 y) (.slice G S.length H)
 have z0:=L.c0;have z1:=L.c1;have z2:=L.c2
 have s0:=l.c0;have s1:=l.c1;have s2:=l.c2
 have Q:=aa (q1.putM l (.int .i64 x) (.int .i64 y) (.slice G S.length H))
 have BP:=aa (al I (b:=w.heap.size+1+1+1) (by omega) (.int .i64 x) (.int .i64 y) (.slice G S.length H))
 clear L q1 I l
 go_wp2
 exact bodyPost_ret (v:=.tuple #[.agg #[.int .i64 x,.int .i64 y,.slice G S.length H],.int .i64 0]) (by simp[results,Tryz.results50,go_sem,z0,z1,z2]) rfl ⟨_,rfl,⟨G,H,rfl,n1,uH Q⟩,uH BP⟩
theorem Dv(r:Int)(x y:Nat)(S:List Nat)(w:World)(h:AU r r=true)
  (C:∀l,Below w.heap.size w l→Calls Tryz.prog 46 #[.int .i64 r,.int .i64 r,.func (.func 78) #[] #[]] l fun e d=>∃v,e=.returned v∧az l.heap.size d x y S v∧Below l.heap.size l d):
  Calls Tryz.prog 54 #[.int .i64 r] w fun e A=>∃v,e=.returned (.tuple #[v,.int .i64 0])∧az w.heap.size A x y S v∧Below w.heap.size w A:=by
 have K:=aa (fun A=>kY r r A)
 rw[h]at K
 have F:=aa ((C _ (ac w (.cells #[.int .i64 0,.int .i64 0,.slice none 0 0] 24))).mono (R':=fun e d=>∃v,e=.returned v∧az w.heap.size d x y S v∧Below w.heap.size w d∧au d w.heap.size (.int .i64 0) (.int .i64 0) (.slice none 0 0)) (by
  rintro e d ⟨v,rfl,M,G⟩
  have b:=ac w (.cells #[.int .i64 0,.int .i64 0,.slice none 0 0] 24)
  exact⟨v,rfl,M.least b.size,b.trans (G.mono b.size),(au.new w (.int .i64 0) (.int .i64 0) (.slice none 0 0)).all G⟩))
 clear h C
 go_enter Tryz.func54,Tryz.ntmps54
 go_wp2_with fail
 refine(uH K _).mono ?_
 rintro e l ⟨rfl,rfl⟩
 clear K
 go_wp2_with fail
 refine Calls.mono (uH F) ?_
 clear F
 rintro e Z ⟨v,rfl,⟨m,t,rfl,N,H⟩,z,f⟩
 have O:=f.free 0;have T:=f.free 1;have U:=f.free 2
 have D:=f.put (.int .i64 x) (.int .i64 y) (.slice m S.length t)
 have I:=D.c0;have z1:=D.c1;have z2:=D.c2
 have V:=f.c0;have X:=f.c1;have Y:=f.c2
 have Q:=aa (H.putM f (.int .i64 x) (.int .i64 y) (.slice m S.length t))
 have L:=aa (al z (b:=w.heap.size) (by omega) (.int .i64 x) (.int .i64 y) (.slice m S.length t))
 clear D H z f
 go_wp2
 exact bodyPost_ret (v:=.tuple #[.agg #[.int .i64 x,.int .i64 y,.slice m S.length t],.int .i64 0]) (by simp[results,Tryz.results54,go_sem,I,z1,z2]) rfl ⟨_,rfl,⟨m,t,rfl,N,uH Q⟩,uH L⟩
end Go.Proofs.YtenpggicmfhhdaaGreatDoor
namespace Go.Proofs.YtenpggicmfhhdaaGreatDoor
open Go.RowKit
theorem iI(r c d:Nat)(f:Option Addr)(S:List Nat)(w:World)(h:Mx w f d r c S):
  Calls Tryz.prog 24 #[.agg #[.int .i64 r,.int .i64 c,.slice f S.length d]] w fun e l=>∃v,e=.returned (.tuple #[v,.int .i64 0])∧az w.heap.size l c r (d8 r c S) v∧Below w.heap.size w l:=
 zV r c f S.length d c r (d8 r c S) w (by have:=h.small;omega) (mX h) (fun m t=>tH r c d f S m (h.below t))
theorem Dw(d:Array Value)(w:World):(callFunc 69 d).run Tryz.prog w=.ok (.enter 69 d) w:=by
 simp only[callFunc,go_sem]
 rfl
theorem Fp(d:Array Value)(w:World):(callFunc 78 d).run Tryz.prog w=.ok (.enter 78 d) w:=by
 simp only[callFunc,go_sem]
 rfl
theorem mY(r c d i k a b:Nat)(l:Option Addr)(S:List Nat)(w:World)(h:Mx w l d r c S)(H:i+a≤r)(I:k+b≤c):
  Calls Tryz.prog 50 #[.agg #[.int .i64 r,.int .i64 c,.slice l S.length d],.int .i64 i,.int .i64 k,.int .i64 a,.int .i64 b] w fun e f=>∃v,e=.returned (.tuple #[v,.int .i64 0])∧az w.heap.size f a b (FO c S i k a b) v∧Below w.heap.size w f:=by
 have K:=h.2.2.1
 have L:=h.2.2.2
 refine zZ r c l S.length d i k a b a b (FO c S i k a b) w (by have:=h.small;omega) (mX h) (fun f=>?_) (fun f=>?_) ?_
 ·have:=rG i a r f (by omega) (by omega)
  rwa[decide_eq_true (by omega)]at this
 ·have:=rG k b c f (by omega) (by omega)
  rwa[decide_eq_true (by omega)]at this
 ·intro A z D F G
  refine kH 69 _ a b _ A Dw (by omega) (by omega) (fun x y _ _=>h.el_lt _ _) ?_
  intro f x y m M N
  have t:Below w.heap.size w f:=z.trans (m.mono z.size)
  refine zX r c S.length d x y i k _ w.heap.size (w.heap.size+1) (w.heap.size+1+1) l f (by omega) (by omega) (D.all m) (ag F m) (ag G m) ?_
  rw[show(i:Int)+(x:Int)=((i+x:Nat):Int) by simp,show(k:Int)+(y:Int)=((k+y:Nat):Int) by simp]
  exact uR r c d (i+x) (k+y) l S f (h.below t) (by omega) (by omega)
theorem Dx(n:Nat)(w:World)(f:n≤6):
  Calls Tryz.prog 54 #[.int .i64 n] w fun e d=>∃v,e=.returned (.tuple #[v,.int .i64 0])∧az w.heap.size d n n (wI n) v∧Below w.heap.size w d:=
 Dv n n n _ w (decide_eq_true (by omega)) (fun h _=>kH 78 #[] n n _ h Fp f f (fun i k _ _=>by split<;>decide) (fun d i k _ _ _=>zW i k d))
theorem ez(r c:Nat)(S:List Nat):(d8 r c S).length=c*r:=bY _ _ _
attribute [local go_sem ↓] Go.wp_at_zero Go.wp_at_succ
theorem mZ(r c:Int)(t:Option Addr)(n f:Nat)(w:World):
  Calls Tryz.prog 8 #[.agg #[.int .i64 r,.int .i64 c,.slice t n f]] w fun e z=>e=.returned (.bool (jA r c n))∧Below w.heap.size w z:=by
 have d:=aa (ac w (.cells #[.int .i64 r,.int .i64 c,.slice t n f] 24))
 rcases(show(r<0∧jA r c n=false)∨(0≤r∧6<r∧jA r c n=false)∨(0≤r∧r≤6∧c<0∧jA r c n=false)∨(0≤r∧r≤6∧0≤c∧6<c∧jA r c n=false)∨(0≤r∧r≤6∧0≤c∧c≤6) by
  unfold jA
  by_cases h:0≤r∧r≤6∧0≤c∧c≤6
  ·omega
  ·rw[decide_eq_false (fun g=>h g.1)];simp;omega)with⟨h1,e⟩|⟨h1,h2,e⟩|⟨h1,h2,h3,e⟩|⟨h1,h2,h3,h4,e⟩|⟨h1,h2,h3,h4⟩
 ·rw[e]
  clear e
  go_enter Tryz.func8,Tryz.ntmps8
  go_wp2
  go_ret
  exact⟨rfl,uH d⟩
 ·rw[e]
  clear e
  go_enter Tryz.func8,Tryz.ntmps8
  go_wp2
  go_ret
  exact⟨rfl,uH d⟩
 ·rw[e]
  clear e
  go_enter Tryz.func8,Tryz.ntmps8
  go_wp2
  go_ret
  exact⟨rfl,uH d⟩
 ·rw[e]
  clear e
  go_enter Tryz.func8,Tryz.ntmps8
  go_wp2
  go_ret
  exact⟨rfl,uH d⟩
 ·have l:∃m:Nat,r*c=(m:Int)∧m≤36:=by
   obtain⟨a,rfl⟩:=Int.eq_ofNat_of_zero_le h1
   obtain⟨b,rfl⟩:=Int.eq_ofNat_of_zero_le h3
   refine⟨a*b,by simp,?_⟩
   have:a*b≤6*6:=Nat.mul_le_mul (by omega) (by omega)
   omega
  obtain⟨m,l,A⟩:=l
  have y:jA r c n=decide ((n:Int)=(m:Int)):=decide_eq_decide.2 (by rw[l];exact⟨fun h=>h.2,fun h=>⟨⟨h1,h2,h3,h4⟩,h⟩⟩)
  rw[y]
  clear y
  go_enter Tryz.func8,Tryz.ntmps8
  go_wp2
  go_ret
  refine⟨?_,uH d⟩
  first|rfl|simp
theorem Fq(r c n f b d i k q x:Nat)(w:World)(z:(i:Int)*(c:Int)=(q:Int))(m:q+k<n)(A:n≤36)
  (l:w.cell? ⟨b,d+(q+k),none⟩=some (.int .u64 (x:Nat))):
  Calls Tryz.prog 18 #[.agg #[.int .i64 r,.int .i64 c,.slice (some ⟨b,d,none⟩) n f],.int .i64 i,.int .i64 k] w fun e t=>e=.returned (.int .u64 (x:Nat))∧Below w.heap.size w t:=by
 have h:=aa (ac w (.cells #[.int .i64 r,.int .i64 c,.slice (some ⟨b,d,none⟩) n f] 24))
 have D:=ag l (uH h)
 clear l
 have y:(q:Int)+(k:Int)<(n:Int):=by omega
 go_enter Tryz.func18,Tryz.ntmps18
 go_wp2
 go_ret
 exact⟨rfl,uH h⟩
theorem uS(r c d i k:Nat)(l:Option Addr)(S:List Nat)(w:World)(h:Mx w l d r c S)(m:i<r)(t:k<c):
  Calls Tryz.prog 18 #[.agg #[.int .i64 r,.int .i64 c,.slice l S.length d],.int .i64 i,.int .i64 k] w fun e y=>e=.returned (.int .u64 (dJ c S i k:Nat))∧Below w.heap.size w y:=by
 obtain⟨b,f,rfl,D,z,A⟩:=h.cells m t
 exact Fq r c S.length d b f i k (i*c) _ w (bJ i c) A h.small z
theorem Dy(r c n d i q p:Nat)(l:Option Addr)(w:World)(A:(i:Int)*(c:Int)=(q:Int))(D:((i:Int)+1)*(c:Int)=(p:Int))(m:q≤p)(t:p≤n)(y:n≤d)(F:n≤36)(G:i≤6):
  Calls Tryz.prog 31 #[.agg #[.int .i64 r,.int .i64 c,.slice l n d],.int .i64 i] w fun e z=>e=.returned (.slice (if d=q then l else l.map (·.add (q*1))) (p-q) (d-q))∧Below w.heap.size w z:=by
 have f:=aa (ac w (.cells #[.int .i64 r,.int .i64 c,.slice l n d] 24))
 by_cases h:d=q
 ·subst h
  rw[if_pos rfl]
  go_enter Tryz.func31,Tryz.ntmps31
  go_wp2
  go_ret
  exact⟨by simp,uH f⟩
 ·rw[if_neg h]
  go_enter Tryz.func31,Tryz.ntmps31
  go_wp2
  go_ret
  exact⟨by simp,uH f⟩
theorem Aa(r c f i:Nat)(l:Option Addr)(S:List Nat)(w:World)(h:Mx w l f r c S)(t:i<r):
  Calls Tryz.prog 31 #[.agg #[.int .i64 r,.int .i64 c,.slice l S.length f],.int .i64 i] w fun e m=>∃y d,e=.returned (.slice y c d)∧ab m y d (ar (Fl c S i))∧Below w.heap.size w m:=by
 have D:(i+1)*c≤S.length:=by rw[h.2.1];exact Nat.mul_le_mul_right c t
 have F:i*c≤(i+1)*c:=Nat.mul_le_mul_right c (by omega)
 have z:=h.1.1
 rw[aq]at z
 have G:=h.2.2.1
 refine(Dy r c S.length f i (i*c) ((i+1)*c) l w (bJ i c) (by simp) F D z h.small (by omega)).mono ?_
 rintro e m ⟨rfl,A⟩
 rw[show(i+1)*c-i*c=c by rw[Nat.add_mul,Nat.one_mul];omega]
 exact⟨_,_,rfl,zS h A t,A⟩
theorem m4(r c:Nat)(w:World)(z:r≤6)(A:c≤6):
  Calls Tryz.prog 44 #[.int .i64 r,.int .i64 c] w fun e l=>∃v,e=.returned v∧az w.heap.size l r c (List.replicate (r*c) 0) v∧Below w.heap.size w l:=by
 have I:(r:Int)*(c:Int)=((r*c:Nat):Int):=bJ r c
 have F:r*c≤36:=Nat.mul_le_mul z A
 have G:=run_make_row' (P:=Tryz.prog) 22 30 (.int .u64 0) 8 Tryz.underlying22 (by kernel_rfl) rfl .i64 .i64 (r*c) (by omega) (by omega)
 generalize h:r*c=n at*
 clear h
 have d:=ac w (.cells #[.int .i64 r,.int .i64 c,.slice (some ⟨w.heap.size+1,0,none⟩) n n] 24)
 have m:=ai w (.cells #[.int .i64 r,.int .i64 c,.slice (some ⟨w.heap.size+1,0,none⟩) n n] 24)
 have t:=ac (w.alloc (.cells #[.int .i64 r,.int .i64 c,.slice (some ⟨w.heap.size+1,0,none⟩) n n] 24)) (.cells (madeCells #[.int .u64 0] n) 30)
 have y:=bT.made (w.alloc (.cells #[.int .i64 r,.int .i64 c,.slice (some ⟨w.heap.size+1,0,none⟩) n n] 24)) n
 have H:=aa (d.trans (t.mono d.size))
 have f:=y.bits (fun x D=>by rw[(List.mem_replicate.1 D).2];decide)
 rw[m,List.length_replicate]at f
 have Q:=aa f
 clear d t y f m
 go_enter Tryz.func44,Tryz.ntmps44
 go_wp2
 exact bodyPost_ret (v:=.agg #[.int .i64 r,.int .i64 c,.slice (some ⟨w.heap.size+1,0,none⟩) n n]) (by simp[results,Tryz.results44,go_sem]) rfl ⟨_,rfl,⟨some ⟨w.heap.size+1,0,none⟩,n,by rw[List.length_replicate],.inr ⟨_,_,rfl,by omega⟩,uH Q⟩,uH H⟩
theorem bK.at{d:Nat}{w:World}{m:Option Addr}{n f:Nat}{S:List Nat}(h:bK d w (.slice m n f) S){j:Nat}(z:j<S.length):
  ∃g,m=some ⟨g,0,none⟩∧d≤g∧g<w.heap.size∧w.cell? ⟨g,j,none⟩=some (.int .u64 (S.getD j 0:Nat))∧w.frozen? ⟨g,j,none⟩=false∧
   ∀x,x<18446744073709551616→bK d (w.setCell ⟨g,j,none⟩ (.int .u64 (x:Nat))) (.slice m n f) (S.set j x):=by
 obtain⟨⟨Q,I⟩,K⟩:=h
 rcases I with⟨_,T⟩|⟨g,A,t,D,F,l,M,N,O,G⟩
 ·omega
 ·simp only[Value.slice.injEq]at D
  obtain⟨rfl,rfl,rfl⟩:=D
  have q:(S.map fY)[j]? =some (.int .u64 ((S[j]:Nat):Int)):=by
   rw[List.getElem?_map,List.getElem?_eq_getElem z];rfl
  rw[←G,List.getElem?_take,if_pos (by omega)]at q
  refine⟨g,rfl,F,(Array.getElem?_eq_some_iff.1 l).1,?_,frozen_of_row w g j _ _ l,fun x H=>⟨⟨by simp,.inr ⟨g,f,t.setIfInBounds j (.int .u64 (x:Nat)),?_,F,heap_setCell_same w g j _ _ _ l,by simpa using M,N,by simpa using O,?_⟩⟩,?_⟩⟩
  ·rw[cell_of_row w g j _ _ _ l]
   have e:S.getD j 0=S[j]:=by rw[List.getD_eq_getElem?_getD,List.getElem?_eq_getElem z];rfl
   rw[e]
   simpa using q
  ·simp
  ·rw[Array.toList_setIfInBounds,List.take_set,List.length_set,G,List.map_set]
   rfl
  ·intro y L
   rcases List.mem_or_eq_of_mem_set L with e|e
   ·exact K y e
   ·rw[e];exact H
theorem Ab(r c n f i k q x g:Nat)(F:Option Addr)(I:Option Addr)(l:Nat)(S:List Nat)(w G:World)(K:S.length=n)(hq:(i:Int)*(c:Int)=(q:Int))(ae:q+k<n)(hn:n≤36)(hx:x<18446744073709551616)
  (m:(Builtin.append_ #[22,22] 22 #[.slice (some ⟨w.heap.size+1+1,0,none⟩) 0 0,.slice F n f]).run Tryz.prog (((w.alloc (.cells #[.int .i64 r,.int .i64 c,.slice F n f] 24)).alloc (.cells #[.int .i64 0,.int .i64 0,.slice none 0 0] 24)).alloc (.cells #[] 30))=.ok (.slice I n l) G)
  (O:bK (w.heap.size+1+1) G (.slice I n l) S) (T:Below (w.heap.size+1+1) ((w.alloc (.cells #[.int .i64 r,.int .i64 c,.slice F n f] 24)).alloc (.cells #[.int .i64 0,.int .i64 0,.slice none 0 0] 24)) G) (U:I=some ⟨g,0,none⟩):
  Calls Tryz.prog 45 #[.agg #[.int .i64 r,.int .i64 c,.slice F n f],.int .i64 i,.int .i64 k,.int .u64 x] w fun e V=>∃v,e=.returned v∧az w.heap.size V r c (S.set (q+k) x) v∧Below w.heap.size w V:=by
 have t:=aa m
 obtain⟨z,A,X⟩:=f8 w _ _ _ _ _ _ G T
 obtain⟨g',M,hg,Y,cx,fx,D⟩:=O.at (j:=q+k) (by omega)
 rw[U]at M
 simp only[Option.some.injEq,Addr.mk.injEq]at M
 obtain⟨rfl,_⟩:=M
 subst U
 have L:=D x hx
 have h:=A.other (p:=⟨g,q+k,none⟩) (by show w.heap.size≠g;omega) (.int .u64 (x:Nat))
 have d:=X.other (p:=⟨g,q+k,none⟩) (by show w.heap.size+1≠g;omega) (.int .u64 (x:Nat))
 have y:=z.setCell (p:=⟨g,q+k,none⟩) (by show w.heap.size≤g;omega) (.int .u64 (x:Nat))
 have c0:=A.c0;have c1:=A.c1;have c2:=A.c2
 have y0:=h.c0;have y1:=h.c1;have y2:=h.c2
 have u0:=d.c0;have u1:=d.c1;have u2:=d.c2
 have f0:=d.free 0;have f1:=d.free 1;have f2:=d.free 2
 have H:=d.put (.int .i64 r) (.int .i64 c) (.slice (some ⟨g,0,none⟩) n l)
 have z0:=H.c0;have z1:=H.c1;have z2:=H.c2
 obtain⟨am,d',N,Z⟩:=L.bits
 have HN:=aa (L.newB.least (H':=w.heap.size) (by omega))
 rw[List.length_set,K]at N
 simp only[Value.slice.injEq]at N
 obtain⟨rfl,_,rfl⟩:=N
 have Q:=aa (ab.putM Z d (.int .i64 r) (.int .i64 c) (.slice (some ⟨g,0,none⟩) n l))
 have BP:=aa (al y (b:=w.heap.size+1) (by omega) (.int .i64 r) (.int .i64 c) (.slice (some ⟨g,0,none⟩) n l))
 have aj:(q:Int)+(k:Int)<(n:Int):=by omega
 have HL:=aa K
 generalize S.getD (q+k) 0=av at*
 clear m O T z A X h d y H L Z D K hg
 go_enter Tryz.func45,Tryz.ntmps45
 go_wp2_with(at_builtin;refine aX _ rfl _ _ 22 rfl _ _ _ _ rfl rfl (uH t) ?_;clear t)
 exact bodyPost_ret (v:=.agg #[.int .i64 r,.int .i64 c,.slice (some ⟨g,0,none⟩) n l]) (by simp[results,Tryz.results45,go_sem,z0,z1,z2]) rfl ⟨_,rfl,⟨some ⟨g,0,none⟩,l,by rw[List.length_set,uH HL],uH HN,uH Q⟩,uH BP⟩
theorem iJ{P:Program}(w:World){m:Array Oper}{o:Oper}{a:Act}{K:Act→World→Prop}{Q:Exit→Act→World→Prop}{E:Prop}(z:o.guard=none)(s x:Operand)(t:TypeId)
  (G:o.op=.call {callee:=.builtin .append,args:=#[s,x],argTypes:=#[t,t]}) (A D:Value) (n:Nat) (F:Option Addr→Nat→World→Prop) (H:a.eval s=A) (I:a.eval x=D)
  (L:∃d f l,(Builtin.append_ #[t,t] o.type #[A,D]).run P w=.ok (.slice d n f) l∧F d f l) (h:∀d f l,F d f l→K (a.put o.dst (.slice d n f)) l):
  if Region.wanted o (yielded m a.tmps)=true then Oper.wp P o a w K Q else E:=by
 have M:Region.wanted o (yielded m a.tmps)=true:=by simp[Region.wanted,z]
 rw[if_pos M]
 obtain⟨d,f,l,y,hF⟩:=L
 unfold Oper.wp execOp
 simp only[G,resolve,invoke,builtin,Sem.run_bind,Sem.run_pure,Result.andThen_ok,List.map_toArray,List.map_cons,List.map_nil,H,I,y]
 exact h d f l hF
theorem rH(w:World)(l:TypeId)(d:Option Addr)(n f c:Nat)(h:n≤f):
  (Builtin.append_ #[22,22] l #[.slice d n f,.slice none 0 c]).run Tryz.prog w=.ok (.slice d n f) w:=by
 cases d
 all_goals
  simp[Builtin.append_,go_sem]
  omega
theorem rI(w:World)(d:Nat)(G:TypeId)(v:Value)(S:List Nat)(H:Option Addr)(c:Nat)(T:List Nat)(D:bK d w v S)(h:ab w H c (ar T))(hl:S.length+T.length≤1000000)(f:d≤w.heap.size):
  ∃l m A,(Builtin.append_ #[22,22] G #[v,.slice H T.length c]).run Tryz.prog w=.ok (.slice l (S.length+T.length) m) A∧bK d A (.slice l (S.length+T.length) m) (S++T)∧w.grownBy A v.ownBlock:=by
 obtain⟨V,X,K,L,M⟩:=info_parts gO
 cases H with
 |none=>
  have e:T= []:=by
   rcases h.2.2 with e|⟨b,y,e,_⟩
   ·cases T with
    |nil=>rfl
    |cons x T=>cases e
   ·cases e
  subst e
  obtain⟨l,m,rfl,Y⟩:=D.bits
  refine⟨l,m,w,rH w G l S.length m c (by have:=Y.1;simpa using this),by simpa using D,?_⟩
  exact⟨rfl,rfl,rfl,Nat.le_refl _,fun k _ _=>rfl⟩
 |some a=>
  have t:∀j u,(T.map fY)[j]? =some u→w.cell? (a.add j)=some u:=by
   intro j u z
   rw[List.getElem?_map]at z
   have O:j<T.length:=by
    rcases Nat.lt_or_ge j T.length with e|e
    ·exact e
    ·rw[List.getElem?_eq_none e]at z;cases z
   obtain⟨b,y,F,Q,N⟩:=h.ne (by rw[aq];omega)
   cases F
   rw[show(⟨b,y,none⟩:Addr).add j=⟨b,y+j,none⟩ by simp[Addr.add],N j (by rw[aq];exact O),fc]
   rw[←z]
   simp[O,fY,List.getD_eq_getElem?_getD]
  obtain⟨Z,A,F,Q,N,e4,e5⟩:=run_append_own_at (P:=Tryz.prog) w d 22 G 30 V (.int .u64 0) 1 8 Tryz.underlying22 X K L M rfl (by decide) v S.length (S.map fY) D.1 a T.length c (T.map fY) (by simp) t (fun u z=>by
   obtain⟨x,_,rfl⟩:=List.mem_map.1 z
   rfl) (by unfold maxLen;omega) (by omega) f
  have I:bK d A Z (S++T):=⟨by
   rw[List.length_append]
   simpa using Q,fun x U=>by
    rcases List.mem_append.1 U with g|g
    ·exact D.2 x g
    ·exact h.nat x g⟩
  obtain⟨l,m,rfl,_⟩:=I.bits
  rw[List.length_append]at F I
  exact⟨l,m,A,F,I,N⟩
theorem gQ(r c d i k x:Nat)(f:Option Addr)(S:List Nat)(w:World)(h:Mx w f d r c S)(L:i<r)(M:k<c)(N:x<18446744073709551616):
  Calls Tryz.prog 45 #[.agg #[.int .i64 r,.int .i64 c,.slice f S.length d],.int .i64 i,.int .i64 k,.int .u64 x] w fun e G=>∃v,e=.returned v∧az w.heap.size G r c (S.set (i*c+k) x) v∧Below w.heap.size w G:=by
 have H:i*c+k<S.length:=by rw[h.2.1];exact cY L M
 have D:=h.small
 have I:=ac w (.cells #[.int .i64 r,.int .i64 c,.slice f S.length d] 24)
 have y:=ai w (.cells #[.int .i64 r,.int .i64 c,.slice f S.length d] 24)
 have O:=ac (w.alloc (.cells #[.int .i64 r,.int .i64 c,.slice f S.length d] 24)) (.cells #[.int .i64 0,.int .i64 0,.slice none 0 0] 24)
 have z:=ai (w.alloc (.cells #[.int .i64 r,.int .i64 c,.slice f S.length d] 24)) (.cells #[.int .i64 0,.int .i64 0,.slice none 0 0] 24)
 have Q:=I.trans (O.mono I.size)
 have K:=ac ((w.alloc (.cells #[.int .i64 r,.int .i64 c,.slice f S.length d] 24)).alloc (.cells #[.int .i64 0,.int .i64 0,.slice none 0 0] 24)) (.cells #[] 30)
 have T:=bK.nil ((w.alloc (.cells #[.int .i64 r,.int .i64 c,.slice f S.length d] 24)).alloc (.cells #[.int .i64 0,.int .i64 0,.slice none 0 0] 24)) (w.heap.size+1+1) (by rw[z,y];omega)
 have l:=(h.1.below Q).below K
 obtain⟨U,V,X,m,t,Y⟩:=wK _ (w.heap.size+1+1) 22 f d (ar S) _ l (by rw[aq];omega) T.1 (by simp)
 rw[zR,aq]at*
 have F:=(K.mono (Nat.le_of_eq (by rw[z,y]))).grown Y (by simp) (fun g A=>by cases A;rw[z,y];exact Nat.le_refl _)
 rw[z,y]at m
 obtain⟨g,A,_⟩:=t.at H
 exact Ab r c S.length d i k (i*c) x g f U V S w X rfl (bJ i c) H D N m t F A
theorem kI(r c:Int)(l m:Option Addr)(f d:Nat)(S:List Nat)(w:World)(h:ab w l f (ar S))(A:ab w m d (ar S))(H:S.length≤1000000):
  Calls Tryz.prog 9 #[.agg #[.int .i64 r,.int .i64 c,.slice l S.length f],.agg #[.int .i64 r,.int .i64 c,.slice m S.length d]] w fun e G=>e=.returned (.bool true)∧Below w.heap.size w G:=by
 have y:=ac w (.cells #[.int .i64 r,.int .i64 c,.slice l S.length f] 24)
 have D:=ac (w.alloc (.cells #[.int .i64 r,.int .i64 c,.slice l S.length f] 24)) (.cells #[.int .i64 r,.int .i64 c,.slice m S.length d] 24)
 have t:=y.trans (D.mono y.size)
 have K:=aa (zQ l m f d (ar S) _ (h.below t) (A.below t) (by rw[aq];omega))
 rw[aq]at K
 have F:=aa t
 clear y D t h A
 generalize S.length=n at*
 go_enter Tryz.func9,Tryz.ntmps9
 go_wp2_with fail
 refine Calls.mono (uH K) ?_
 rintro e I ⟨rfl,z⟩
 clear K
 go_wp2
 go_ret
 exact⟨rfl,(uH F).trans (z.mono (uH F).size)⟩
end Go.Proofs.YtenpggicmfhhdaaGreatDoor
