/- Part 31 of the texts. -/
import Derived.Test.YtenpggicmfhhdaaGreatDoorParte30
set_option maxHeartbeats 4000000
set_option maxRecDepth 20000
namespace Go.Proofs.YtenpggicmfhhdaaGreatDoor
open Go.RowKit
def dK(T:Nat)(w:World)(b:Nat)(x y z:Value):Prop:=w.heap[b]? =some (.cells #[x,y,z] T (0,0))
theorem dK.c0{T:Nat}{w:World}{b:Nat}{x y z:Value}(h:dK T w b x y z):w.cell? ⟨b,0,none⟩=some x:=by rw[cell_of_row w b 0 _ _ _ h];rfl
theorem dK.c1{T:Nat}{w:World}{b:Nat}{x y z:Value}(h:dK T w b x y z):w.cell? ⟨b,1,none⟩=some y:=by rw[cell_of_row w b 1 _ _ _ h];rfl
theorem dK.c2{T:Nat}{w:World}{b:Nat}{x y z:Value}(h:dK T w b x y z):w.cell? ⟨b,2,none⟩=some z:=by rw[cell_of_row w b 2 _ _ _ h];rfl
theorem dK.free{T:Nat}{w:World}{b:Nat}{x y z:Value}(h:dK T w b x y z)(j:Nat):w.frozen? ⟨b,j,none⟩=false:=frozen_of_row w b j _ _ h
theorem dK.lt{T:Nat}{w:World}{b:Nat}{x y z:Value}(h:dK T w b x y z):b<w.heap.size:=(Array.getElem?_eq_some_iff.1 h).1
theorem dK.below{T:Nat}{w f:World}{b:Nat}{x y z:Value}(h:dK T w b x y z){B:Nat}(l:Below B w f)(d:b<B):dK T f b x y z:=(l.block b d).trans h
theorem dK.new(T:Nat)(w:World)(x y z:Value):dK T (w.alloc (.cells #[x,y,z] T)) w.heap.size x y z:=heap_alloc_new w _
theorem dK.all{T:Nat}{w d:World}{b:Nat}{x y z:Value}(h:dK T w b x y z)(f:Below w.heap.size w d):dK T d b x y z:=h.below f h.lt
theorem dK.other{T:Nat}{w:World}{b:Nat}{x y z:Value}(h:dK T w b x y z){p:Addr}(d:b≠p.block)(u:Value):dK T (w.setCell p u) b x y z:=(Below.heap_setCell w p u b d).trans h
theorem dK.put{T:Nat}{w:World}{b:Nat}{x y z:Value}(h:dK T w b x y z)(u u' u'':Value):dK T (((w.setCell ⟨b,0,none⟩ u).setCell ⟨b,1,none⟩ u').setCell ⟨b,2,none⟩ u'') b u u' u'':=by
 have d:=heap_setCell_same w b 0 _ _ u h
 have f:=heap_setCell_same (w.setCell ⟨b,0,none⟩ u) b 1 _ _ u' d
 have l:=heap_setCell_same ((w.setCell ⟨b,0,none⟩ u).setCell ⟨b,1,none⟩ u') b 2 _ _ u'' f
 unfold dK
 rw[l]
 simp
attribute [local go_sem ↓] Go.wp_at_zero Go.wp_at_succ
def Fm(w:World)(g k:Nat)(R C:Nat→Int)(A:Nat→Option Addr)(N P:Nat→Nat):Prop:=
 ∀i,i<k→w.cell? ⟨g,i*3,none⟩=some (.int .i64 (R i))∧w.cell? ⟨g,i*3+1,none⟩=some (.int .i64 (C i))∧w.cell? ⟨g,i*3+2,none⟩=some (.slice (A i) (N i) (P i))
theorem zT(k g:Nat)(R C:Nat→Int)(A:Nat→Option Addr)(N P:Nat→Nat)(w:World)(hk:k≤2)(I:∀i,i<k→N i≤35184372088830)(K:Fm w g k R C A N P):
  Calls Tryz.prog 32 #[.slice (some ⟨g,0,none⟩) k k] w fun e y=>∃b,e=.returned (.bool b)∧(b=true↔∀i,i<k→jA (R i) (C i) (N i)=true)∧Below w.heap.size w y:=by
 have V:=aa K;have X:=aa I
 clear K I
 go_enter Tryz.func32,Tryz.ntmps32
 go_wp2_with fail
 go_loopw[7] (fun i wr=>∃j:Nat,j≤k∧i=.int .i64 j∧Hid (Below w.heap.size w wr)∧Hid (∀t,t<j→jA (R t) (C t) (N t)=true)) (fun i _=>k-(intOf i).toNat)
 case atStart=>exact⟨0,Nat.zero_le _,rfl,Below.refl _ _,fun t h=>by omega⟩
 case round=>
  obtain⟨j,hj,rfl,l,Q⟩:=hrel
  by_cases f:j<k
  ·have Y:(j:Int)<(k:Int):=by omega
   obtain⟨H,T,U⟩:=uH V j f
   have L:=uH X j f
   have M:=aa (fun y=>ey (R j) (C j) (A j) (N j) (P j) y L)
   have d:=World.block_lt_of_cell? w _ H
   have z:=aa (l.out.mono (Nat.le_refl _))
   have Z:wr.cell? ⟨g,j*3,none⟩=some (.int .i64 (R j)):=by rw[l.out.cell (p:=⟨g,j*3,none⟩) d];exact H
   have d1:wr.cell? ⟨g,j*3+1,none⟩=some (.int .i64 (C j)):=by rw[l.out.cell (p:=⟨g,j*3+1,none⟩) d];exact T
   have d2:wr.cell? ⟨g,j*3+2,none⟩=some (.slice (A j) (N j) (P j)):=by rw[l.out.cell (p:=⟨g,j*3+2,none⟩) d];exact U
   have D:=aa ((uH z).alloc (uH z).size (.cells #[.int .i64 (R j),.int .i64 (C j),.slice (A j) (N j) (P j)] 24))
   clear H T U L l z d
   go_wp2_with fail
   refine(uH M _).mono ?_
   rintro e w2 ⟨rfl,m⟩
   have O:Hid (Below w.heap.size w w2):=(uH D).trans (m.mono (uH D).size)
   clear M m Z d1 d2 D
   cases ho:jA (R j) (C j) (N j)
   ·have F:=aa ho
    clear ho
    rw[if_neg (by decide)]
    go_wp2
    go_ret
    refine⟨false,rfl,⟨(fun h=>nomatch h),fun h=>?_⟩,uH O⟩
    have:=h j f
    rw[uH F]at this
    cases this
   ·have F:=aa ho
    clear ho
    rw[if_pos rfl]
    go_wp2
    go_round
    case rel=>
     refine⟨j+1,by omega,by go_num,O,aa fun t ht=>?_⟩
     by_cases e:t=j
     ·subst e;exact uH F
     ·exact Q.out t (by omega)
    case measure=>simp[intOf];omega
  ·have G:j=k:=by omega
   subst G
   go_wp2
   go_ret
   exact⟨true,rfl,⟨fun _=>Q.out,fun _=>rfl⟩,l.out⟩
theorem ic(r c:Int)(f:Option Addr)(n d:Nat)(w:World)(t:n≤35184372088830):
  Calls Tryz.prog 32 #[.slice (some ⟨w.heap.size,0,none⟩) 1 1] (w.alloc (.cells #[.int .i64 r,.int .i64 c,.slice f n d] 24)) fun e l=>e=.returned (.bool (jA r c n))∧Below w.heap.size w l:=by
 have X:=au.new w (.int .i64 r) (.int .i64 c) (.slice f n d)
 have B:=ac w (.cells #[.int .i64 r,.int .i64 c,.slice f n d] 24)
 refine(zT 1 w.heap.size (fun _=>r) (fun _=>c) (fun _=>f) (fun _=>n) (fun _=>d) _ (by omega) (fun _ _=>t) ?_).mono ?_
 ·intro i z
  obtain rfl:i=0:=by omega
  exact⟨X.c0,X.c1,X.c2⟩
 ·rintro e l ⟨b,rfl,m,y⟩
  refine⟨?_,B.trans (y.mono B.size)⟩
  have:b=jA r c n:=by
   cases h:jA r c n
   ·cases b
    ·rfl
    ·have:=m.1 rfl 0 (by omega);rw[h]at this;cases this
   ·exact m.2 (fun _ _=>h)
  rw[this]
theorem rG(f p e:Int)(w:World)(m:-9223372036854775808≤f∧f≤9223372036854775807)(t:0≤e∧e≤6):
  Calls Tryz.prog 68 #[.int .i64 f,.int .i64 p,.int .i64 e] w fun x h=>x=.returned (.bool (decide (0≤f∧0≤p∧p≤e-f)))∧w=h:=by
 rcases(show f<0∨(0≤f∧p<0)∨(0≤f∧0≤p) by omega)with d|⟨d,l⟩|⟨d,l⟩
 ·rw[decide_eq_false (by omega)]
  go_enter Tryz.func68,Tryz.ntmps68
  go_wp2
  go_ret
  exact⟨rfl,rfl⟩
 ·rw[decide_eq_false (by omega)]
  go_enter Tryz.func68,Tryz.ntmps68
  go_wp2
  go_ret
  exact⟨rfl,rfl⟩
 ·rw[show decide (0≤f∧0≤p∧p≤e-f)=decide (p≤e-f)from decide_eq_decide.2 (by omega)]
  go_enter Tryz.func68,Tryz.ntmps68
  go_wp2
  go_ret
  exact⟨rfl,rfl⟩
theorem tG(r c n d i k x m:Nat)(t:Option Addr)(w:World)(f:au w m (.int .i64 r) (.int .i64 c) (.slice t n d))
  (C:Calls Tryz.prog 48 #[.agg #[.int .i64 r,.int .i64 c,.slice t n d],.int .i64 k,.int .i64 i] w fun e h=>e=.returned (.int .u64 (x:Nat))∧Below w.heap.size w h):
  Calls Tryz.prog 47 #[.int .i64 i,.int .i64 k,.pointer (some ⟨m,0,none⟩)] w fun e h=>e=.returned (.int .u64 (x:Nat))∧Below w.heap.size w h:=by
 have K:=aa C
 have y:=f.c0;have z:=f.c1;have p2:=f.c2
 clear C f
 go_enter Tryz.func47,Tryz.ntmps47
 go_wp2_with fail
 refine Calls.mono (uH K) ?_
 rintro e A ⟨rfl,l⟩
 clear K
 go_wp2
 go_ret
 exact⟨rfl,l⟩
theorem wL(d:Array Value)(w:World):(callFunc 47 d).run Tryz.prog w=.ok (.enter 47 d) w:=by
 simp only[callFunc,go_sem]
 rfl
theorem wM(r c n l p q:Nat)(z:Option Addr)(S:List Nat)(w:World)
  (C:Calls Tryz.prog 46 #[.int .i64 c,.int .i64 r,.func (.func 47) #[] #[.pointer (some ⟨w.heap.size,0,none⟩)]] ((w.alloc (.cells #[.int .i64 r,.int .i64 c,.slice z n l] 24)).alloc (.cells #[.int .i64 0,.int .i64 0,.slice none 0 0] 24)) fun e h=>∃v,e=.returned v∧az w.heap.size h p q S v∧Below w.heap.size w h∧au h (w.heap.size+1) (.int .i64 0) (.int .i64 0) (.slice none 0 0)):
  Calls Tryz.prog 33 #[.agg #[.int .i64 r,.int .i64 c,.slice z n l]] w fun e h=>∃v,e=.returned v∧az w.heap.size h p q S v∧Below w.heap.size w h:=by
 have K:=aa C
 clear C
 go_enter Tryz.func33,Tryz.ntmps33
 go_wp2_with fail
 refine Calls.mono (uH K) ?_
 rintro e O ⟨v,rfl,⟨m,d,rfl,F,A⟩,t,f⟩
 have G:=f.free 0;have H:=f.free 1;have I:=f.free 2
 have y:=f.put (.int .i64 p) (.int .i64 q) (.slice m S.length d)
 have D:=y.c0;have z1:=y.c1;have z2:=y.c2
 have L:=f.c0;have M:=f.c1;have N:=f.c2
 have Q:=aa (A.putM f (.int .i64 p) (.int .i64 q) (.slice m S.length d))
 have B:=aa (al t (b:=w.heap.size+1) (by omega) (.int .i64 p) (.int .i64 q) (.slice m S.length d))
 clear K y A t f
 go_wp2
 exact bodyPost_ret (v:=.agg #[.int .i64 p,.int .i64 q,.slice m S.length d]) (by simp[results,Tryz.results33,go_sem,D,z1,z2]) rfl ⟨_,rfl,⟨m,d,rfl,F,uH Q⟩,uH B⟩
theorem tH(r c d:Nat)(f:Option Addr)(S:List Nat)(w:World)(h:Mx w f d r c S):
  Calls Tryz.prog 33 #[.agg #[.int .i64 r,.int .i64 c,.slice f S.length d]] w fun e l=>∃v,e=.returned v∧az w.heap.size l c r (d8 r c S) v∧Below w.heap.size w l:=by
 refine wM r c S.length d c r f (d8 r c S) w ?_
 have A:=ac w (.cells #[.int .i64 r,.int .i64 c,.slice f S.length d] 24)
 have H:=au.new w (.int .i64 r) (.int .i64 c) (.slice f S.length d)
 have I:=ai w (.cells #[.int .i64 r,.int .i64 c,.slice f S.length d] 24)
 generalize w.alloc (.cells #[.int .i64 r,.int .i64 c,.slice f S.length d] 24)=z at*
 have D:=ac z (.cells #[.int .i64 0,.int .i64 0,.slice none 0 0] 24)
 have F:=au.new z (.int .i64 0) (.int .i64 0) (.slice none 0 0)
 have K:=H.all D
 generalize z.alloc (.cells #[.int .i64 0,.int .i64 0,.slice none 0 0] 24)=G at*
 have m:Below w.heap.size w G:=A.trans (D.mono A.size)
 rw[I]at F
 refine Calls.mono (kH 47 #[.pointer (some ⟨w.heap.size,0,none⟩)] c r (fun k i=>dJ c S i k) G wL h.2.2.2 h.2.2.1 (fun k i _ _=>h.el_lt i k) ?_) ?_
 ·intro l k i t L M
  have y:Below w.heap.size w l:=m.trans (t.mono m.size)
  exact tG r c S.length d k i _ w.heap.size f l (K.all t) (uR r c d i k f S l (h.below y) M L)
 ·rintro e l ⟨v,rfl,N,t⟩
  exact⟨v,rfl,N.least m.size,m.trans (t.mono m.size),F.all t⟩
theorem tI(w:World)(x y z:Value)(d:World)(h:Below (w.heap.size+1) (w.alloc (.cells #[x,y,z] 24)) d):
  Below w.heap.size w d∧au d w.heap.size x y z:=by
 have f:=ac w (.cells #[x,y,z] 24)
 exact⟨f.trans (h.mono (by omega)),(au.new w x y z).below h (by omega)⟩
theorem f8(w:World)(x y z f l m:Value)(d:World)(h:Below (w.heap.size+1+1) ((w.alloc (.cells #[x,y,z] 24)).alloc (.cells #[f,l,m] 24)) d):
  Below w.heap.size w d∧au d w.heap.size x y z∧au d (w.heap.size+1) f l m:=by
 have t:=ai w (.cells #[x,y,z] 24)
 have F:Below ((w.alloc (.cells #[x,y,z] 24)).heap.size+1) ((w.alloc (.cells #[x,y,z] 24)).alloc (.cells #[f,l,m] 24)) d:=by rw[t];exact h
 obtain⟨A,D⟩:=tI _ f l m d F
 rw[t]at A D
 obtain⟨G,H⟩:=tI w x y z d A
 exact⟨G,H,D⟩
theorem Fn(w:World)(x y z f l m t A z2:Value)(d:World)(h:Below (w.heap.size+1+1+1) (((w.alloc (.cells #[x,y,z] 24)).alloc (.cells #[f,l,m] 24)).alloc (.cells #[t,A,z2] 24)) d):
  Below w.heap.size w d∧au d w.heap.size x y z∧au d (w.heap.size+1) f l m∧au d (w.heap.size+1+1) t A z2:=by
 have D:=ai w (.cells #[x,y,z] 24)
 have I:Below ((w.alloc (.cells #[x,y,z] 24)).heap.size+1+1) (((w.alloc (.cells #[x,y,z] 24)).alloc (.cells #[f,l,m] 24)).alloc (.cells #[t,A,z2] 24)) d:=by rw[D];exact h
 obtain⟨F,G,H⟩:=f8 _ f l m t A z2 d I
 rw[D]at F G H
 obtain⟨K,L⟩:=tI w x y z d F
 exact⟨K,L,G,H⟩
theorem zU(r c:Int)(m:Option Addr)(n d:Nat)(w:World)(D:n≤35184372088830)(h:jA r c n=false):
  Calls Tryz.prog 24 #[.agg #[.int .i64 r,.int .i64 c,.slice m n d]] w fun e y=>∃v,e=.returned (.tuple #[v,.int .i64 1])∧az w.heap.size y 0 0 [] v∧Below w.heap.size w y:=by
 have K:=aa (ic r c m n d ((w.alloc (.cells #[.int .i64 r,.int .i64 c,.slice m n d] 24)).alloc (.cells #[.int .i64 0,.int .i64 0,.slice none 0 0] 24)) D)
 rw[h]at K
 simp only[ai]at K
 have z:=aa (f8 w (.int .i64 r) (.int .i64 c) (.slice m n d) (.int .i64 0) (.int .i64 0) (.slice none 0 0))
 clear h
 go_enter Tryz.func24,Tryz.ntmps24
 go_wp2_with fail
 refine Calls.mono (uH K) ?_
 rintro e I ⟨rfl,l⟩
 obtain⟨A,H,f⟩:=uH z I l
 clear K z l H
 have L:=f.free 0;have M:=f.free 1;have N:=f.free 2
 have O:=f.c0;have Q:=f.c1;have T:=f.c2
 have t:=f.put (.int .i64 0) (.int .i64 0) (.slice none 0 0)
 have F:=t.c0;have z1:=t.c1;have z2:=t.c2
 have G:=aa (al A (b:=w.heap.size+1) (by omega) (.int .i64 0) (.int .i64 0) (.slice none 0 0))
 clear t f A
 go_wp2
 exact bodyPost_ret (v:=.tuple #[.agg #[.int .i64 0,.int .i64 0,.slice none 0 0],.int .i64 1]) (by simp[results,Tryz.results24,go_sem,F,z1,z2]) rfl ⟨_,rfl,az.zero _ _,uH G⟩
theorem zV(r c:Int)(z:Option Addr)(n m x y:Nat)(S:List Nat)(w:World)(V:n≤35184372088830)(h:jA r c n=true)
  (C:∀l,Below w.heap.size w l→Calls Tryz.prog 33 #[.agg #[.int .i64 r,.int .i64 c,.slice z n m]] l fun e d=>∃v,e=.returned v∧az l.heap.size d x y S v∧Below l.heap.size l d):
  Calls Tryz.prog 24 #[.agg #[.int .i64 r,.int .i64 c,.slice z n m]] w fun e L=>∃v,e=.returned (.tuple #[v,.int .i64 0])∧az w.heap.size L x y S v∧Below w.heap.size w L:=by
 have K:=aa (ic r c z n m ((w.alloc (.cells #[.int .i64 r,.int .i64 c,.slice z n m] 24)).alloc (.cells #[.int .i64 0,.int .i64 0,.slice none 0 0] 24)) V)
 rw[h]at K
 simp only[ai]at K
 have M:=aa (f8 w (.int .i64 r) (.int .i64 c) (.slice z n m) (.int .i64 0) (.int .i64 0) (.slice none 0 0))
 have N:=aa (fun l (t:Below w.heap.size w l) (f:au l (w.heap.size+1) (.int .i64 0) (.int .i64 0) (.slice none 0 0))=>(C l t).mono (R':=fun e d=>∃v,e=.returned v∧az w.heap.size d x y S v∧Below w.heap.size w d∧au d (w.heap.size+1) (.int .i64 0) (.int .i64 0) (.slice none 0 0)) (by
  rintro e d ⟨v,rfl,Z,T⟩
  exact⟨v,rfl,Z.least t.size,t.trans (T.mono t.size),f.all T⟩))
 clear h C
 go_enter Tryz.func24,Tryz.ntmps24
 go_wp2_with fail
 refine Calls.mono (uH K) ?_
 rintro e l ⟨rfl,A⟩
 obtain⟨t,I,f⟩:=uH M l A
 have p0:=I.c0;have p1:=I.c1;have p2:=I.c2
 have O:=aa (uH N l t f)
 clear K M N A I f t
 go_wp2_with fail
 refine Calls.mono (uH O) ?_
 clear O
 rintro e w2 ⟨v,rfl,⟨D,F,rfl,n1,U⟩,G,f⟩
 have f0:=f.free 0;have f1:=f.free 1;have f2:=f.free 2
 have H:=f.put (.int .i64 x) (.int .i64 y) (.slice D S.length F)
 have X:=H.c0;have z1:=H.c1;have z2:=H.c2
 have s0:=f.c0;have s1:=f.c1;have s2:=f.c2
 have Q:=aa (U.putM f (.int .i64 x) (.int .i64 y) (.slice D S.length F))
 have Y:=aa (al G (b:=w.heap.size+1) (by omega) (.int .i64 x) (.int .i64 y) (.slice D S.length F))
 clear H U G f
 go_wp2
 exact bodyPost_ret (v:=.tuple #[.agg #[.int .i64 x,.int .i64 y,.slice D S.length F],.int .i64 0]) (by simp[results,Tryz.results24,go_sem,X,z1,z2]) rfl ⟨_,rfl,⟨D,F,rfl,n1,uH Q⟩,uH Y⟩
theorem zW(i k:Nat)(w:World):
  Calls Tryz.prog 78 #[.int .i64 i,.int .i64 k] w fun e d=>e=.returned (.int .u64 ((if k=i then 4607182418800017408 else 0:Nat):Int))∧Below w.heap.size w d:=by
 by_cases h:k=i
 ·rw[if_pos h]
  subst h
  go_enter Tryz.func78,Tryz.ntmps78
  go_wp2
  go_ret
  exact⟨rfl,Below.refl _ _⟩
 ·rw[if_neg h]
  have f:decide ((i:Int)=(k:Int))=false:=decide_eq_false (by omega)
  go_enter Tryz.func78,Tryz.ntmps78
  go_wp2
  go_ret
  exact⟨rfl,Below.refl _ _⟩
theorem zX(r c n d i k a b x m t bk:Nat)(y:Option Addr)(w:World)(z:a+i≤6)(A:b+k≤6)(f:au w m (.int .i64 r) (.int .i64 c) (.slice y n d))(D:w.cell? ⟨t,0,none⟩=some (.int .i64 (a:Nat)))(F:w.cell? ⟨bk,0,none⟩=some (.int .i64 (b:Nat)))
  (C:Calls Tryz.prog 48 #[.agg #[.int .i64 r,.int .i64 c,.slice y n d],.int .i64 ((a:Int)+(i:Int)),.int .i64 ((b:Int)+(k:Int))] w fun e h=>e=.returned (.int .u64 (x:Nat))∧Below w.heap.size w h):
  Calls Tryz.prog 69 #[.int .i64 i,.int .i64 k,.pointer (some ⟨m,0,none⟩),.pointer (some ⟨t,0,none⟩),.pointer (some ⟨bk,0,none⟩)] w fun e h=>e=.returned (.int .u64 (x:Nat))∧Below w.heap.size w h:=by
 have K:=aa C
 have G:=f.c0;have H:=f.c1;have p2:=f.c2
 clear C f
 go_enter Tryz.func69,Tryz.ntmps69
 go_wp2_with fail
 refine Calls.mono (uH K) ?_
 rintro e I ⟨rfl,l⟩
 clear K
 go_wp2
 go_ret
 exact⟨rfl,l⟩
end Go.Proofs.YtenpggicmfhhdaaGreatDoor
