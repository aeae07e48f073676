/- Part 31 of the texts. -/
import Derived.Test.YtlnphkioddknfaaGreatDoorParty30
set_option maxHeartbeats 4000000
set_option maxRecDepth 20000
namespace Go.Proofs.YtlnphkioddknfaaGreatDoor
open Go.RowKit
def eh(T:Nat)(w:World)(b:Nat)(x y z:Value):Prop:=w.heap[b]? =some (.cells #[x,y,z] T (0,0))
theorem eh.c0{T:Nat}{w:World}{b:Nat}{x y z:Value}(h:eh T w b x y z):w.cell? ⟨b,0,none⟩=some x:=by rw[cell_of_row w b 0 _ _ _ h];rfl
theorem eh.c1{T:Nat}{w:World}{b:Nat}{x y z:Value}(h:eh T w b x y z):w.cell? ⟨b,1,none⟩=some y:=by rw[cell_of_row w b 1 _ _ _ h];rfl
theorem eh.c2{T:Nat}{w:World}{b:Nat}{x y z:Value}(h:eh T w b x y z):w.cell? ⟨b,2,none⟩=some z:=by rw[cell_of_row w b 2 _ _ _ h];rfl
theorem eh.free{T:Nat}{w:World}{b:Nat}{x y z:Value}(h:eh T w b x y z)(j:Nat):w.frozen? ⟨b,j,none⟩=false:=frozen_of_row w b j _ _ h
theorem eh.lt{T:Nat}{w:World}{b:Nat}{x y z:Value}(h:eh T w b x y z):b<w.heap.size:=(Array.getElem?_eq_some_iff.1 h).1
theorem eh.below{T:Nat}{w f:World}{b:Nat}{x y z:Value}(h:eh T w b x y z){B:Nat}(l:Below B w f)(d:b<B):eh T f b x y z:=(l.block b d).trans h
theorem eh.new(T:Nat)(w:World)(x y z:Value):eh T (w.alloc (.cells #[x,y,z] T)) w.heap.size x y z:=heap_alloc_new w _
theorem eh.all{T:Nat}{w d:World}{b:Nat}{x y z:Value}(h:eh T w b x y z)(f:Below w.heap.size w d):eh T d b x y z:=h.below f h.lt
theorem eh.other{T:Nat}{w:World}{b:Nat}{x y z:Value}(h:eh T w b x y z){p:Addr}(d:b≠p.block)(u:Value):eh T (w.setCell p u) b x y z:=(Below.heap_setCell w p u b d).trans h
theorem eh.put{T:Nat}{w:World}{b:Nat}{x y z:Value}(h:eh T w b x y z)(u u' u'':Value):eh T (((w.setCell ⟨b,0,none⟩ u).setCell ⟨b,1,none⟩ u').setCell ⟨b,2,none⟩ u'') b u u' u'':=by
 have d:=heap_setCell_same w b 0 _ _ u h
 have f:=heap_setCell_same (w.setCell ⟨b,0,none⟩ u) b 1 _ _ u' d
 have l:=heap_setCell_same ((w.setCell ⟨b,0,none⟩ u).setCell ⟨b,1,none⟩ u') b 2 _ _ u'' f
 unfold eh
 rw[l]
 simp
attribute [local go_sem ↓] Go.wp_at_zero Go.wp_at_succ
def Im(w:World)(g k:Nat)(R C:Nat→Int)(A:Nat→Option Addr)(N P:Nat→Nat):Prop:=
 ∀i,i<k→w.cell? ⟨g,i*3,none⟩=some (.int .i64 (R i))∧w.cell? ⟨g,i*3+1,none⟩=some (.int .i64 (C i))∧w.cell? ⟨g,i*3+2,none⟩=some (.slice (A i) (N i) (P i))
theorem tw(k g:Nat)(R C:Nat→Int)(A:Nat→Option Addr)(N P:Nat→Nat)(w:World)(hk:k≤2)(I:∀i,i<k→N i≤35184372088830)(K:Im w g k R C A N P):
  Calls Tryz.prog 176 #[.slice (some ⟨g,0,none⟩) k k] w fun e y=>∃b,e=.returned (.bool b)∧(b=true↔∀i,i<k→i9 (R i) (C i) (N i)=true)∧Below w.heap.size w y:=by
 have X:=aa K;have Y:=aa I
 clear K I
 go_enter Tryz.func176,Tryz.ntmps176
 go_wp2_with fail
 go_loopw[7] (fun i wr=>∃j:Nat,j≤k∧i=.int .i64 j∧Hid (Below w.heap.size w wr)∧Hid (∀t,t<j→i9 (R t) (C t) (N t)=true)) (fun i _=>k-(intOf i).toNat)
 case atStart=>exact⟨0,Nat.zero_le _,rfl,Below.refl _ _,fun t h=>by omega⟩
 case round=>
  obtain⟨j,hj,rfl,l,Q⟩:=hrel
  by_cases f:j<k
  ·have Z:(j:Int)<(k:Int):=by omega
   obtain⟨H,U,V⟩:=uH X j f
   have L:=uH Y j f
   have M:=aa (fun y=>kh (R j) (C j) (A j) (N j) (P j) y L)
   have d:=World.block_lt_of_cell? w _ H
   have z:=aa (l.out.mono (Nat.le_refl _))
   have d0:wr.cell? ⟨g,j*3,none⟩=some (.int .i64 (R j)):=by rw[l.out.cell (p:=⟨g,j*3,none⟩) d];exact H
   have d1:wr.cell? ⟨g,j*3+1,none⟩=some (.int .i64 (C j)):=by rw[l.out.cell (p:=⟨g,j*3+1,none⟩) d];exact U
   have d2:wr.cell? ⟨g,j*3+2,none⟩=some (.slice (A j) (N j) (P j)):=by rw[l.out.cell (p:=⟨g,j*3+2,none⟩) d];exact V
   have D:=aa ((uH z).alloc (uH z).size (.cells #[.int .i64 (R j),.int .i64 (C j),.slice (A j) (N j) (P j)] 24))
   clear H U V L l z d
   go_wp2_with fail
   refine(uH M _).mono ?_
   rintro e w2 ⟨rfl,m⟩
   have O:Hid (Below w.heap.size w w2):=(uH D).trans (m.mono (uH D).size)
   clear M m d0 d1 d2 D
   cases ho:i9 (R j) (C j) (N j)
   ·have F:=aa ho
    clear ho
    rw[if_neg (by decide)]
    go_wp2
    go_ret
    refine⟨false,rfl,⟨(fun h=>nomatch h),fun h=>?_⟩,uH O⟩
    have:=h j f
    rw[uH F]at this
    cases this
   ·have F:=aa ho
    clear ho
    rw[if_pos rfl]
    go_wp2
    go_round
    case rel=>
     refine⟨j+1,by omega,by go_num,O,aa fun t ht=>?_⟩
     by_cases e:t=j
     ·subst e;exact uH F
     ·exact Q.out t (by omega)
    case measure=>simp[intOf];omega
  ·have G:j=k:=by omega
   subst G
   go_wp2
   go_ret
   exact⟨true,rfl,⟨fun _=>Q.out,fun _=>rfl⟩,l.out⟩
theorem iT(r c:Int)(ao:Option Addr)(n cap:Nat)(w:World)(l:n≤35184372088830):
  Calls Tryz.prog 176 #[.slice (some ⟨w.heap.size,0,none⟩) 1 1] (w.alloc (.cells #[.int .i64 r,.int .i64 c,.slice ao n cap] 24)) fun e d=>e=.returned (.bool (i9 r c n))∧Below w.heap.size w d:=by
 have X:=aq.new w (.int .i64 r) (.int .i64 c) (.slice ao n cap)
 have B:=ab w (.cells #[.int .i64 r,.int .i64 c,.slice ao n cap] 24)
 refine(tw 1 w.heap.size (fun _=>r) (fun _=>c) (fun _=>ao) (fun _=>n) (fun _=>cap) _ (by omega) (fun _ _=>l) ?_).mono ?_
 ·intro i t
  obtain rfl:i=0:=by omega
  exact⟨X.c0,X.c1,X.c2⟩
 ·rintro e d ⟨b,rfl,f,m⟩
  refine⟨?_,B.trans (m.mono B.size)⟩
  have:b=i9 r c n:=by
   cases h:i9 r c n
   ·cases b
    ·rfl
    ·have:=f.1 rfl 0 (by omega);rw[h]at this;cases this
   ·exact f.2 (fun _ _=>h)
  rw[this]
theorem vC(r c:Int)(ao:Option Addr)(n cap:Nat)(p q:Int)(f:Option Addr)(m d:Nat)(w:World)(G:n≤35184372088830)(H:m≤35184372088830):
  Calls Tryz.prog 176 #[.slice (some ⟨w.heap.size,0,none⟩) 2 2] (w.alloc (.cells #[.int .i64 r,.int .i64 c,.slice ao n cap,.int .i64 p,.int .i64 q,.slice f m d] 24)) fun e t=>e=.returned (.bool (i9 r c n&&i9 p q m))∧Below w.heap.size w t:=by
 have X:(w.alloc (.cells #[.int .i64 r,.int .i64 c,.slice ao n cap,.int .i64 p,.int .i64 q,.slice f m d] 24)).heap[w.heap.size]? =some (.cells #[.int .i64 r,.int .i64 c,.slice ao n cap,.int .i64 p,.int .i64 q,.slice f m d] 24 (0,0)):=heap_alloc_new w _
 have B:=ab w (.cells #[.int .i64 r,.int .i64 c,.slice ao n cap,.int .i64 p,.int .i64 q,.slice f m d] 24)
 refine(tw 2 w.heap.size (fun i=>if i=0 then r else p) (fun i=>if i=0 then c else q) (fun i=>if i=0 then ao else f) (fun i=>if i=0 then n else m) (fun i=>if i=0 then cap else d) _ (by omega) (fun i _=>by split<;>assumption) ?_).mono ?_
 ·intro i D
  rcases(show i=0∨i=1 by omega)with rfl|rfl
  ·exact⟨by rw[cell_of_row _ _ _ _ _ _ X];rfl,by rw[cell_of_row _ _ _ _ _ _ X];rfl,by rw[cell_of_row _ _ _ _ _ _ X];rfl⟩
  ·exact⟨by rw[cell_of_row _ _ _ _ _ _ X];rfl,by rw[cell_of_row _ _ _ _ _ _ X];rfl,by rw[cell_of_row _ _ _ _ _ _ X];rfl⟩
 ·rintro e t ⟨b,rfl,l,F⟩
  refine⟨?_,B.trans (F.mono B.size)⟩
  have:b=(i9 r c n&&i9 p q m):=by
   cases h:(i9 r c n&&i9 p q m)
   ·cases b
    ·rfl
    ·have y:=l.1 rfl 0 (by omega)
     have z:=l.1 rfl 1 (by omega)
     simp only[if_true,Nat.one_ne_zero,if_false]at y z
     rw[y,z]at h
     cases h
   ·have A:=Bool.and_eq_true_iff.1 h
    refine l.2 (fun i D=>?_)
    rcases(show i=0∨i=1 by omega)with rfl|rfl
    ·exact A.1
    ·exact A.2
  rw[this]
theorem tC(f p e:Int)(w:World)(m:-9223372036854775808≤f∧f≤9223372036854775807)(t:0≤e∧e≤6):
  Calls Tryz.prog 177 #[.int .i64 f,.int .i64 p,.int .i64 e] w fun x h=>x=.returned (.bool (decide (0≤f∧0≤p∧p≤e-f)))∧w=h:=by
 rcases(show f<0∨(0≤f∧p<0)∨(0≤f∧0≤p) by omega)with d|⟨d,l⟩|⟨d,l⟩
 ·rw[decide_eq_false (by omega)]
  go_enter Tryz.func177,Tryz.ntmps177
  go_wp2
  go_ret
  exact⟨rfl,rfl⟩
 ·rw[decide_eq_false (by omega)]
  go_enter Tryz.func177,Tryz.ntmps177
  go_wp2
  go_ret
  exact⟨rfl,rfl⟩
 ·rw[show decide (0≤f∧0≤p∧p≤e-f)=decide (p≤e-f)from decide_eq_decide.2 (by omega)]
  go_enter Tryz.func177,Tryz.ntmps177
  go_wp2
  go_ret
  exact⟨rfl,rfl⟩
theorem vD(r c n cap i k x l:Nat)(ao:Option Addr)(w:World)(d:aq w l (.int .i64 r) (.int .i64 c) (.slice ao n cap))
  (C:Calls Tryz.prog 180 #[.agg #[.int .i64 r,.int .i64 c,.slice ao n cap],.int .i64 k,.int .i64 i] w fun e f=>e=.returned (.int .u64 (x:Nat))∧Below w.heap.size w f):
  Calls Tryz.prog 214 #[.int .i64 i,.int .i64 k,.pointer (some ⟨l,0,none⟩)] w fun e f=>e=.returned (.int .u64 (x:Nat))∧Below w.heap.size w f:=by
 have K:=aa C
 have m:=d.c0;have t:=d.c1;have p2:=d.c2
 clear C d
 go_enter Tryz.func214,Tryz.ntmps214
 go_wp2_with fail
 refine Calls.mono (uH K) ?_
 rintro e y ⟨rfl,h⟩
 clear K
 go_wp2
 go_ret
 exact⟨rfl,h⟩
theorem yX(d:Array Value)(w:World):(callFunc 214 d).run Tryz.prog w=.ok (.enter 214 d) w:=by
 simp only[callFunc,go_sem]
 rfl
theorem yY(r c n cap p q:Nat)(ao:Option Addr)(S:List Nat)(w:World)
  (C:Calls Tryz.prog 178 #[.int .i64 c,.int .i64 r,.func (.func 214) #[] #[.pointer (some ⟨w.heap.size,0,none⟩)]] ((w.alloc (.cells #[.int .i64 r,.int .i64 c,.slice ao n cap] 24)).alloc (.cells #[.int .i64 0,.int .i64 0,.slice none 0 0] 24)) fun e h=>∃v,e=.returned v∧aS w.heap.size h p q S v∧Below w.heap.size w h∧aq h (w.heap.size+1) (.int .i64 0) (.int .i64 0) (.slice none 0 0)):
  Calls Tryz.prog 181 #[.agg #[.int .i64 r,.int .i64 c,.slice ao n cap]] w fun e h=>∃v,e=.returned v∧aS w.heap.size h p q S v∧Below w.heap.size w h:=by
 have K:=aa C
 clear C
 go_enter Tryz.func181,Tryz.ntmps181
 go_wp2_with fail
 refine Calls.mono (uH K) ?_
 rintro e M ⟨v,rfl,⟨l,d,rfl,A,y⟩,m,f⟩
 have D:=f.free 0;have F:=f.free 1;have G:=f.free 2
 have t:=f.put (.int .i64 p) (.int .i64 q) (.slice l S.length d)
 have z:=t.c0;have z1:=t.c1;have z2:=t.c2
 have H:=f.c0;have I:=f.c1;have L:=f.c2
 have Q:=aa (y.putM f (.int .i64 p) (.int .i64 q) (.slice l S.length d))
 have B:=aa (ai m (b:=w.heap.size+1) (by omega) (.int .i64 p) (.int .i64 q) (.slice l S.length d))
 clear K t y m f
 go_wp2
 exact bodyPost_ret (v:=.agg #[.int .i64 p,.int .i64 q,.slice l S.length d]) (by simp[results,Tryz.results181,go_sem,z,z1,z2]) rfl ⟨_,rfl,⟨l,d,rfl,A,uH Q⟩,uH B⟩
theorem oj(r c cap:Nat)(ao:Option Addr)(S:List Nat)(w:World)(h:Mx w ao cap r c S):
  Calls Tryz.prog 181 #[.agg #[.int .i64 r,.int .i64 c,.slice ao S.length cap]] w fun e d=>∃v,e=.returned v∧aS w.heap.size d c r (mH r c S) v∧Below w.heap.size w d:=by
 refine yY r c S.length cap c r ao (mH r c S) w ?_
 have y:=ab w (.cells #[.int .i64 r,.int .i64 c,.slice ao S.length cap] 24)
 have F:=aq.new w (.int .i64 r) (.int .i64 c) (.slice ao S.length cap)
 have G:=ad w (.cells #[.int .i64 r,.int .i64 c,.slice ao S.length cap] 24)
 generalize w.alloc (.cells #[.int .i64 r,.int .i64 c,.slice ao S.length cap] 24)=t at*
 have z:=ab t (.cells #[.int .i64 0,.int .i64 0,.slice none 0 0] 24)
 have A:=aq.new t (.int .i64 0) (.int .i64 0) (.slice none 0 0)
 have H:=F.all z
 generalize t.alloc (.cells #[.int .i64 0,.int .i64 0,.slice none 0 0] 24)=D at*
 have f:Below w.heap.size w D:=y.trans (z.mono y.size)
 rw[G]at A
 refine Calls.mono (jK 214 #[.pointer (some ⟨w.heap.size,0,none⟩)] c r (fun k i=>bB c S i k) D yX h.2.2.2 h.2.2.1 (fun k i _ _=>h.el_lt i k) ?_) ?_
 ·intro d k i l I K
  have m:Below w.heap.size w d:=f.trans (l.mono f.size)
  exact vD r c S.length cap k i _ w.heap.size ao d (H.all l) (xk r c cap i k ao S d (h.below m) K I)
 ·rintro e d ⟨v,rfl,L,l⟩
  exact⟨v,rfl,L.least f.size,f.trans (l.mono f.size),A.all l⟩
theorem vE(w:World)(x y z:Value)(d:World)(h:Below (w.heap.size+1) (w.alloc (.cells #[x,y,z] 24)) d):
  Below w.heap.size w d∧aq d w.heap.size x y z:=by
 have f:=ab w (.cells #[x,y,z] 24)
 exact⟨f.trans (h.mono (by omega)),(aq.new w x y z).below h (by omega)⟩
theorem dE(w:World)(x y z f l m:Value)(d:World)(h:Below (w.heap.size+1+1) ((w.alloc (.cells #[x,y,z] 24)).alloc (.cells #[f,l,m] 24)) d):
  Below w.heap.size w d∧aq d w.heap.size x y z∧aq d (w.heap.size+1) f l m:=by
 have t:=ad w (.cells #[x,y,z] 24)
 have F:Below ((w.alloc (.cells #[x,y,z] 24)).heap.size+1) ((w.alloc (.cells #[x,y,z] 24)).alloc (.cells #[f,l,m] 24)) d:=by rw[t];exact h
 obtain⟨A,D⟩:=vE _ f l m d F
 rw[t]at A D
 obtain⟨G,H⟩:=vE w x y z d A
 exact⟨G,H,D⟩
theorem qY(w:World)(x y z f l m t A z2:Value)(d:World)(h:Below (w.heap.size+1+1+1) (((w.alloc (.cells #[x,y,z] 24)).alloc (.cells #[f,l,m] 24)).alloc (.cells #[t,A,z2] 24)) d):
  Below w.heap.size w d∧aq d w.heap.size x y z∧aq d (w.heap.size+1) f l m∧aq d (w.heap.size+1+1) t A z2:=by
 have D:=ad w (.cells #[x,y,z] 24)
 have I:Below ((w.alloc (.cells #[x,y,z] 24)).heap.size+1+1) (((w.alloc (.cells #[x,y,z] 24)).alloc (.cells #[f,l,m] 24)).alloc (.cells #[t,A,z2] 24)) d:=by rw[D];exact h
 obtain⟨F,G,H⟩:=dE _ f l m t A z2 d I
 rw[D]at F G H
 obtain⟨K,L⟩:=vE w x y z d F
 exact⟨K,L,G,H⟩
theorem Jp(r c:Int)(ao:Option Addr)(n cap:Nat)(w:World)(z:n≤35184372088830)(h:i9 r c n=false):
  Calls Tryz.prog 126 #[.agg #[.int .i64 r,.int .i64 c,.slice ao n cap]] w fun e m=>∃v,e=.returned (.tuple #[v,.int .i64 1])∧aS w.heap.size m 0 0 [] v∧Below w.heap.size w m:=by
 have K:=aa (iT r c ao n cap ((w.alloc (.cells #[.int .i64 r,.int .i64 c,.slice ao n cap] 24)).alloc (.cells #[.int .i64 0,.int .i64 0,.slice none 0 0] 24)) z)
 rw[h]at K
 simp only[ad]at K
 have t:=aa (dE w (.int .i64 r) (.int .i64 c) (.slice ao n cap) (.int .i64 0) (.int .i64 0) (.slice none 0 0))
 clear h
 go_enter Tryz.func126,Tryz.ntmps126
 go_wp2_with fail
 refine Calls.mono (uH K) ?_
 rintro e G ⟨rfl,f⟩
 obtain⟨y,F,d⟩:=uH t G f
 clear K t f F
 have H:=d.free 0;have I:=d.free 1;have L:=d.free 2
 have M:=d.c0;have N:=d.c1;have O:=d.c2
 have l:=d.put (.int .i64 0) (.int .i64 0) (.slice none 0 0)
 have A:=l.c0;have z1:=l.c1;have z2:=l.c2
 have D:=aa (ai y (b:=w.heap.size+1) (by omega) (.int .i64 0) (.int .i64 0) (.slice none 0 0))
 clear l d y
 go_wp2
 exact bodyPost_ret (v:=.tuple #[.agg #[.int .i64 0,.int .i64 0,.slice none 0 0],.int .i64 1]) (by simp[results,Tryz.results126,go_sem,A,z1,z2]) rfl ⟨_,rfl,aS.zero _ _,uH D⟩
theorem Cv(r c:Int)(ao:Option Addr)(n cap x y:Nat)(S:List Nat)(w:World)(U:n≤35184372088830)(h:i9 r c n=true)
  (C:∀l,Below w.heap.size w l→Calls Tryz.prog 181 #[.agg #[.int .i64 r,.int .i64 c,.slice ao n cap]] l fun e d=>∃v,e=.returned v∧aS l.heap.size d x y S v∧Below l.heap.size l d):
  Calls Tryz.prog 126 #[.agg #[.int .i64 r,.int .i64 c,.slice ao n cap]] w fun e H=>∃v,e=.returned (.tuple #[v,.int .i64 0])∧aS w.heap.size H x y S v∧Below w.heap.size w H:=by
 have K:=aa (iT r c ao n cap ((w.alloc (.cells #[.int .i64 r,.int .i64 c,.slice ao n cap] 24)).alloc (.cells #[.int .i64 0,.int .i64 0,.slice none 0 0] 24)) U)
 rw[h]at K
 simp only[ad]at K
 have I:=aa (dE w (.int .i64 r) (.int .i64 c) (.slice ao n cap) (.int .i64 0) (.int .i64 0) (.slice none 0 0))
 have L:=aa (fun l (m:Below w.heap.size w l) (f:aq l (w.heap.size+1) (.int .i64 0) (.int .i64 0) (.slice none 0 0))=>(C l m).mono (R':=fun e d=>∃v,e=.returned v∧aS w.heap.size d x y S v∧Below w.heap.size w d∧aq d (w.heap.size+1) (.int .i64 0) (.int .i64 0) (.slice none 0 0)) (by
  rintro e d ⟨v,rfl,Y,N⟩
  exact⟨v,rfl,Y.least m.size,m.trans (N.mono m.size),f.all N⟩))
 clear h C
 go_enter Tryz.func126,Tryz.ntmps126
 go_wp2_with fail
 refine Calls.mono (uH K) ?_
 rintro e l ⟨rfl,t⟩
 obtain⟨m,G,f⟩:=uH I l t
 have p0:=G.c0;have p1:=G.c1;have p2:=G.c2
 have M:=aa (uH L l m f)
 clear K I L t G f m
 go_wp2_with fail
 refine Calls.mono (uH M) ?_
 clear M
 rintro e w2 ⟨v,rfl,⟨z,A,rfl,Z,O⟩,D,f⟩
 have f0:=f.free 0;have f1:=f.free 1;have f2:=f.free 2
 have F:=f.put (.int .i64 x) (.int .i64 y) (.slice z S.length A)
 have V:=F.c0;have z1:=F.c1;have z2:=F.c2
 have s0:=f.c0;have s1:=f.c1;have s2:=f.c2
 have Q:=aa (O.putM f (.int .i64 x) (.int .i64 y) (.slice z S.length A))
 have X:=aa (ai D (b:=w.heap.size+1) (by omega) (.int .i64 x) (.int .i64 y) (.slice z S.length A))
 clear F O D f
 go_wp2
 exact bodyPost_ret (v:=.tuple #[.agg #[.int .i64 x,.int .i64 y,.slice z S.length A],.int .i64 0]) (by simp[results,Tryz.results126,go_sem,V,z1,z2]) rfl ⟨_,rfl,⟨z,A,rfl,Z,uH Q⟩,uH X⟩
theorem vF(i k:Nat)(w:World):
  Calls Tryz.prog 199 #[.int .i64 i,.int .i64 k] w fun e d=>e=.returned (.int .u64 (0:Nat))∧Below w.heap.size w d:=by
 go_enter Tryz.func199,Tryz.ntmps199
 go_wp2
 go_ret
 exact⟨rfl,Below.refl _ _⟩
theorem Cw(i k:Nat)(w:World):
  Calls Tryz.prog 189 #[.int .i64 i,.int .i64 k] w fun e d=>e=.returned (.int .u64 ((if k=i then 4607182418800017408 else 0:Nat):Int))∧Below w.heap.size w d:=by
 by_cases h:k=i
 ·rw[if_pos h]
  subst h
  go_enter Tryz.func189,Tryz.ntmps189
  go_wp2
  go_ret
  exact⟨rfl,Below.refl _ _⟩
 ·rw[if_neg h]
  have f:decide ((i:Int)=(k:Int))=false:=decide_eq_false (by omega)
  go_enter Tryz.func189,Tryz.ntmps189
  go_wp2
  go_ret
  exact⟨rfl,Below.refl _ _⟩
theorem Cx(r c n cap i k a b x l m bk:Nat)(ao:Option Addr)(w:World)(t:a+i≤6)(y:b+k≤6)(d:aq w l (.int .i64 r) (.int .i64 c) (.slice ao n cap))(z:w.cell? ⟨m,0,none⟩=some (.int .i64 (a:Nat)))(A:w.cell? ⟨bk,0,none⟩=some (.int .i64 (b:Nat)))
  (C:Calls Tryz.prog 180 #[.agg #[.int .i64 r,.int .i64 c,.slice ao n cap],.int .i64 ((a:Int)+(i:Int)),.int .i64 ((b:Int)+(k:Int))] w fun e f=>e=.returned (.int .u64 (x:Nat))∧Below w.heap.size w f):
  Calls Tryz.prog 179 #[.int .i64 i,.int .i64 k,.pointer (some ⟨l,0,none⟩),.pointer (some ⟨m,0,none⟩),.pointer (some ⟨bk,0,none⟩)] w fun e f=>e=.returned (.int .u64 (x:Nat))∧Below w.heap.size w f:=by
 have K:=aa C
 have D:=d.c0;have F:=d.c1;have p2:=d.c2
 clear C d
 go_enter Tryz.func179,Tryz.ntmps179
 go_wp2_with fail
 refine Calls.mono (uH K) ?_
 rintro e G ⟨rfl,h⟩
 clear K
 go_wp2
 go_ret
 exact⟨rfl,h⟩
theorem FJ(r c n cap p q m d i k x z A:Nat)(ao G:Option Addr)(U V:List Int)(w:World)(I:aq w z (.int .i64 r) (.int .i64 c) (.slice ao n cap))(K:aq w A (.int .i64 p) (.int .i64 q) (.slice G m d))
  (Q:∀f,Below w.heap.size w f→Calls Tryz.prog 184 #[.agg #[.int .i64 r,.int .i64 c,.slice ao n cap],.int .i64 i] f fun e l=>∃t y,e=.returned (.slice t c y)∧ac l t y U∧Below f.heap.size f l)
  (X:∀f,Below w.heap.size w f→Calls Tryz.prog 184 #[.agg #[.int .i64 p,.int .i64 q,.slice G m d],.int .i64 k] f fun e l=>∃t y,e=.returned (.slice t q y)∧ac l t y V∧Below f.heap.size f l)
  (Y:∀f t y L M,Below w.heap.size w f→ac f t y U→ac f L M V→Calls Tryz.prog 183 #[.slice t c y,.slice L q M] f fun e l=>e=.returned (.tuple #[.int .u64 (x:Nat),.int .i64 0])∧Below f.heap.size f l):
  Calls Tryz.prog 182 #[.int .i64 i,.int .i64 k,.pointer (some ⟨z,0,none⟩),.pointer (some ⟨A,0,none⟩)] w fun e f=>e=.returned (.int .u64 (x:Nat))∧Below w.heap.size w f:=by
 have Z:=aa Q;have K2:=aa X;have K3:=aa Y
 have HK:=aa (fun f (h:Below w.heap.size w f)=>(show Below w.heap.size w f∧(f.cell? ⟨z,0,none⟩=some (.int .i64 r)∧f.cell? ⟨z,1,none⟩=some (.int .i64 c)∧f.cell? ⟨z,2,none⟩=some (.slice ao n cap))∧(f.cell? ⟨A,0,none⟩=some (.int .i64 p)∧f.cell? ⟨A,1,none⟩=some (.int .i64 q)∧f.cell? ⟨A,2,none⟩=some (.slice G m d))from
  ⟨h,⟨(I.all h).c0,(I.all h).c1,(I.all h).c2⟩,(K.all h).c0,(K.all h).c1,(K.all h).c2⟩))
 clear Q X Y I K
 go_enter Tryz.func182,Tryz.ntmps182
 go_wp2_with fail
 go_region_held3(fun f=>Below w.heap.size w f∧(f.cell? ⟨z,0,none⟩=some (.int .i64 r)∧f.cell? ⟨z,1,none⟩=some (.int .i64 c)∧f.cell? ⟨z,2,none⟩=some (.slice ao n cap))∧(f.cell? ⟨A,0,none⟩=some (.int .i64 p)∧f.cell? ⟨A,1,none⟩=some (.int .i64 q)∧f.cell? ⟨A,2,none⟩=some (.slice G m d)))
  (first|exact uH HK _ (Below.refl _ _).drew|exact uH HK _ (by assumption)|fail "KK")
  (first|(go_at_call_of 184 (Value.agg #[.int .i64 r,.int .i64 c,.slice ao n cap]);refine(uH Z _ (And.left (by assumption))).mono ?_;rintro e w1 ⟨t,y,rfl,hu,D⟩;have ae:Below w.heap.size w w1:=Below.trans (And.left (by assumption)) (D.mono (Below.size (And.left (by assumption))));have N:=aa hu;(first|(have O:=aa ((uH O).below D))|skip);clear D hu Z)|(go_at_call_of 184 (Value.agg #[.int .i64 p,.int .i64 q,.slice G m d]);refine(uH K2 _ (And.left (by assumption))).mono ?_;rintro e w2 ⟨L,M,rfl,hv,F⟩;have aj:Below w.heap.size w w2:=Below.trans (And.left (by assumption)) (F.mono (Below.size (And.left (by assumption))));have O:=aa hv;(first|(have N:=aa ((uH N).below F))|skip);clear F hv K2)|(go_at_call 183;refine(uH K3 _ _ _ _ _ (And.left (by assumption)) (uH N) (uH O)).mono ?_;rintro e w3 ⟨rfl,H⟩;have ak:Below w.heap.size w w3:=Below.trans (And.left (by assumption)) (H.mono (Below.size (And.left (by assumption))));clear H)|fail "NO ARM")
 all_goals
  go_wp2
  go_ret
  exact⟨rfl,And.left (by assumption)⟩
end Go.Proofs.YtlnphkioddknfaaGreatDoor
