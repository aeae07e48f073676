/- Part 36 of the texts. -/
import Derived.Test.YtenpggicmfhhdaaGreatDoorParte35
set_option maxHeartbeats 32000000
set_option maxRecDepth 20000
namespace Go.Proofs.YtenpggicmfhhdaaGreatDoor
open Go.RowKit
structure Mr where
 ao:Option Addr
 cap:Nat
 V:List Nat
 tau:Nat
 beta:Nat
def Mr.cells(x:Mr):List Value:=[.slice x.ao x.V.length x.cap,.int .u64 (x.tau:Nat),.int .u64 (x.beta:Nat)]
def d6(R:List Mr):List Value:=R.flatMap Mr.cells
def bN(R:List Mr)(k:Nat):Mr:=R[k]?.getD ⟨none,0,[],0,0⟩
theorem k5:∀(R:List Mr) (k:Nat),k<R.length→(d6 R)[k*3]? =some (.slice (bN R k).ao (bN R k).V.length (bN R k).cap)∧(d6 R)[k*3+1]? =some (.int .u64 ((bN R k).tau:Nat))∧(d6 R)[k*3+2]? =some (.int .u64 ((bN R k).beta:Nat))
 |x::R,0,_=>by simp[d6,bN,Mr.cells]
 |x::R,k+1,h=>by
  have:=k5 R k (by simpa using h)
  have e:d6 (x::R)=.slice x.ao x.V.length x.cap::.int .u64 (x.tau:Nat)::.int .u64 (x.beta:Nat)::d6 R:=rfl
  rw[e,show(k+1)*3=k*3+1+1+1 by omega]
  simpa[bN]using this
def tM(g:Option Nat)(x:Mr):Prop:=x.V= []∨∃b off,x.ao=some ⟨b,off,none⟩∧some b≠g
theorem tM.new{w:World}{x:Mr}(h:ab w x.ao x.cap (ar x.V)){g:Nat}(f:w.heap.size≤g):tM (some g) x:=by
 rcases h.2.2 with e|⟨b,d,e,l,_⟩
 ·exact .inl (by cases hV:x.V with
   |nil=>rfl
   |cons y ys=>rw[hV]at e;cases e)
 ·exact .inr ⟨b,d,e,by intro e;cases e;omega⟩
theorem ig{w m:World}{x:Mr}{g:Option Nat}(h:ab w x.ao x.cap (ar x.V))(A:tM g x)(t:w.grownBy m g):ab m x.ao x.cap (ar x.V):=by
 refine⟨h.1,h.2.1,?_⟩
 rcases h.2.2 with e|⟨b,d,e,y,F⟩
 ·exact .inl e
 ·rcases A with f|⟨G,z,f,l⟩
  ·exact .inl (by rw[f];rfl)
  ·rw[e]at f
   simp only[Option.some.injEq,Addr.mk.injEq]at f
   obtain⟨rfl,rfl,_⟩:=f
   refine .inr ⟨b,d,e,Nat.lt_of_lt_of_le y t.size,fun i D=>?_⟩
   rw[World.cell?_of_block (a:=⟨b,d+i,none⟩) (t.block b y l)]
   exact F i D
theorem ga{w y:World}{d e f n:Nat}{v:Value}{z:List Value}{g:Option Nat}(h:w.ownsRow d e f v n z)(F:w.grownBy y g)(l:∀k,v.ownBlock=some k→some k≠g):y.ownsRow d e f v n z:=by
 refine⟨h.1,?_⟩
 rcases h.2 with h|⟨k,m,t,A,H,D,I⟩
 ·exact .inl h
 ·have G:k<w.heap.size:=(Array.getElem?_eq_some_iff.1 D).1
  exact .inr ⟨k,m,t,A,H,(F.block k G (l k (by rw[A];rfl))).trans D,I⟩
def dl(base:Nat)(w:World)(v:Value)(R:List Mr):Prop:=w.ownsRow base 60 3 v R.length (d6 R)∧∀x∈R,ab w x.ao x.cap (ar x.V)∧tM v.ownBlock x
theorem dl.start(w:World)(d:Nat)(f:d≤w.heap.size):dl d (w.alloc (.cells #[] 60)) (.slice (some ⟨w.heap.size,0,none⟩) 0 0) []:=
 ⟨World.ownsRow_made w #[] 0 f (by simp[maxLen]) (by simp),by simp⟩
theorem dl.below{d:Nat}{w l:World}{v:Value}{R:List Mr}(h:dl d w v R)(f:Below w.heap.size w l):dl d l v R:=
 ⟨ga h.1 ⟨f.os,f.tape,f.output,f.size,fun k t _=>f.block k t⟩ (fun k _=>by simp:∀k,v.ownBlock=some k→some k≠none),fun x m=>⟨((h.2 x m).1).below f,(h.2 x m).2⟩⟩
theorem Fs:(Tryz.prog.info? 60).map (fun i=>(i.zero,i.size,i.bytes))=some (some (.agg #[.slice none 0 0,.int .u64 0,.int .u64 0]),3,40):=by kernel_rfl
theorem dl.push{d:Nat}{w:World}{v:Value}{R:List Mr}(h:dl d w v R)(x:Mr)(N:ab w x.ao x.cap (ar x.V))(O:tM v.ownBlock x)(hl:R.length≤1000000)(Q:d≤w.heap.size)(I:TypeId):
  ∃m t,(Builtin.append_ #[57,57] I #[v,.slice (some ⟨w.heap.size,0,none⟩) 1 1]).run Tryz.prog (w.alloc (.cells #[.slice x.ao x.V.length x.cap,.int .u64 (x.tau:Nat),.int .u64 (x.beta:Nat)] 60))=.ok m t∧dl d t m (R++[x])∧Below d w t∧(w.alloc (.cells #[.slice x.ao x.V.length x.cap,.int .u64 (x.tau:Nat),.int .u64 (x.beta:Nat)] 60)).grownBy t v.ownBlock∧(m.ownBlock=v.ownBlock∨m.ownBlock=some (w.heap.size+1)):=by
 obtain⟨Z,hi,D,F,G⟩:=info_parts Fs
 have z:=ac w (.cells #[.slice x.ao x.V.length x.cap,.int .u64 (x.tau:Nat),.int .u64 (x.beta:Nat)] 60)
 have X:=heap_alloc_new w (.cells #[.slice x.ao x.V.length x.cap,.int .u64 (x.tau:Nat),.int .u64 (x.beta:Nat)] 60)
 have Y:=ai w (.cells #[.slice x.ao x.V.length x.cap,.int .u64 (x.tau:Nat),.int .u64 (x.beta:Nat)] 60)
 have L:=h.below z
 have A:=N.below z
 generalize w.alloc (.cells #[.slice x.ao x.V.length x.cap,.int .u64 (x.tau:Nat),.int .u64 (x.beta:Nat)] 60)=W at*
 obtain⟨m,t,e1,e2,H,e4,M⟩:=run_append_own_at (P:=Tryz.prog) W d 57 I 60 Z (.agg #[.slice none 0 0,.int .u64 0,.int .u64 0]) 3 40 Tryz.underlying57 hi D F G rfl (by decide) v R.length (d6 R) L.1 ⟨w.heap.size,0,none⟩ 1 1 x.cells rfl (fun j u T=>by
   rw[show(⟨w.heap.size,0,none⟩:Addr).add j=⟨w.heap.size,j,none⟩from by unfold Addr.add;split<;>simp_all,cell_of_row _ w.heap.size j _ _ _ X]
   simpa[Mr.cells]using T) (fun u K=>by
   simp[Mr.cells]at K
   rcases K with rfl|rfl|rfl<;>rfl) (by unfold maxLen;omega) (by omega) (by omega)
 ·refine⟨m,t,e1,⟨?_,fun y l=>?_⟩,(z.mono Q).grown H (by omega) (fun g U=>(h.1.lt g U).1),H,by rw[←Y];exact M⟩
  ·rw[List.length_append,show d6 (R++[x])=d6 R++x.cells by simp[d6]]
   exact e2
  ·have f:ab W y.ao y.cap (ar y.V)∧tM v.ownBlock y:=by
    rcases List.mem_append.1 l with l|l
    ·exact L.2 y l
    ·simp at l;subst l;exact⟨A,O⟩
   refine⟨ig f.1 f.2 H,?_⟩
   rcases M with e|e
   ·rw[e];exact f.2
   ·rw[e];exact tM.new f.1 (Nat.le_refl _)
theorem dl.putM{f:Nat}{w:World}{v:Value}{R:List Mr}(h:dl f w v R){g:Nat}{x y:Int}{o:Option Addr}{n d:Nat}(D:au w g (.int .i64 x) (.int .i64 y) (.slice o n d))(I:g<f)(u u' u'':Value):dl f (((w.setCell ⟨g,0,none⟩ u).setCell ⟨g,1,none⟩ u').setCell ⟨g,2,none⟩ u'') v R:=by
 refine⟨⟨h.1.1,?_⟩,fun z A=>⟨(h.2 z A).1.putM D u u' u'',(h.2 z A).2⟩⟩
 rcases h.1.2 with e|⟨k,m,t,F,G,H,rest⟩
 ·exact .inl e
 ·have l:k≠g:=by omega
  exact .inr ⟨k,m,t,F,G,(Below.heap_setCell _ ⟨g,2,none⟩ u'' k l).trans ((Below.heap_setCell _ ⟨g,1,none⟩ u' k l).trans ((Below.heap_setCell _ ⟨g,0,none⟩ u k l).trans H)),rest⟩
theorem dl.at{d:Nat}{w:World}{v:Value}{R:List Mr}(h:dl d w v R){k:Nat}(t:k<R.length):∃g f,v=.slice (some ⟨g,0,none⟩) R.length f∧d≤g∧g<w.heap.size∧w.cell? ⟨g,k*3,none⟩=some (.slice (bN R k).ao (bN R k).V.length (bN R k).cap)∧w.cell? ⟨g,k*3+1,none⟩=some (.int .u64 ((bN R k).tau:Nat))∧ab w (bN R k).ao (bN R k).cap (ar (bN R k).V):=by
 rcases h.1.2 with⟨z,G⟩|⟨g,f,A,z,D,y,H,I,K,F⟩
 ·omega
 ·obtain⟨l,m,_⟩:=k5 R k t
  rw[←F,List.getElem?_take]at l m
  rw[if_pos (by omega)]at l m
  simp only[Array.getElem?_toList]at l m
  refine⟨g,f,z,D,(Array.getElem?_eq_some_iff.1 y).1,?_,?_,(h.2 (bN R k) ?_).1⟩
  ·rw[cell_of_row w g _ _ _ _ y];exact l
  ·rw[cell_of_row w g _ _ _ _ y];exact m
  ·unfold bN
   rw[List.getElem?_eq_getElem t]
   exact List.getElem_mem t
attribute [local go_sem ↓] Go.wp_at_zero Go.wp_at_succ
def oc(w wr:World)(r c n:Nat)(T:List Nat)(po:Option Addr)(pc:Nat):Prop:=
 au wr w.heap.size (.int .i64 r) (.int .i64 c) (.slice po n pc)∧au wr (w.heap.size+1) (.int .i64 0) (.int .i64 0) (.slice none 0 0)∧ab wr po pc (ar T)∧T.length=n∧Below w.heap.size w wr
theorem oc.all{w wr f:World}{r c n:Nat}{T:List Nat}{l:Option Addr}{m:Nat}(h:oc w wr r c n T l m)(d:Below wr.heap.size wr f):oc w f r c n T l m:=
 ⟨h.1.all d,h.2.1.all d,h.2.2.1.below d,h.2.2.2.1,h.2.2.2.2.trans (d.mono h.2.2.2.2.size)⟩
theorem oc.put{w wr:World}{r c n:Nat}{T:List Nat}{t:Option Addr}{y:Nat}(h:oc w wr r c n T t y){U:List Nat}{d:Option Addr}{f:Nat}(z:ab wr d f (ar U))(A:U.length=n):
  oc w (((wr.setCell ⟨w.heap.size,0,none⟩ (.int .i64 r)).setCell ⟨w.heap.size,1,none⟩ (.int .i64 c)).setCell ⟨w.heap.size,2,none⟩ (.slice d n f)) r c n U d f:=by
 obtain⟨m,D,G,H,F⟩:=h
 have l:w.heap.size+1≠w.heap.size:=by omega
 exact⟨m.put _ _ _,((D.other (p:=⟨w.heap.size,0,none⟩) l _).other (p:=⟨w.heap.size,1,none⟩) l _).other (p:=⟨w.heap.size,2,none⟩) l _,z.putM m _ _ _,A,al F (Nat.le_refl _) _ _ _⟩
theorem oc.start(w:World)(r c n d:Nat)(f:Option Addr)(T:List Nat)(y:ab w f d (ar T))(z:T.length=n):oc w ((w.alloc (.cells #[.int .i64 r,.int .i64 c,.slice f n d] 24)).alloc (.cells #[.int .i64 0,.int .i64 0,.slice none 0 0] 24)) r c n T f d:=by
 have h:=ac w (.cells #[.int .i64 r,.int .i64 c,.slice f n d] 24)
 have A:=ai w (.cells #[.int .i64 r,.int .i64 c,.slice f n d] 24)
 have D:=au.new w (.int .i64 r) (.int .i64 c) (.slice f n d)
 have F:=y.below h
 generalize w.alloc (.cells #[.int .i64 r,.int .i64 c,.slice f n d] 24)=t at*
 have l:=ac t (.cells #[.int .i64 0,.int .i64 0,.slice none 0 0] 24)
 have m:=au.new t (.int .i64 0) (.int .i64 0) (.slice none 0 0)
 rw[A]at m
 exact⟨D.all l,m,F.below l,z,h.trans (l.mono h.size)⟩
theorem wQ(r c n A j b:Nat)(Z:Option Addr)(t:Nat→List Nat)(O:List Nat)(w:World)(hr:r≤6)(hj:j<r)(h0:ab w Z A (ar O))(l0:O.length=n)(lJ:∀i,(t i).length=n)
  (A1:∀l D F,ab l D F (ar O)→Calls Tryz.prog 45 #[.agg #[.int .i64 r,.int .i64 c,.slice D n F],.int .i64 j,.int .i64 j,.int .u64 b] l fun e m=>∃d f,e=.returned (.agg #[.int .i64 r,.int .i64 c,.slice d n f])∧bR l.heap.size d (ar (t (j+1)))∧ab m d f (ar (t (j+1)))∧Below l.heap.size l m)
  (A2:∀l i D F,j<i→i<r→ab l D F (ar (t i))→Calls Tryz.prog 45 #[.agg #[.int .i64 r,.int .i64 c,.slice D n F],.int .i64 (i:Nat),.int .i64 j,.int .u64 0] l fun e m=>∃d f,e=.returned (.agg #[.int .i64 r,.int .i64 c,.slice d n f])∧bR l.heap.size d (ar (t (i+1)))∧ab m d f (ar (t (i+1)))∧Below l.heap.size l m):
  Calls Tryz.prog 41 #[.agg #[.int .i64 r,.int .i64 c,.slice Z n A],.int .i64 j,.int .u64 b] w fun e l=>∃d f,e=.returned (.agg #[.int .i64 r,.int .i64 c,.slice d n f])∧bR w.heap.size d (ar (t r))∧ab l d f (ar (t r))∧Below w.heap.size w l:=by
 have G:=aa (oc.start w r c n A Z O h0 l0)
 have K1:=aa A1;have K2:=aa A2;have LJ:=aa lJ
 clear A1 A2 lJ h0 l0
 have H:=(uH G).1.c0;have I:=(uH G).1.c1;have K:=(uH G).1.c2
 go_enter Tryz.func41,Tryz.ntmps41
 go_wp2_with fail
 clear H I K
 refine(uH K1 _ _ _ (uH G).2.2.1).mono ?_
 rintro e w1 ⟨d,f,rfl,L,M,N⟩
 have Q:=aa (bR.least L (uH G).2.2.2.2.size)
 have h:=(uH G).all N
 have H:=h.1.c0;have I:=h.1.c1;have K:=h.1.c2
 have T:=h.1.free 0;have U:=h.1.free 1;have V:=h.1.free 2
 have X:=aa (h.put M (uH LJ (j+1)))
 clear h L M N G K1
 go_wp2_with fail
 clear H I K T U V
 go_loopw[7] (fun a wr=>∃(i:Nat) (d:Option Addr) (f:Nat),j<i∧i≤r∧a=.int .i64 i∧Hid (bR w.heap.size d (ar (t i)))∧Hid (oc w wr r c n (t i) d f)) (fun a _=>r-(intOf a).toNat)
 case atStart=>exact⟨j+1,d,f,by omega,by omega,by go_num,Q,X⟩
 case round=>
  clear X Q
  obtain⟨i,d,f,am,ax,rfl,hN,y⟩:=hrel
  have H:=(uH y).1.c0;have I:=(uH y).1.c1;have K:=(uH y).1.c2
  by_cases ae:i<r
  ·have av:(i:Int)<(r:Int):=by omega
   go_wp2_with fail
   clear H I K
   refine(uH K2 _ i _ _ am ae (uH y).2.2.1).mono ?_
   rintro e w2 ⟨D,F,rfl,L,M,N⟩
   have Q:=aa (bR.least L (uH y).2.2.2.2.size)
   have h:=(uH y).all N
   have H:=h.1.c0;have I:=h.1.c1;have K:=h.1.c2
   have T:=h.1.free 0;have U:=h.1.free 1;have V:=h.1.free 2
   have X:=aa (h.put M (uH LJ (i+1)))
   clear h L M N y hN
   go_wp2_with fail
   clear H I K T U V
   go_round
   case rel=>exact⟨i+1,D,F,by omega,by omega,by go_num,Q,X⟩
   case measure=>simp[intOf];omega
  ·have aj:i=r:=by omega
   subst aj
   obtain⟨h1,z,h3,h4,h5⟩:=uH y
   have r0:=z.c0;have r1:=z.c1;have r2:=z.c2
   have T:=z.free 0;have U:=z.free 1;have V:=z.free 2
   have Y:=z.put (.int .i64 i) (.int .i64 c) (.slice d n f)
   have z0:=Y.c0;have z1:=Y.c1;have z2:=Y.c2
   have QP:=aa (h3.putM z (.int .i64 i) (.int .i64 c) (.slice d n f))
   have BP:=aa (al h5 (b:=w.heap.size+1) (by omega) (.int .i64 i) (.int .i64 c) (.slice d n f))
   clear Y h1 z h3 h4 h5 y
   go_wp2_with fail
   exact bodyPost_ret (v:=.agg #[.int .i64 i,.int .i64 c,.slice d n f]) (by simp[results,Tryz.results41,go_sem,z0,z1,z2]) rfl ⟨d,f,rfl,uH hN,uH QP,uH BP⟩
theorem pV(r c d j b:Nat)(G:Option Addr)(S:List Nat)(w:World)(h:Mx w G d r c S)(H:j<r)(F:j<c)(y:b<18446744073709551616):
  Calls Tryz.prog 41 #[.agg #[.int .i64 r,.int .i64 c,.slice G S.length d],.int .i64 j,.int .u64 b] w fun e l=>∃f m,e=.returned (.agg #[.int .i64 r,.int .i64 c,.slice f S.length m])∧bR w.heap.size f (ar (Eb r c S j b))∧ab l f m (ar (Eb r c S j b))∧Below w.heap.size w l:=by
 have t:=h.2.1
 refine wQ r c S.length d j b G (fun i=>AV r c S j b i) S w h.2.2.1 H h.1 rfl (fun i=>by rw[ie,t]) (fun l I K L=>?_) (fun l i I K M z L=>?_)
 ·refine(gQ r c K j j b I S l ⟨L,t,h.2.2⟩ H F y).mono ?_
  rintro e N ⟨v,rfl,⟨f,m,rfl,A,D⟩,y⟩
  rw[o0 r c S b t H F]at A D⊢
  exact⟨f,m,by rw[ie,t],A,D,y⟩
 ·have:=gQ r c K i j 0 I _ l ⟨L,ie _ _ _ _ _ _,h.2.2⟩ z F (by decide)
  rw[ie,←t]at this
  refine this.mono ?_
  rintro e N ⟨v,rfl,⟨f,m,rfl,A,D⟩,y⟩
  rw[uV r c S b M z F]at A D⊢
  exact⟨f,m,by rw[ie,t],A,D,y⟩
end Go.Proofs.YtenpggicmfhhdaaGreatDoor
namespace Go.Proofs.YtenpggicmfhhdaaGreatDoor
open Go.RowKit
def bw(w:World)(g:Nat)(x0 x1 x2 x3 x4 x5 x6:Value):Prop:=w.heap[g]? =some (.cells #[x0,x1,x2,x3,x4,x5,x6] 40 (0,0))
theorem bw.c0{w:World}{g:Nat}{d f l m t y z:Value}(h:bw w g d f l m t y z):w.cell? ⟨g,0,none⟩=some d:=by rw[cell_of_row w g 0 _ _ _ h];rfl
theorem bw.c1{w:World}{g:Nat}{f d l m t y z:Value}(h:bw w g f d l m t y z):w.cell? ⟨g,1,none⟩=some d:=by rw[cell_of_row w g 1 _ _ _ h];rfl
theorem bw.c2{w:World}{g:Nat}{f l d m t y z:Value}(h:bw w g f l d m t y z):w.cell? ⟨g,2,none⟩=some d:=by rw[cell_of_row w g 2 _ _ _ h];rfl
theorem bw.c3{w:World}{g:Nat}{f l m d t y z:Value}(h:bw w g f l m d t y z):w.cell? ⟨g,3,none⟩=some d:=by rw[cell_of_row w g 3 _ _ _ h];rfl
theorem bw.c4{w:World}{g:Nat}{f l m t d y z:Value}(h:bw w g f l m t d y z):w.cell? ⟨g,4,none⟩=some d:=by rw[cell_of_row w g 4 _ _ _ h];rfl
theorem bw.c5{w:World}{g:Nat}{f l m t y d z:Value}(h:bw w g f l m t y d z):w.cell? ⟨g,5,none⟩=some d:=by rw[cell_of_row w g 5 _ _ _ h];rfl
theorem bw.c6{w:World}{g:Nat}{f l m t y z d:Value}(h:bw w g f l m t y z d):w.cell? ⟨g,6,none⟩=some d:=by rw[cell_of_row w g 6 _ _ _ h];rfl
theorem bw.free{w:World}{g:Nat}{d f l m t y z:Value}(h:bw w g d f l m t y z)(j:Nat):w.frozen? ⟨g,j,none⟩=false:=frozen_of_row w g j _ _ h
theorem bw.lt{w:World}{g:Nat}{d f l m t y z:Value}(h:bw w g d f l m t y z):g<w.heap.size:=(Array.getElem?_eq_some_iff.1 h).1
theorem bw.below{w f:World}{g:Nat}{l m t y z A D:Value}(h:bw w g l m t y z A D){B:Nat}(F:Below B w f)(d:g<B):bw f g l m t y z A D:=(F.block g d).trans h
theorem bw.all{w d:World}{g:Nat}{f l m t y z A:Value}(h:bw w g f l m t y z A)(D:Below w.heap.size w d):bw d g f l m t y z A:=h.below D h.lt
theorem bw.new(w:World)(d f h l m t y:Value):bw (w.alloc (.cells #[d,f,h,l,m,t,y] 40)) w.heap.size d f h l m t y:=heap_alloc_new w _
theorem bw.other{w:World}{g:Nat}{d f l m t y z:Value}(h:bw w g d f l m t y z){p:Addr}(A:g≠p.block)(u:Value):bw (w.setCell p u) g d f l m t y z:=(Below.heap_setCell w p u g A).trans h
theorem bw.put{w:World}{g:Nat}{d f l m t y z:Value}(h:bw w g d f l m t y z)(u0 u1 u2 u3 u4 u5 u6:Value):bw (((((((w.setCell ⟨g,0,none⟩ u0).setCell ⟨g,1,none⟩ u1).setCell ⟨g,2,none⟩ u2).setCell ⟨g,3,none⟩ u3).setCell ⟨g,4,none⟩ u4).setCell ⟨g,5,none⟩ u5).setCell ⟨g,6,none⟩ u6) g u0 u1 u2 u3 u4 u5 u6:=by
 have A:=heap_setCell_same w g 0 _ _ u0 h
 have D:=heap_setCell_same (w.setCell ⟨g,0,none⟩ u0) g 1 _ _ u1 A
 have F:=heap_setCell_same ((w.setCell ⟨g,0,none⟩ u0).setCell ⟨g,1,none⟩ u1) g 2 _ _ u2 D
 have G:=heap_setCell_same (((w.setCell ⟨g,0,none⟩ u0).setCell ⟨g,1,none⟩ u1).setCell ⟨g,2,none⟩ u2) g 3 _ _ u3 F
 have H:=heap_setCell_same ((((w.setCell ⟨g,0,none⟩ u0).setCell ⟨g,1,none⟩ u1).setCell ⟨g,2,none⟩ u2).setCell ⟨g,3,none⟩ u3) g 4 _ _ u4 G
 have I:=heap_setCell_same (((((w.setCell ⟨g,0,none⟩ u0).setCell ⟨g,1,none⟩ u1).setCell ⟨g,2,none⟩ u2).setCell ⟨g,3,none⟩ u3).setCell ⟨g,4,none⟩ u4) g 5 _ _ u5 H
 have K:=heap_setCell_same ((((((w.setCell ⟨g,0,none⟩ u0).setCell ⟨g,1,none⟩ u1).setCell ⟨g,2,none⟩ u2).setCell ⟨g,3,none⟩ u3).setCell ⟨g,4,none⟩ u4).setCell ⟨g,5,none⟩ u5) g 6 _ _ u6 I
 unfold bw
 rw[K]
 simp
theorem cq{w f:World}{B g:Nat}(h:Below B w f)(d:B≤g)(u0 u1 u2 u3 u4 u5 u6:Value):Below B w (((((((f.setCell ⟨g,0,none⟩ u0).setCell ⟨g,1,none⟩ u1).setCell ⟨g,2,none⟩ u2).setCell ⟨g,3,none⟩ u3).setCell ⟨g,4,none⟩ u4).setCell ⟨g,5,none⟩ u5).setCell ⟨g,6,none⟩ u6):=
 ((((((h.setCell d _).setCell d _).setCell d _).setCell d _).setCell d _).setCell d _).setCell d _
theorem bw.away{w:World}{g:Nat}{a b m t:Int}{o y:Option Addr}{n d A D:Nat}{f:Bool}(h:bw w g (.int .i64 a) (.int .i64 b) (.slice o n d) (.int .i64 m) (.int .i64 t) (.slice y A D) (.bool f)){k j:Nat}{z:Int}(l:w.cell? ⟨k,j,none⟩=some (.int .u64 z)):k≠g:=by
 rintro rfl
 rw[cell_of_row w k j _ _ _ h]at l
 match j with
 |0=>simp at l
 |1=>simp at l
 |2=>simp at l
 |3=>simp at l
 |4=>simp at l
 |5=>simp at l
 |6=>simp at l
 |j+7=>simp at l
theorem Aq{w:World}{f:Option Addr}{c:Nat}{I:List Int}(h:ab w f c I){g:Nat}(l:∀k j z,w.cell? ⟨k,j,none⟩=some (.int .u64 z)→k≠g):I= []∨∃b d,f=some ⟨b,d,none⟩∧b≠g:=by
 rcases h.2.2 with e|⟨b,d,m,y,t⟩
 ·exact .inl e
 ·cases hI:I with
  |nil=>exact .inl rfl
  |cons x xs=>exact .inr ⟨b,d,m,l b (d+0) _ (t 0 (by rw[hI];simp))⟩
theorem bg{w:World}{m:Option Addr}{c:Nat}{I:List Int}(h:ab w m c I){g:Nat}{a b t y:Int}{o A:Option Addr}{n d D F:Nat}{f:Bool}(G:bw w g (.int .i64 a) (.int .i64 b) (.slice o n d) (.int .i64 t) (.int .i64 y) (.slice A D F) (.bool f))(u0 u1 u2 u3 u4 u5 u6:Value):ab (((((((w.setCell ⟨g,0,none⟩ u0).setCell ⟨g,1,none⟩ u1).setCell ⟨g,2,none⟩ u2).setCell ⟨g,3,none⟩ u3).setCell ⟨g,4,none⟩ u4).setCell ⟨g,5,none⟩ u5).setCell ⟨g,6,none⟩ u6) m c I:=by
 have l:=Aq h (g:=g) (fun k j z H=>G.away H)
 exact((((((h.other (p:=⟨g,0,none⟩) l _).other (p:=⟨g,1,none⟩) l _).other (p:=⟨g,2,none⟩) l _).other (p:=⟨g,3,none⟩) l _).other (p:=⟨g,4,none⟩) l _).other (p:=⟨g,5,none⟩) l _).other (p:=⟨g,6,none⟩) l _
attribute [local go_sem ↓] Go.wp_at_zero Go.wp_at_succ
def jg(g:Option Nat)(ao:Option Addr)(I:List Int):Prop:=I= []∨∃b off,ao=some ⟨b,off,none⟩∧some b≠g
theorem jg.new{H:Nat}{f:Option Addr}{I:List Int}(h:bR H f I){g:Option Nat}(l:∀k,g=some k→k<H):jg g f I:=by
 rcases h with e|⟨b,d,m,t⟩
 ·exact .inl e
 ·exact .inr ⟨b,d,m,fun e=>by have:=l b e.symm;omega⟩
theorem jg.old{w:World}{f:Option Addr}{c:Nat}{I:List Int}(h:ab w f c I){g:Option Nat}(l:∀k,g=some k→w.heap.size≤k):jg g f I:=by
 rcases h.2.2 with e|⟨b,d,m,t,_⟩
 ·exact .inl e
 ·exact .inr ⟨b,d,m,fun e=>by have:=l b e.symm;omega⟩
theorem gv{w t:World}{l:Option Addr}{c:Nat}{I:List Int}{g:Option Nat}(h:ab w l c I)(D:jg g l I)(y:w.grownBy t g):ab t l c I:=by
 refine⟨h.1,h.2.1,?_⟩
 rcases h.2.2 with e|⟨b,d,e,z,G⟩
 ·exact .inl e
 ·rcases D with f|⟨H,A,f,m⟩
  ·exact .inl f
  ·rw[e]at f
   simp only[Option.some.injEq,Addr.mk.injEq]at f
   obtain⟨rfl,rfl,_⟩:=f
   refine .inr ⟨b,d,e,Nat.lt_of_lt_of_le z y.size,fun i F=>?_⟩
   rw[World.cell?_of_block (a:=⟨b,d+i,none⟩) (y.block b z m)]
   exact G i F
theorem dl.putQ{f:Nat}{w:World}{v:Value}{R:List Mr}(h:dl f w v R){g:Nat}{x y:Int}{o:Option Addr}{n d:Nat}(A:au w g (.int .i64 x) (.int .i64 y) (.slice o n d))(u u' u'':Value):dl f (((w.setCell ⟨g,0,none⟩ u).setCell ⟨g,1,none⟩ u').setCell ⟨g,2,none⟩ u'') v R:=by
 refine⟨⟨h.1.1,?_⟩,fun z D=>⟨(h.2 z D).1.putM A u u' u'',(h.2 z D).2⟩⟩
 rcases h.1.2 with e|⟨k,m,t,G,H,F,rest⟩
 ·exact .inl e
 ·have l:k≠g:=by
   rintro rfl
   have e:=F.symm.trans A
   simp at e
  exact .inr ⟨k,m,t,G,H,(Below.heap_setCell _ ⟨g,2,none⟩ u'' k l).trans ((Below.heap_setCell _ ⟨g,1,none⟩ u' k l).trans ((Below.heap_setCell _ ⟨g,0,none⟩ u k l).trans F)),rest⟩
theorem dl.apart{d:Nat}{w:World}{b l m:Nat}{R:List Mr}(h:dl d w (.slice (some ⟨b,0,none⟩) l m) R){g:Nat}{x y z:Value}(t:au w g x y z):b≠g:=by
 rcases h.1.2 with⟨e,_⟩|⟨k,A,D,f,G,F,rest⟩
 ·cases e
 ·simp only[Value.slice.injEq,Option.some.injEq,Addr.mk.injEq]at f
  obtain⟨⟨rfl,_⟩,_⟩:=f
  rintro rfl
  have e:=F.symm.trans t
  simp at e
structure gS (w wr:World) (r c n cap:Nat) (ao:Option Addr) (S:List Nat) (ro:Option Addr) (rc:Nat) (v:Value) (R:List Mr):Prop where
 bel:Below w.heap.size w wr
 a:au wr w.heap.size (.int .i64 r) (.int .i64 c) (.slice ao n cap)
 res:bw wr (w.heap.size+1) (.int .i64 0) (.int .i64 0) (.slice none 0 0) (.int .i64 0) (.int .i64 0) (.slice none 0 0) (.bool false)
 rb:au wr (w.heap.size+1+1) (.int .i64 r) (.int .i64 c) (.slice ro n rc)
 bits:ab wr ro rc (ar S)
 len:S.length=n
 l:dl (w.heap.size+1+1+1) wr v R
 off:jg v.ownBlock ro (ar S)
theorem gS.all{w wr m:World}{r c n f:Nat}{t:Option Addr}{S:List Nat}{y:Option Addr}{z:Nat}{v:Value}{R:List Mr}(h:gS w wr r c n f t S y z v R)(d:Below wr.heap.size wr m):gS w m r c n f t S y z v R:=
 ⟨h.bel.trans (d.mono h.bel.size),h.a.all d,h.res.all d,h.rb.all d,h.bits.below d,h.len,h.l.below d,h.off⟩
theorem gS.put{w wr:World}{r c n d:Nat}{z:Option Addr}{S:List Nat}{A:Option Addr}{D:Nat}{v:Value}{R:List Mr}(h:gS w wr r c n d z S A D v R){U:List Nat}{f:Option Addr}{m:Nat}(F:ab wr f m (ar U))(G:U.length=n)(H:jg v.ownBlock f (ar U)):
  gS w (((wr.setCell ⟨w.heap.size+1+1,0,none⟩ (.int .i64 r)).setCell ⟨w.heap.size+1+1,1,none⟩ (.int .i64 c)).setCell ⟨w.heap.size+1+1,2,none⟩ (.slice f n m)) r c n d z U f m v R:=by
 have t:w.heap.size≠w.heap.size+1+1:=by omega
 have y:w.heap.size+1≠w.heap.size+1+1:=by omega
 exact⟨al h.bel (by omega) _ _ _,((h.a.other (p:=⟨w.heap.size+1+1,0,none⟩) t _).other (p:=⟨w.heap.size+1+1,1,none⟩) t _).other (p:=⟨w.heap.size+1+1,2,none⟩) t _,((h.res.other (p:=⟨w.heap.size+1+1,0,none⟩) y _).other (p:=⟨w.heap.size+1+1,1,none⟩) y _).other (p:=⟨w.heap.size+1+1,2,none⟩) y _,h.rb.put _ _ _,F.putM h.rb _ _ _,G,h.l.putM h.rb (by omega) _ _ _,H⟩
theorem gS.push{w wr:World}{r c n d:Nat}{D:Option Addr}{S:List Nat}{F:Option Addr}{G:Nat}{v:Value}{R:List Mr}(h:gS w wr r c n d D S F G v R)(x:Mr)(I:ab wr x.ao x.cap (ar x.V))(K:jg v.ownBlock x.ao (ar x.V))(L:R.length≤1000000)(H:TypeId):
  ∃f m,(Builtin.append_ #[57,57] H #[v,.slice (some ⟨wr.heap.size,0,none⟩) 1 1]).run Tryz.prog (wr.alloc (.cells #[.slice x.ao x.V.length x.cap,.int .u64 (x.tau:Nat),.int .u64 (x.beta:Nat)] 60))=.ok f m∧gS w m r c n d D S F G f (R++[x]):=by
 have M:w.heap.size+1+1+1≤wr.heap.size:=h.rb.lt
 obtain⟨f,m,O,Q,t,T,U⟩:=h.l.push x I (by
  rcases K with e|e
  ·exact .inl (by cases hV:x.V with
    |nil=>rfl
    |cons y ys=>rw[hV]at e;cases e)
  ·exact .inr e) L M H
 have N:=ac wr (.cells #[.slice x.ao x.V.length x.cap,.int .u64 (x.tau:Nat),.int .u64 (x.beta:Nat)] 60)
 refine⟨f,m,O,h.bel.trans (t.mono (by omega)),h.a.below t (by omega),h.res.below t (by omega),h.rb.below t (by omega),gv (h.bits.below N) h.off T,h.len,Q,?_⟩
 rcases U with e|e
 ·rw[e];exact h.off
 ·rw[e]
  rcases h.bits.2.2 with z|⟨b,A,z1,z2,_⟩
  ·exact .inl z
  ·exact .inr ⟨b,A,z1,fun z=>by cases z;omega⟩
theorem gS.start(w:World)(r c n d:Nat)(f:Option Addr)(S:List Nat)(G:ab w f d (ar S))(N:S.length=n):
  gS w ((((w.alloc (.cells #[.int .i64 r,.int .i64 c,.slice f n d] 24)).alloc (.cells #[.int .i64 0,.int .i64 0,.slice none 0 0,.int .i64 0,.int .i64 0,.slice none 0 0,.bool false] 40)).alloc (.cells #[.int .i64 r,.int .i64 c,.slice f n d] 24)).alloc (.cells #[] 60)) r c n d f S f d (.slice (some ⟨w.heap.size+1+1+1,0,none⟩) 0 0) []:=by
 have A:=ac w (.cells #[.int .i64 r,.int .i64 c,.slice f n d] 24)
 have Q:=ai w (.cells #[.int .i64 r,.int .i64 c,.slice f n d] 24)
 have T:=au.new w (.int .i64 r) (.int .i64 c) (.slice f n d)
 have U:=G.below A
 generalize w.alloc (.cells #[.int .i64 r,.int .i64 c,.slice f n d] 24)=y at*
 have D:=ac y (.cells #[.int .i64 0,.int .i64 0,.slice none 0 0,.int .i64 0,.int .i64 0,.slice none 0 0,.bool false] 40)
 have H:=ai y (.cells #[.int .i64 0,.int .i64 0,.slice none 0 0,.int .i64 0,.int .i64 0,.slice none 0 0,.bool false] 40)
 have I:=bw.new y (.int .i64 0) (.int .i64 0) (.slice none 0 0) (.int .i64 0) (.int .i64 0) (.slice none 0 0) (.bool false)
 generalize y.alloc (.cells #[.int .i64 0,.int .i64 0,.slice none 0 0,.int .i64 0,.int .i64 0,.slice none 0 0,.bool false] 40)=z at*
 have t:=ac z (.cells #[.int .i64 r,.int .i64 c,.slice f n d] 24)
 have F:=ai z (.cells #[.int .i64 r,.int .i64 c,.slice f n d] 24)
 have K:=au.new z (.int .i64 r) (.int .i64 c) (.slice f n d)
 generalize z.alloc (.cells #[.int .i64 r,.int .i64 c,.slice f n d] 24)=M at*
 rw[Q]at I H
 rw[H]at K F
 have h:=ac M (.cells #[] 60)
 have L:=dl.start M (w.heap.size+1+1+1) (Nat.le_of_eq F.symm)
 rw[F]at L
 have l:=A.trans (D.mono A.size)
 have m:=l.trans (t.mono l.size)
 exact⟨m.trans (h.mono m.size),((T.all D).all t).all h,(I.all t).all h,K.all h,((U.below D).below t).below h,N,L,jg.old G (fun k O=>by simp[Value.ownBlock]at O;omega)⟩
theorem gS.far{w wr:World}{r c n f:Nat}{D:Option Addr}{S:List Nat}{F:Option Addr}{G:Nat}{v:Value}{R:List Mr}(h:gS w wr r c n f D S F G v R){g:Nat}{x y:Int}{o:Option Addr}{m d:Nat}(H:au wr g (.int .i64 x) (.int .i64 y) (.slice o m d))(I:w.heap.size+1+1+1≤g)(u u' u'':Value):
  gS w (((wr.setCell ⟨g,0,none⟩ u).setCell ⟨g,1,none⟩ u').setCell ⟨g,2,none⟩ u'') r c n f D S F G v R:=by
 have t:w.heap.size≠g:=by omega
 have z:w.heap.size+1≠g:=by omega
 have A:w.heap.size+1+1≠g:=by omega
 exact⟨al h.bel (by omega) _ _ _,((h.a.other (p:=⟨g,0,none⟩) t _).other (p:=⟨g,1,none⟩) t _).other (p:=⟨g,2,none⟩) t _,((h.res.other (p:=⟨g,0,none⟩) z _).other (p:=⟨g,1,none⟩) z _).other (p:=⟨g,2,none⟩) z _,((h.rb.other (p:=⟨g,0,none⟩) A _).other (p:=⟨g,1,none⟩) A _).other (p:=⟨g,2,none⟩) A _,h.bits.putM H _ _ _,h.len,h.l.putQ H _ _ _,h.off⟩
theorem wR{K:Act→World→Prop}{Q:Exit→Act→World→Prop}{a:Act}{w:World}(F:World→Prop)(h:F w)(k:∀W,F W→Exit.then K Q .normal a W):Exit.then K Q .normal a w:=k w h
def Ar(w':World)(ok:Bool)(r c nq n:Nat)(Q R:List Nat)(e:Ending):Prop:=
 (ok=true∧∃qo qc ro rc,e=.returned (.agg #[.int .i64 r,.int .i64 r,.slice qo nq qc,.int .i64 r,.int .i64 c,.slice ro n rc,.bool true])∧ab w' qo qc (ar Q)∧ab w' ro rc (ar R))∨
 (ok=false∧e=.returned (.agg #[.int .i64 0,.int .i64 0,.slice none 0 0,.int .i64 0,.int .i64 0,.slice none 0 0,.bool false]))
theorem dl.slice{d:Nat}{w:World}{v:Value}{R:List Mr}(h:dl d w v R):∃lo f,v=.slice lo R.length f:=by
 rcases h.1.2 with⟨l,m⟩|⟨g,t,y,z,_⟩
 ·exact⟨none,0,by rw[l,m]⟩
 ·exact⟨_,_,z⟩
theorem wS(R:List Mr)(x:Mr):∀k,k<R.length+1→bN (R++[x]) k=if k<R.length then bN R k else x:=by
 intro k d
 unfold bN
 by_cases g:k<R.length
 ·rw[if_pos g,List.getElem?_append_left g]
 ·rw[if_neg g,show k=R.length by omega,List.getElem?_append_right (Nat.le_refl _)]
  simp
theorem tN(r c n nq U K:Nat)(ao:Option Addr)(RJ AP X V QT:Nat→List Nat)(Q ae:Nat→Nat)(o1 o2:Nat→Bool)(fq fr ok:Bool)(w:World)(hr:r≤6)(hc:c≤6)(hK:∀j:Nat,j<K↔((j:Int)<(c:Int)∧(j:Int)<(r:Int)-1))
  (h0:ab w ao U (ar (RJ 0))) (lR:∀j,(RJ j).length=n) (lV:∀j,(V j).length=r-j)
  (a9:ok=true↔((∀j,j<K→o1 j=true∧o2 j=true)∧fq=true∧fr=true))
  (C1:∀y j N O,j<K→ab y N O (ar (RJ j))→Calls Tryz.prog 39 #[.agg #[.int .i64 r,.int .i64 c,.slice N n O],.int .i64 (j:Nat),.int .i64 (j:Nat)] y fun e z=>∃bo d,e=.returned (.slice bo (r-j) d)∧ab z bo d (ar (X j))∧Below y.heap.size y z)
  (C2:∀y j bo d,j<K→ab y bo d (ar (X j))→Calls Tryz.prog 26 #[.slice bo (r-j) d] y fun e z=>e=.returned (.bool (o1 j))∧Below y.heap.size y z)
  (C3:∀y j bo d,j<K→o2 j=true→ab y bo d (ar (X j))→Calls Tryz.prog 40 #[.slice bo (r-j) d] y fun e z=>∃H L,e=.returned (.tuple #[.agg #[.slice H (r-j) L,.int .u64 (Q j:Nat),.int .u64 (ae j:Nat)],.bool true])∧bR y.heap.size H (ar (V j))∧ab z H L (ar (V j))∧Below y.heap.size y z)
  (C4:∀y j bo d,j<K→o2 j=false→ab y bo d (ar (X j))→Calls Tryz.prog 40 #[.slice bo (r-j) d] y fun e z=>e=.returned (.tuple #[.agg #[.slice none 0 0,.int .u64 0,.int .u64 0],.bool false])∧Below y.heap.size y z)
  (C5:∀y j N O H L,j<K→ab y N O (ar (RJ j))→ab y H L (ar (V j))→Calls Tryz.prog 42 #[.agg #[.int .i64 r,.int .i64 c,.slice N n O],.int .i64 (j:Nat),.int .i64 (j:Nat),.slice H (r-j) L,.int .u64 (Q j:Nat)] y fun e z=>∃I M,e=.returned (.agg #[.int .i64 r,.int .i64 c,.slice I n M])∧ab z I M (ar (AP j))∧Below y.heap.size y z)
  (C6:∀y j N O,j<K→ab y N O (ar (AP j))→Calls Tryz.prog 41 #[.agg #[.int .i64 r,.int .i64 c,.slice N n O],.int .i64 (j:Nat),.int .u64 (ae j:Nat)] y fun e z=>∃I M,e=.returned (.agg #[.int .i64 r,.int .i64 c,.slice I n M])∧bR y.heap.size I (ar (RJ (j+1)))∧ab z I M (ar (RJ (j+1)))∧Below y.heap.size y z)
  (C7:∀y,Calls Tryz.prog 43 #[.int .i64 r] y fun e z=>∃I M,e=.returned (.agg #[.int .i64 r,.int .i64 r,.slice I nq M])∧ab z I M (ar (QT 0))∧Below y.heap.size y z)
  (C8:∀y t j N O H L,t<K→j=K-1-t→ab y N O (ar (QT t))→ab y H L (ar (V j))→Calls Tryz.prog 42 #[.agg #[.int .i64 r,.int .i64 r,.slice N nq O],.int .i64 (j:Nat),.int .i64 0,.slice H (r-j) L,.int .u64 (Q j:Nat)] y fun e z=>∃I M,e=.returned (.agg #[.int .i64 r,.int .i64 r,.slice I nq M])∧ab z I M (ar (QT (t+1)))∧Below y.heap.size y z)
  (C9:∀y N O,ab y N O (ar (QT K))→Calls Tryz.prog 26 #[.slice N nq O] y fun e z=>e=.returned (.bool fq)∧Below y.heap.size y z)
  (CA:∀y N O,ab y N O (ar (RJ K))→Calls Tryz.prog 26 #[.slice N n O] y fun e z=>e=.returned (.bool fr)∧Below y.heap.size y z):
  Calls Tryz.prog 27 #[.agg #[.int .i64 r,.int .i64 c,.slice ao n U]] w fun e y=>Ar y ok r c nq n (QT K) (RJ K) e∧Below w.heap.size w y:=by
 have G:=aa (gS.start w r c n U ao (RJ 0) h0 (lR 0))
 have HK:=aa hK;have LR:=aa lR;have LV:=aa lV;have a1:=aa a9
 have K1:=aa C1;have K2:=aa C2;have K3:=aa C3;have K4:=aa C4;have K5:=aa C5;have K6:=aa C6;have K7:=aa C7;have K8:=aa C8;have K9:=aa C9;have KA:=aa CA
 have ca:K≤5:=by
  rcases Nat.lt_or_ge 5 K with g|g
  ·have:=((hK 5).1 g).2
   omega
  ·exact g
 have cb:IntKind.i64.wrap ((r:Int)-1)=(r:Int)-1:=aW _ (by omega)
 clear hK lR lV a9 C1 C2 C3 C4 C5 C6 C7 C8 C9 CA h0
 have y0:=(uH G).a.c0;have y1:=(uH G).a.c1;have y2:=(uH G).a.c2
 go_enter Tryz.func27,Tryz.ntmps27
 go_wp2_with fail
 clear y0 y1 y2
 go_loopw[4,5] (fun v a wr=>∃(j:Nat) (ro:Option Addr) (rc:Nat) (R:List Mr),j≤K∧a=.int .i64 j∧Hid (R.length=j)∧Hid (∀k,k<j→(bN R k).V=V k∧(bN R k).tau=Q k)∧Hid (∀k,k<j→o1 k=true∧o2 k=true)∧Hid (gS w wr r c n U ao (RJ j) ro rc v R)) (fun _ a _=>K-(intOf a).toNat)
 case atStart=>exact⟨0,ao,U,[],Nat.zero_le _,rfl,rfl,fun k hk=>absurd hk (Nat.not_lt_zero k),fun k hk=>absurd hk (Nat.not_lt_zero k),G⟩
 case round=>
  clear G
  obtain⟨j,ro,rc,R,cj,rfl,ax,bp,hO,T⟩:=hrel
  have y0:=(uH T).a.c0;have y1:=(uH T).a.c1;have y2:=(uH T).a.c2
  by_cases Y:j<K
  ·obtain⟨ck,cm⟩:=(uH HK j).1 Y
   have q0:=(uH T).rb.c0;have q1:=(uH T).rb.c1;have q2:=(uH T).rb.c2
   go_wp2_with fail
   clear y0 y1 y2 q0 q1 q2
   refine(uH K1 _ j _ _ Y (uH T).bits).mono ?_
   rintro e w1 ⟨bo,d,rfl,hx,D⟩
   have S1:=aa ((uH T).all D)
   have HX:=aa hx
   clear D T hx
   go_wp2_with fail
   refine(uH K2 _ j _ _ Y (uH HX)).mono ?_
   rintro e w2 ⟨rfl,D⟩
   have S2:=aa ((uH S1).all D)
   replace HX:=aa ((uH HX).below D)
   clear D S1
   cases h1:o1 j with
   |false=>
    clear HX
    have f:=(uH S2).res
    have r0:=f.c0;have r1:=f.c1;have r2:=f.c2;have r3:=f.c3;have r4:=f.c4;have r5:=f.c5;have r6:=f.c6
    have f0:=f.free 0;have f1:=f.free 1;have f2:=f.free 2;have f3:=f.free 3;have f4:=f.free 4;have f5:=f.free 5;have f6:=f.free 6
    have A:=f.put (.int .i64 0) (.int .i64 0) (.slice none 0 0) (.int .i64 0) (.int .i64 0) (.slice none 0 0) (.bool false)
    have z0:=A.c0;have z1:=A.c1;have z2:=A.c2;have z3:=A.c3;have z4:=A.c4;have z5:=A.c5;have z6:=A.c6
    have BP:=aa (cq (uH S2).bel (g:=w.heap.size+1) (by omega) (.int .i64 0) (.int .i64 0) (.slice none 0 0) (.int .i64 0) (.int .i64 0) (.slice none 0 0) (.bool false))
    have av:Hid (ok=false):=aa (by
     cases hk:ok with
     |false=>rfl
     |true=>exact absurd ((uH a1).1 hk) (fun q=>by have:=(q.1 j Y).1;rw[h1]at this;cases this))
    clear f A S2
    go_wp2_with fail
    exact bodyPost_ret (v:=.agg #[.int .i64 0,.int .i64 0,.slice none 0 0,.int .i64 0,.int .i64 0,.slice none 0 0,.bool false]) (by simp[results,Tryz.results27,go_sem,z0,z1,z2,z3,z4,z5,z6]) rfl ⟨.inr ⟨uH av,rfl⟩,uH BP⟩
   |true=>
    go_wp2_with fail
    cases h2:o2 j with
    |false=>
     refine(uH K4 _ j _ _ Y h2 (uH HX)).mono ?_
     rintro e w3 ⟨rfl,D⟩
     have S3:=aa (((uH S2).all D).all (ac w3 (.cells #[.slice none 0 0,.int .u64 0,.int .u64 0] 60)))
     clear D S2 HX
     have f:=(uH S3).res
     have r0:=f.c0;have r1:=f.c1;have r2:=f.c2;have r3:=f.c3;have r4:=f.c4;have r5:=f.c5;have r6:=f.c6
     have f0:=f.free 0;have f1:=f.free 1;have f2:=f.free 2;have f3:=f.free 3;have f4:=f.free 4;have f5:=f.free 5;have f6:=f.free 6
     have A:=f.put (.int .i64 0) (.int .i64 0) (.slice none 0 0) (.int .i64 0) (.int .i64 0) (.slice none 0 0) (.bool false)
     have z0:=A.c0;have z1:=A.c1;have z2:=A.c2;have z3:=A.c3;have z4:=A.c4;have z5:=A.c5;have z6:=A.c6
     have BP:=aa (cq (uH S3).bel (g:=w.heap.size+1) (by omega) (.int .i64 0) (.int .i64 0) (.slice none 0 0) (.int .i64 0) (.int .i64 0) (.slice none 0 0) (.bool false))
     have av:Hid (ok=false):=aa (by
      cases hk:ok with
      |false=>rfl
      |true=>exact absurd ((uH a1).1 hk) (fun q=>by have:=(q.1 j Y).2;rw[h2]at this;cases this))
     clear f A S3
     go_wp2_with fail
     exact bodyPost_ret (v:=.agg #[.int .i64 0,.int .i64 0,.slice none 0 0,.int .i64 0,.int .i64 0,.slice none 0 0,.bool false]) (by simp[results,Tryz.results27,go_sem,z0,z1,z2,z3,z4,z5,z6]) rfl ⟨.inr ⟨uH av,rfl⟩,uH BP⟩
    |true=>
     refine(uH K3 _ j _ _ Y h2 (uH HX)).mono ?_
     rintro e w3 ⟨H,L,rfl,hn,hv,D⟩
     have ba:=ac w3 (.cells #[.slice H (r-j) L,.int .u64 (Q j:Nat),.int .u64 (ae j:Nat)] 60)
     have HM:=aa (dK.new 60 w3 (.slice H (r-j) L) (.int .u64 (Q j:Nat)) (.int .u64 (ae j:Nat)))
     have HF:=aa (jg.new hn (fun k hk=>((uH S2).l.1.lt k hk).2))
     have S3:=aa (((uH S2).all D).all ba)
     have HV:=aa (hv.below ba)
     have a7:=aa (show w.heap.size+1+1+1≤w3.heap.size from Nat.lt_of_lt_of_le (uH S2).rb.lt D.size)
     clear D hn hv ba S2 HX
     have G5:=aa (fun y N O H L hp hv=>uH K5 y j N O H L Y hp hv)
     have G6:=aa (fun y N O hp=>uH K6 y j N O Y hp)
     have bx:=aa (uH LV j);have bz:=aa (uH LR (j+1))
     have HT:=aa (show Q j=Q j from rfl)
     generalize b3:Q j=tj at*
     generalize cv:ae j=bj at*
     generalize b4:V j=vj at*
     generalize cx:AP j=aj at*
     generalize b5:RJ (j+1)=nj at*
     generalize cy:RJ j=rj at*
     go_wp2_with fail
     refine ap (fun W=>gS w W r c n U ao rj ro rc _ R∧dK 60 W w3.heap.size (.slice H (r-j) L) (.int .u64 (tj:Nat)) (.int .u64 (bj:Nat))∧ab W H L (ar vj)) ⟨uH S3,uH HM,uH HV⟩ ?_
     clear S3 HM HV
     generalize w3.heap.size=gm at*
     rintro W ⟨st,sm,sv⟩
     have hd:=(Below.refl W.heap.size W).drew
     have G:=aa (st.all hd)
     have SM:=aa (sm.all hd)
     have SV:=aa (sv.below hd)
     clear st sm sv hd
     have q0:=(uH G).rb.c0;have q1:=(uH G).rb.c1;have q2:=(uH G).rb.c2
     have m0:=(uH SM).c0;have m1:=(uH SM).c1;have m2:=(uH SM).c2
     go_region_with (first
      |(go_at_call 42;refine(uH G5 _ _ _ _ _ (uH G).bits (uH SV)).mono ?_;rintro e w5 ⟨aI,a0,rfl,a2,D⟩;clear q0 q1 q2 m0 m1 m2;replace G:=aa ((uH G).all D);replace SM:=aa ((uH SM).all D);replace SV:=aa ((uH SV).below D);have m0:=(uH SM).c0;have m1:=(uH SM).c1;have m2:=(uH SM).c2;have bb:=aa a2;clear D a2 G5)
      |(go_at_call 41;refine(uH G6 _ _ _ (uH bb)).mono ?_;rintro e w6 ⟨a4,a5,rfl,bt,bv,D⟩;clear m0 m1 m2 bb;have bc:=jg.new bt (fun k hk=>((uH G).l.1.lt k hk).2);have S6:=(uH G).all D;have M6:=(uH SM).all D;have V6:=(uH SV).below D;have q0:=S6.rb.c0;have q1:=S6.rb.c1;have q2:=S6.rb.c2;have f0:=S6.rb.free 0;have f1:=S6.rb.free 1;have f2:=S6.rb.free 2;have P6:=aa (S6.put bv (uH bz) bc);have PM:=aa (((M6.other (p:=⟨w.heap.size+1+1,0,none⟩) (by have:=uH a7;show gm≠w.heap.size+1+1;omega) (.int .i64 r)).other (p:=⟨w.heap.size+1+1,1,none⟩) (by have:=uH a7;show gm≠w.heap.size+1+1;omega) (.int .i64 c)).other (p:=⟨w.heap.size+1+1,2,none⟩) (by have:=uH a7;show gm≠w.heap.size+1+1;omega) (.slice a4 n a5));have PV:=aa (V6.putM S6.rb (.int .i64 r) (.int .i64 c) (.slice a4 n a5));clear S6 M6 V6 D bt bv bc G SM SV G6)
      |fail "NO ARM")
     all_goals
      clear q0 q1 q2 f0 f1 f2
      refine wR (fun W=>gS w W r c n U ao nj a4 a5 _ R∧dK 60 W gm (.slice H (r-j) L) (.int .u64 (tj:Nat)) (.int .u64 (bj:Nat))∧ab W H L (ar vj)) ⟨uH P6,uH PM,uH PV⟩ ?_
      clear P6 PM PV
      rintro W2 ⟨st,sm,sv⟩
      obtain⟨v9,w9,a6,bq⟩:=st.push ⟨H,L,vj,tj,bj⟩ sv (uH HF) (by rw[uH ax];omega) 57
      have a3:=aa a6
      dsimp only at a3
      rw[uH bx]at a3
      have P9:=aa bq
      have m0:=sm.c0;have m1:=sm.c1;have m2:=sm.c2
      clear st sm sv a6 bq
      go_wp2_with(at_builtin;refine aX _ rfl _ _ 57 rfl _ _ _ _ rfl rfl (uH a3) ?_;clear a3)
      go_round
      case rel=>
       refine⟨j+1,a4,a5,R++[⟨H,L,vj,tj,bj⟩],by omega,by go_num,?_,?_,?_,by rw[b5];exact P9⟩
       ·show(R++[_]).length=j+1
        rw[List.length_append,uH ax];rfl
       ·show∀k,k<j+1→_
        intro k hk
        rw[wS R _ k (by rw[uH ax];exact hk)]
        by_cases g:k<R.length
        ·rw[if_pos g];exact uH bp k (by rw[←uH ax];exact g)
        ·rw[if_neg g,show k=j by have:=uH ax;omega,b4,b3];exact⟨rfl,rfl⟩
       ·show∀k,k<j+1→_
        intro k hk
        by_cases g:k<j
        ·exact uH hO k g
        ·rw[show k=j by omega];exact⟨h1,h2⟩
      case measure=>simp[intOf];omega
  ·have bA:j=K:=by omega
   subst bA
   have b9:¬((j:Int)<(c:Int)∧(j:Int)<(r:Int)-1):=fun q=>Nat.lt_irrefl j ((uH HK j).2 q)
   obtain⟨lo,lc,br⟩:=(uH T).l.slice
   rw[uH ax]at br
   subst br
   have G8:=K8
   rcases(show(c:Int)≤(j:Int)∨((j:Int)<(c:Int)∧(r:Int)-1≤(j:Int)) by omega)with g1|⟨g1,g2⟩
   all_goals
    go_wp2_with fail
    clear y0 y1 y2
    refine(uH K7 _).mono ?_
    rintro e w1 ⟨I,M,rfl,hq,D⟩
    have ba:=ac w1 (.cells #[.int .i64 r,.int .i64 r,.slice I nq M] 24)
    have HQ:=aa (au.new w1 (.int .i64 r) (.int .i64 r) (.slice I nq M))
    have S1:=aa (((uH T).all D).all ba)
    have HB:=aa (hq.below ba)
    have bE:=aa (show w.heap.size+1+1+1≤w1.heap.size from Nat.lt_of_lt_of_le (uH T).rb.lt D.size)
    clear D hq ba T
    have cc:IntKind.i64.wrap ((j:Int)-1)=(j:Int)-1:=aW _ (by omega)
    go_wp2_with fail
    generalize w1.heap.size=gq at*
    go_loopw[10] (fun a wr=>∃(t:Nat) (I:Option Addr) (M:Nat),t≤j∧a=.int .i64 ((j:Int)-1-(t:Int))∧Hid (gS w wr r c n U ao (RJ j) ro rc (.slice lo j lc) R∧au wr gq (.int .i64 r) (.int .i64 r) (.slice I nq M)∧ab wr I M (ar (QT t)))) (fun a _=>(intOf a+1).toNat)
    case atStart=>exact⟨0,I,M,Nat.zero_le _,by simp,aa ⟨uH S1,uH HQ,uH HB⟩⟩
    case round=>
     clear S1 HQ HB
     obtain⟨t,I,M,cp,rfl,T⟩:=hrel
     by_cases be:t<j
     ·obtain⟨m,hm⟩:∃m,j-1-t=m:=⟨_,rfl⟩
      have b0:(j:Int)-1-(t:Int)=(m:Int):=by omega
      rw[b0]
      have ce:(m:Int)<(j:Int):=by omega
      obtain⟨gl,cl,el,cs,ct,k0,k1,kb⟩:=(uH T).1.l.at (k:=m) (by rw[uH ax];omega)
      simp only[Value.slice.injEq]at el
      obtain⟨rfl,b2,rfl⟩:=el
      clear b2
      obtain⟨ev,et⟩:=uH bp m (by omega)
      rw[ev]at k0 kb
      rw[et]at k1
      rw[uH LV m]at k0
      have GQ:=aa (fun y N O H L hp hv=>uH G8 y t m N O H L be hm.symm hp hv)
      have KB:=aa kb
      have cf:=aa hm
      generalize (bN R m).ao=H at*
      generalize (bN R m).cap=L at*
      generalize Q m=tm at*
      generalize V m=vm at*
      generalize b6:QT (t+1)=nt at*
      clear kb ev et
      go_wp2_with fail
      refine ap (fun W=>(gS w W r c n U ao (RJ j) ro rc (.slice (some ⟨gl,0,none⟩) j lc) R∧au W gq (.int .i64 r) (.int .i64 r) (.slice I nq M)∧ab W I M (ar (QT t)))∧(W.cell? ⟨gl,m*3,none⟩=some (.slice H (r-m) L)∧W.cell? ⟨gl,m*3+1,none⟩=some (.int .u64 (tm:Nat)))∧ab W H L (ar vm)) ⟨uH T,⟨k0,k1⟩,uH KB⟩ ?_
      clear T k0 k1 KB
      rintro W ⟨⟨st,sq,sb⟩,⟨k0,k1⟩,kb⟩
      have hd:=(Below.refl W.heap.size W).drew
      have G:=aa (st.all hd);have Z:=aa (sq.all hd);have SB:=aa (sb.below hd);have KB:=aa (kb.below hd)
      replace k0:=ag k0 hd
      replace k1:=ag k1 hd
      clear st sq sb kb hd
      have q0:=(uH Z).c0;have q1:=(uH Z).c1;have q2:=(uH Z).c2
      refine wp_region_held_drew (S:=(fun y=>y.cell? ⟨gl,m*3,none⟩=some (.slice H (r-m) L)∧y.cell? ⟨gl,m*3+1,none⟩=some (.int .u64 (tm:Nat)))) (by kernel_rfl) ?_ (fun am=>?_)
      ·exact⟨k0,k1⟩
      refine wpAnyH_take (i:=1) (oi:={dst:=some 69,op:=Op.move (Operand.tmp 10),type:=3,pos:= "ref.go:44",after:=#[],guard:=none}) (v:=(Value.int .i64 (m:Int))) rfl (by kernel_rfl) (by kernel_rfl) (by kernel_rfl) (fun _ _ _ h=>h) (Or.inl ⟨by rfl,?_⟩) (by assumption) ?_
      ·(intro w F;(try dsimp only at F);go_simp)
      simp only[Act.put,List.setIfInBounds_toArray,List.set_cons_zero,List.set_cons_succ]
      refine wpAnyH_take (i:=2) (oi:={dst:=some 70,op:=Op.move (Operand.tmp 4),type:=57,pos:= "ref.go:44",after:=#[],guard:=none}) (v:=(Value.slice (some ⟨gl,0,none⟩) j lc)) rfl (by kernel_rfl) (by kernel_rfl) (by kernel_rfl) (fun _ _ _ h=>h) (Or.inl ⟨by rfl,?_⟩) (by assumption) ?_
      ·(intro w F;(try dsimp only at F);go_simp)
      simp only[Act.put,List.setIfInBounds_toArray,List.set_cons_zero,List.set_cons_succ]
      refine wpAnyH_take (i:=3) (oi:={dst:=some 71,op:=Op.move (Operand.tmp 10),type:=3,pos:= "ref.go:44",after:=#[],guard:=none}) (v:=(Value.int .i64 (m:Int))) rfl (by kernel_rfl) (by kernel_rfl) (by kernel_rfl) (fun _ _ _ h=>h) (Or.inl ⟨by rfl,?_⟩) (by assumption) ?_
      ·(intro w F;(try dsimp only at F);go_simp)
      simp only[Act.put,List.setIfInBounds_toArray,List.set_cons_zero,List.set_cons_succ]
      refine wpAnyH_take (i:=4) (oi:={dst:=some 72,op:=Op.indexAddr 57 (Operand.tmp 70) (Operand.tmp 71),type:=0,pos:= "ref.go:44",after:=#[{on:=2,ground:=Ground.data},{on:=3,ground:=Ground.data}],guard:=none}) (v:=(Value.pointer (some ⟨gl,m*3,none⟩))) rfl (by kernel_rfl) (by kernel_rfl) (by kernel_rfl) (fun _ _ _ h=>h) (Or.inl ⟨by rfl,?_⟩) (by assumption) ?_
      ·(intro w F;(try dsimp only at F);go_simp)
      simp only[Act.put,List.setIfInBounds_toArray,List.set_cons_zero,List.set_cons_succ]
      refine wpAnyH_take (i:=5) (oi:={dst:=some 73,op:=Op.fieldAddr 60 (Operand.tmp 72) 0,type:=0,pos:= "ref.go:44",after:=#[{on:=4,ground:=Ground.data}],guard:=none}) (v:=(Value.pointer (some ⟨gl,m*3,none⟩))) rfl (by kernel_rfl) (by kernel_rfl) (by kernel_rfl) (fun _ _ _ h=>h) (Or.inl ⟨by rfl,?_⟩) (by assumption) ?_
      ·(intro w F;(try dsimp only at F);go_simp)
      simp only[Act.put,List.setIfInBounds_toArray,List.set_cons_zero,List.set_cons_succ]
      refine wpAnyH_take (i:=6) (oi:={dst:=some 74,op:=Op.load 22 (Operand.tmp 73),type:=22,pos:= "ref.go:44",after:=#[{on:=5,ground:=Ground.data}],guard:=none}) (v:=(Value.slice H (r-m) L)) rfl (by kernel_rfl) (by kernel_rfl) (by kernel_rfl) (fun _ _ _ h=>h) (Or.inl ⟨by rfl,?_⟩) (by assumption) ?_
      ·(intro w F;(try dsimp only at F);go_simp)
      simp only[Act.put,List.setIfInBounds_toArray,List.set_cons_zero,List.set_cons_succ]
      refine wpAnyH_take (i:=7) (oi:={dst:=some 75,op:=Op.move (Operand.tmp 4),type:=57,pos:= "ref.go:44",after:=#[],guard:=none}) (v:=(Value.slice (some ⟨gl,0,none⟩) j lc)) rfl (by kernel_rfl) (by kernel_rfl) (by kernel_rfl) (fun _ _ _ h=>h) (Or.inl ⟨by rfl,?_⟩) (by assumption) ?_
      ·(intro w F;(try dsimp only at F);go_simp)
      simp only[Act.put,List.setIfInBounds_toArray,List.set_cons_zero,List.set_cons_succ]
      refine wpAnyH_take (i:=8) (oi:={dst:=some 76,op:=Op.move (Operand.tmp 10),type:=3,pos:= "ref.go:44",after:=#[],guard:=none}) (v:=(Value.int .i64 (m:Int))) rfl (by kernel_rfl) (by kernel_rfl) (by kernel_rfl) (fun _ _ _ h=>h) (Or.inl ⟨by rfl,?_⟩) (by assumption) ?_
      ·(intro w F;(try dsimp only at F);go_simp)
      simp only[Act.put,List.setIfInBounds_toArray,List.set_cons_zero,List.set_cons_succ]
      refine wpAnyH_take (i:=9) (oi:={dst:=some 77,op:=Op.indexAddr 57 (Operand.tmp 75) (Operand.tmp 76),type:=0,pos:= "ref.go:44",after:=#[{on:=7,ground:=Ground.data},{on:=8,ground:=Ground.data}],guard:=none}) (v:=(Value.pointer (some ⟨gl,m*3,none⟩))) rfl (by kernel_rfl) (by kernel_rfl) (by kernel_rfl) (fun _ _ _ h=>h) (Or.inl ⟨by rfl,?_⟩) (by assumption) ?_
      ·(intro w F;(try dsimp only at F);go_simp)
      simp only[Act.put,List.setIfInBounds_toArray,List.set_cons_zero,List.set_cons_succ]
      refine wpAnyH_take (i:=10) (oi:={dst:=some 78,op:=Op.fieldAddr 60 (Operand.tmp 77) 1,type:=0,pos:= "ref.go:44",after:=#[{on:=9,ground:=Ground.data}],guard:=none}) (v:=(Value.pointer (some ⟨gl,m*3+1,none⟩))) rfl (by kernel_rfl) (by kernel_rfl) (by kernel_rfl) (fun _ _ _ h=>h) (Or.inl ⟨by rfl,?_⟩) (by assumption) ?_
      ·(intro w F;(try dsimp only at F);go_simp)
      simp only[Act.put,List.setIfInBounds_toArray,List.set_cons_zero,List.set_cons_succ]
      refine wpAnyH_take (i:=11) (oi:={dst:=some 79,op:=Op.load 30 (Operand.tmp 78),type:=30,pos:= "ref.go:44",after:=#[{on:=10,ground:=Ground.data}],guard:=none}) (v:=(Value.int .u64 (tm:Int))) rfl (by kernel_rfl) (by kernel_rfl) (by kernel_rfl) (fun _ _ _ h=>h) (Or.inl ⟨by rfl,?_⟩) (by assumption) ?_
      ·(intro w F;(try dsimp only at F);go_simp)
      simp only[Act.put,List.setIfInBounds_toArray,List.set_cons_zero,List.set_cons_succ]
      refine wpAnyH_ready (rs:=[0]) (by kernel_rfl) (by simp) ?_
      refine AllReadyH.cons (o:={dst:=some 68,op:=Op.load 24 (Operand.tmp 9),type:=24,pos:= "ref.go:44",after:=#[],guard:=none}) rfl (fun K hK=>?_) AllReadyH.nil
      go_simp
      refine hK.out _ _ ?_ (fun am=>?_)
      ·exact⟨k0,k1⟩
      clear hK K
      refine wpAnyH_ready (rs:=[12]) (by kernel_rfl) (by simp) ?_
      refine AllReadyH.cons (o:={dst:=some 80,op:=Op.call {callee:=Callee.value (Operand.func 42),args:=#[Operand.tmp 68,Operand.tmp 69,Operand.const (Value.int IntKind.i64 0),Operand.tmp 74,Operand.tmp 79],argTypes:=#[24,3,3,22,30]},type:=24,pos:= "ref.go:44",after:=#[{on:=0,ground:=Ground.data},{on:=1,ground:=Ground.data},{on:=6,ground:=Ground.data},{on:=11,ground:=Ground.data}],guard:=none}) rfl (fun K hK=>?_) AllReadyH.nil
      go_simp
      refine(uH GQ _ _ _ _ _ (uH SB) (uH KB)).mono ?_
      rintro e w5 ⟨aI,a0,rfl,a2,D⟩
      clear q0 q1 q2
      have S5:=(uH G).all D
      have Q5:=(uH Z).all D
      replace k0:=ag k0 D
      replace k1:=ag k1 D
      have bi:=aa (And.intro k0 k1)
      have ha:=S5.l.apart Q5
      have bm:=aa (And.intro (show(((w5.setCell ⟨gq,0,none⟩ (.int .i64 r)).setCell ⟨gq,1,none⟩ (.int .i64 r)).setCell ⟨gq,2,none⟩ (.slice aI nq a0)).cell? ⟨gl,m*3,none⟩=some (.slice H (r-m) L) by rw[ak _ _ _ _ ha,ak _ _ _ _ ha,ak _ _ _ _ ha];exact k0) (show(((w5.setCell ⟨gq,0,none⟩ (.int .i64 r)).setCell ⟨gq,1,none⟩ (.int .i64 r)).setCell ⟨gq,2,none⟩ (.slice aI nq a0)).cell? ⟨gl,m*3+1,none⟩=some (.int .u64 (tm:Nat)) by rw[ak _ _ _ _ ha,ak _ _ _ _ ha,ak _ _ _ _ ha];exact k1))
      have q0:=Q5.c0;have q1:=Q5.c1;have q2:=Q5.c2
      have f0:=Q5.free 0;have f1:=Q5.free 1;have f2:=Q5.free 2
      have P5:=aa (S5.far Q5 (uH bE) (.int .i64 r) (.int .i64 r) (.slice aI nq a0))
      have PQ:=aa (Q5.put (.int .i64 r) (.int .i64 r) (.slice aI nq a0))
      have PB:=aa (a2.putM Q5 (.int .i64 r) (.int .i64 r) (.slice aI nq a0))
      clear D a2 S5 Q5 GQ G Z SB KB ha k0 k1
      go_wp2_with fail
      refine hK.out _ _ ?_ (fun am=>?_)
      ·exact uH bi
      clear hK K
      refine wpAnyH_ready (rs:=[13]) (by kernel_rfl) (by simp) ?_
      refine AllReadyH.cons (o:={dst:=none,op:=Op.store 24 (Operand.tmp 9) (Operand.tmp 80),type:=0,pos:= "ref.go:44",after:=#[{on:=12,ground:=Ground.data},{on:=12,ground:=Ground.chain},{on:=0,ground:=Ground.phase},{on:=1,ground:=Ground.phase},{on:=2,ground:=Ground.phase},{on:=3,ground:=Ground.phase},{on:=4,ground:=Ground.phase},{on:=5,ground:=Ground.phase},{on:=6,ground:=Ground.phase},{on:=7,ground:=Ground.phase},{on:=8,ground:=Ground.phase},{on:=9,ground:=Ground.phase},{on:=10,ground:=Ground.phase},{on:=11,ground:=Ground.phase},{on:=12,ground:=Ground.phase}],guard:=none}) rfl (fun K hK=>?_) AllReadyH.nil
      go_simp
      refine hK.out _ _ ?_ (fun am=>?_)
      ·exact uH bm
      clear hK K
      refine wpAnyH_done (by kernel_rfl) ?_ _
      clear q0 q1 q2 f0 f1 f2 bi bm
      have ci:IntKind.i64.wrap ((m:Int)-1)=(m:Int)-1:=aW _ (by omega)
      go_wp2_with fail
      go_round
      case rel=>exact⟨t+1,aI,a0,by omega,by rw[show(m:Int)-1=(j:Int)-1-((t+1:Nat):Int) by omega],by rw[b6];exact aa ⟨uH P5,uH PQ,uH PB⟩⟩
      case measure=>simp[intOf]<;>omega
     ·have b1:t=j:=by omega
      subst b1
      have hz:(t:Int)-1-(t:Int)= -1:=by omega
      rw[hz]
      have G:=aa (uH T).1;have Z:=aa (uH T).2.1;have SB:=aa (uH T).2.2
      clear T
      have q0:=(uH Z).c0;have q1:=(uH Z).c1;have q2:=(uH Z).c2
      go_wp2_with fail
      clear q0 q1 q2
      refine(uH K9 _ _ _ (uH SB)).mono ?_
      rintro e w2 ⟨rfl,D⟩
      replace G:=aa ((uH G).all D);replace Z:=aa ((uH Z).all D);replace SB:=aa ((uH SB).below D)
      clear D
      cases h1:fq with
      |false=>
       clear Z SB
       have f:=(uH G).res
       have r0:=f.c0;have r1:=f.c1;have r2:=f.c2;have r3:=f.c3;have r4:=f.c4;have r5:=f.c5;have r6:=f.c6
       have f0:=f.free 0;have f1:=f.free 1;have f2:=f.free 2;have f3:=f.free 3;have f4:=f.free 4;have f5:=f.free 5;have f6:=f.free 6
       have A:=f.put (.int .i64 0) (.int .i64 0) (.slice none 0 0) (.int .i64 0) (.int .i64 0) (.slice none 0 0) (.bool false)
       have z0:=A.c0;have z1:=A.c1;have z2:=A.c2;have z3:=A.c3;have z4:=A.c4;have z5:=A.c5;have z6:=A.c6
       have BP:=aa (cq (uH G).bel (g:=w.heap.size+1) (by omega) (.int .i64 0) (.int .i64 0) (.slice none 0 0) (.int .i64 0) (.int .i64 0) (.slice none 0 0) (.bool false))
       have av:Hid (ok=false):=aa (by
        cases hk:ok with
        |false=>rfl
        |true=>exact absurd ((uH a1).1 hk) (fun q=>by have:=q.2.1;rw[h1]at this;cases this))
       clear f A G
       go_wp2_with fail
       exact bodyPost_ret (v:=.agg #[.int .i64 0,.int .i64 0,.slice none 0 0,.int .i64 0,.int .i64 0,.slice none 0 0,.bool false]) (by simp[results,Tryz.results27,go_sem,z0,z1,z2,z3,z4,z5,z6]) rfl ⟨.inr ⟨uH av,rfl⟩,uH BP⟩
      |true=>
       have q0:=(uH G).rb.c0;have q1:=(uH G).rb.c1;have q2:=(uH G).rb.c2
       go_wp2_with fail
       clear q0 q1 q2
       refine(uH KA _ _ _ (uH G).bits).mono ?_
       rintro e w3 ⟨rfl,D⟩
       replace G:=aa ((uH G).all D);replace Z:=aa ((uH Z).all D);replace SB:=aa ((uH SB).below D)
       clear D
       cases h2:fr with
       |false=>
        clear Z SB
        have f:=(uH G).res
        have r0:=f.c0;have r1:=f.c1;have r2:=f.c2;have r3:=f.c3;have r4:=f.c4;have r5:=f.c5;have r6:=f.c6
        have f0:=f.free 0;have f1:=f.free 1;have f2:=f.free 2;have f3:=f.free 3;have f4:=f.free 4;have f5:=f.free 5;have f6:=f.free 6
        have A:=f.put (.int .i64 0) (.int .i64 0) (.slice none 0 0) (.int .i64 0) (.int .i64 0) (.slice none 0 0) (.bool false)
        have z0:=A.c0;have z1:=A.c1;have z2:=A.c2;have z3:=A.c3;have z4:=A.c4;have z5:=A.c5;have z6:=A.c6
        have BP:=aa (cq (uH G).bel (g:=w.heap.size+1) (by omega) (.int .i64 0) (.int .i64 0) (.slice none 0 0) (.int .i64 0) (.int .i64 0) (.slice none 0 0) (.bool false))
        have av:Hid (ok=false):=aa (by
         cases hk:ok with
         |false=>rfl
         |true=>exact absurd ((uH a1).1 hk) (fun q=>by have:=q.2.2;rw[h2]at this;cases this))
        clear f A G
        go_wp2_with fail
        exact bodyPost_ret (v:=.agg #[.int .i64 0,.int .i64 0,.slice none 0 0,.int .i64 0,.int .i64 0,.slice none 0 0,.bool false]) (by simp[results,Tryz.results27,go_sem,z0,z1,z2,z3,z4,z5,z6]) rfl ⟨.inr ⟨uH av,rfl⟩,uH BP⟩
       |true=>
        have bn:Hid (ok=true):=aa ((uH a1).2 ⟨uH hO,h1,h2⟩)
        have q0:=(uH Z).c0;have q1:=(uH Z).c1;have q2:=(uH Z).c2
        have p0:=(uH G).rb.c0;have p1:=(uH G).rb.c1;have p2:=(uH G).rb.c2
        have f:=(uH G).res
        have r0:=f.c0;have r1:=f.c1;have r2:=f.c2;have r3:=f.c3;have r4:=f.c4;have r5:=f.c5;have r6:=f.c6
        have f0:=f.free 0;have f1:=f.free 1;have f2:=f.free 2;have f3:=f.free 3;have f4:=f.free 4;have f5:=f.free 5;have f6:=f.free 6
        have A:=f.put (.int .i64 r) (.int .i64 r) (.slice I nq M) (.int .i64 r) (.int .i64 c) (.slice ro n rc) (.bool true)
        have z0:=A.c0;have z1:=A.c1;have z2:=A.c2;have z3:=A.c3;have z4:=A.c4;have z5:=A.c5;have z6:=A.c6
        have BP:=aa (cq (uH G).bel (g:=w.heap.size+1) (by omega) (.int .i64 r) (.int .i64 r) (.slice I nq M) (.int .i64 r) (.int .i64 c) (.slice ro n rc) (.bool true))
        have PQ:=aa (bg (uH SB) f (.int .i64 r) (.int .i64 r) (.slice I nq M) (.int .i64 r) (.int .i64 c) (.slice ro n rc) (.bool true))
        have PR:=aa (bg (uH G).bits f (.int .i64 r) (.int .i64 r) (.slice I nq M) (.int .i64 r) (.int .i64 c) (.slice ro n rc) (.bool true))
        clear f A G Z SB
        go_wp2_with fail
        exact bodyPost_ret (v:=.agg #[.int .i64 r,.int .i64 r,.slice I nq M,.int .i64 r,.int .i64 c,.slice ro n rc,.bool true]) (by simp[results,Tryz.results27,go_sem,z0,z1,z2,z3,z4,z5,z6]) rfl ⟨.inl ⟨uH bn,I,M,ro,rc,rfl,uH PQ,uH PR⟩,uH BP⟩
end Go.Proofs.YtenpggicmfhhdaaGreatDoor
