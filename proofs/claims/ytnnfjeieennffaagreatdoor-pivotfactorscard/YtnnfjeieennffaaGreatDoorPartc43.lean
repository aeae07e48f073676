/- Part 43 of the texts. -/
import Derived.Test.YtnnfjeieennffaaGreatDoorPartc42
set_option maxHeartbeats 32000000
set_option maxRecDepth 20000
namespace Go.Proofs.YtnnfjeieennffaaGreatDoor
open Go.RowKit
def cg(w:World)(g:Nat)(x0 x1 x2 x3 x4 x5 x6 x7:Value):Prop:=w.heap[g]? =some (.cells #[x0,x1,x2,x3,x4,x5,x6,x7] 34 (0,0))
theorem cg.c0{w:World}{g:Nat}{d f l m t z A D:Value}(h:cg w g d f l m t z A D):w.cell? ⟨g,0,none⟩=some d:=by rw[cell_of_row w g 0 _ _ _ h];rfl
theorem cg.c1{w:World}{g:Nat}{f d l m t z A D:Value}(h:cg w g f d l m t z A D):w.cell? ⟨g,1,none⟩=some d:=by rw[cell_of_row w g 1 _ _ _ h];rfl
theorem cg.c2{w:World}{g:Nat}{f l d m t z A D:Value}(h:cg w g f l d m t z A D):w.cell? ⟨g,2,none⟩=some d:=by rw[cell_of_row w g 2 _ _ _ h];rfl
theorem cg.c3{w:World}{g:Nat}{f l m d t z A D:Value}(h:cg w g f l m d t z A D):w.cell? ⟨g,3,none⟩=some d:=by rw[cell_of_row w g 3 _ _ _ h];rfl
theorem cg.c4{w:World}{g:Nat}{f l m t d z A D:Value}(h:cg w g f l m t d z A D):w.cell? ⟨g,4,none⟩=some d:=by rw[cell_of_row w g 4 _ _ _ h];rfl
theorem cg.c5{w:World}{g:Nat}{f l m t z d A D:Value}(h:cg w g f l m t z d A D):w.cell? ⟨g,5,none⟩=some d:=by rw[cell_of_row w g 5 _ _ _ h];rfl
theorem cg.c6{w:World}{g:Nat}{f l m t z A d D:Value}(h:cg w g f l m t z A d D):w.cell? ⟨g,6,none⟩=some d:=by rw[cell_of_row w g 6 _ _ _ h];rfl
theorem cg.c7{w:World}{g:Nat}{f l m t z A D d:Value}(h:cg w g f l m t z A D d):w.cell? ⟨g,7,none⟩=some d:=by rw[cell_of_row w g 7 _ _ _ h];rfl
theorem cg.free{w:World}{g:Nat}{d f l m t z A D:Value}(h:cg w g d f l m t z A D)(j:Nat):w.frozen? ⟨g,j,none⟩=false:=frozen_of_row w g j _ _ h
theorem cg.lt{w:World}{g:Nat}{d f l m t z A D:Value}(h:cg w g d f l m t z A D):g<w.heap.size:=(Array.getElem?_eq_some_iff.1 h).1
theorem cg.below{w w':World}{g:Nat}{f l m t z A D F:Value}(h:cg w g f l m t z A D F){B:Nat}(G:Below B w w')(d:g<B):cg w' g f l m t z A D F:=(G.block g d).trans h
theorem cg.all{w w':World}{g:Nat}{d f l m t z A D:Value}(h:cg w g d f l m t z A D)(F:Below w.heap.size w w'):cg w' g d f l m t z A D:=h.below F h.lt
theorem cg.new(w:World)(d f h l m t z A:Value):cg (w.alloc (.cells #[d,f,h,l,m,t,z,A] 34)) w.heap.size d f h l m t z A:=heap_alloc_new w _
theorem cg.other{w:World}{g:Nat}{d f l m t z A D:Value}(h:cg w g d f l m t z A D){p:Addr}(F:g≠p.block)(u:Value):cg (w.setCell p u) g d f l m t z A D:=(Below.heap_setCell w p u g F).trans h
theorem cg.put{w:World}{g:Nat}{d f l m t z A D:Value}(h:cg w g d f l m t z A D)(u0 u1 u2 u3 u4 u5 u6 u7:Value):cg ((((((((w.setCell ⟨g,0,none⟩ u0).setCell ⟨g,1,none⟩ u1).setCell ⟨g,2,none⟩ u2).setCell ⟨g,3,none⟩ u3).setCell ⟨g,4,none⟩ u4).setCell ⟨g,5,none⟩ u5).setCell ⟨g,6,none⟩ u6).setCell ⟨g,7,none⟩ u7) g u0 u1 u2 u3 u4 u5 u6 u7:=by
 have F:=heap_setCell_same w g 0 _ _ u0 h
 have G:=heap_setCell_same (w.setCell ⟨g,0,none⟩ u0) g 1 _ _ u1 F
 have H:=heap_setCell_same ((w.setCell ⟨g,0,none⟩ u0).setCell ⟨g,1,none⟩ u1) g 2 _ _ u2 G
 have K:=heap_setCell_same (((w.setCell ⟨g,0,none⟩ u0).setCell ⟨g,1,none⟩ u1).setCell ⟨g,2,none⟩ u2) g 3 _ _ u3 H
 have L:=heap_setCell_same ((((w.setCell ⟨g,0,none⟩ u0).setCell ⟨g,1,none⟩ u1).setCell ⟨g,2,none⟩ u2).setCell ⟨g,3,none⟩ u3) g 4 _ _ u4 K
 have M:=heap_setCell_same (((((w.setCell ⟨g,0,none⟩ u0).setCell ⟨g,1,none⟩ u1).setCell ⟨g,2,none⟩ u2).setCell ⟨g,3,none⟩ u3).setCell ⟨g,4,none⟩ u4) g 5 _ _ u5 L
 have N:=heap_setCell_same ((((((w.setCell ⟨g,0,none⟩ u0).setCell ⟨g,1,none⟩ u1).setCell ⟨g,2,none⟩ u2).setCell ⟨g,3,none⟩ u3).setCell ⟨g,4,none⟩ u4).setCell ⟨g,5,none⟩ u5) g 6 _ _ u6 M
 have O:=heap_setCell_same (((((((w.setCell ⟨g,0,none⟩ u0).setCell ⟨g,1,none⟩ u1).setCell ⟨g,2,none⟩ u2).setCell ⟨g,3,none⟩ u3).setCell ⟨g,4,none⟩ u4).setCell ⟨g,5,none⟩ u5).setCell ⟨g,6,none⟩ u6) g 7 _ _ u7 N
 unfold cg
 rw[O]
 simp
theorem e7{w w':World}{B g:Nat}(h:Below B w w')(d:B≤g)(u0 u1 u2 u3 u4 u5 u6 u7:Value):Below B w ((((((((w'.setCell ⟨g,0,none⟩ u0).setCell ⟨g,1,none⟩ u1).setCell ⟨g,2,none⟩ u2).setCell ⟨g,3,none⟩ u3).setCell ⟨g,4,none⟩ u4).setCell ⟨g,5,none⟩ u5).setCell ⟨g,6,none⟩ u6).setCell ⟨g,7,none⟩ u7):=
 ((((((((h.setCell d _).setCell d _).setCell d _).setCell d _).setCell d _).setCell d _).setCell d _).setCell d _)
theorem cg.away{w:World}{g:Nat}{a b m t:Int}{o A D:Option Addr}{n d F G H K:Nat}{f:Bool}(h:cg w g (.int .i64 a) (.int .i64 b) (.slice o n d) (.int .i64 m) (.int .i64 t) (.slice A F G) (.slice D H K) (.bool f)){k j:Nat}{z:Int}(l:w.cell? ⟨k,j,none⟩=some (.int .u64 z)):k≠g:=by
 rintro rfl
 rw[cell_of_row w k j _ _ _ h]at l
 match j with
 |0=>simp at l
 |1=>simp at l
 |2=>simp at l
 |3=>simp at l
 |4=>simp at l
 |5=>simp at l
 |6=>simp at l
 |7=>simp at l
 |j+8=>simp at l
theorem jv{w:World}{m:Option Addr}{c:Nat}{I:List Int}(h:ad w m c I){g:Nat}{a b t A:Int}{o D F:Option Addr}{n d G H K L:Nat}{f:Bool}(M:cg w g (.int .i64 a) (.int .i64 b) (.slice o n d) (.int .i64 t) (.int .i64 A) (.slice D G H) (.slice F K L) (.bool f))(u0 u1 u2 u3 u4 u5 u6 u7:Value):ad ((((((((w.setCell ⟨g,0,none⟩ u0).setCell ⟨g,1,none⟩ u1).setCell ⟨g,2,none⟩ u2).setCell ⟨g,3,none⟩ u3).setCell ⟨g,4,none⟩ u4).setCell ⟨g,5,none⟩ u5).setCell ⟨g,6,none⟩ u6).setCell ⟨g,7,none⟩ u7) m c I:=by
 have l:=Cy h (g:=g) (fun k j z N=>M.away N)
 exact((((((((h.other (p:=⟨g,0,none⟩) l _).other (p:=⟨g,1,none⟩) l _).other (p:=⟨g,2,none⟩) l _).other (p:=⟨g,3,none⟩) l _).other (p:=⟨g,4,none⟩) l _).other (p:=⟨g,5,none⟩) l _).other (p:=⟨g,6,none⟩) l _).other (p:=⟨g,7,none⟩) l _)
theorem bJ.other{d:Nat}{w:World}{v:Value}{L:List Nat}(h:bJ d w v L){g:Nat}(t:v.ownBlock≠some g)(j:Nat)(u:Value):bJ d (w.setCell ⟨g,j,none⟩ u) v L:=by
 refine⟨h.1,?_⟩
 rcases h.2 with e|⟨k,l,m,z,A,D,rest⟩
 ·exact .inl e
 ·have f:k≠g:=by
   rintro rfl
   rw[z]at t
   exact t rfl
  exact .inr ⟨k,l,m,z,A,(Below.heap_setCell _ ⟨g,j,none⟩ u k f).trans D,rest⟩
theorem bJ.offM{d:Nat}{w:World}{v:Value}{L:List Nat}(h:bJ d w v L){g:Nat}{x y z:Value}(f:aw w g x y z):v.ownBlock≠some g:=by
 intro e
 rcases h.2 with⟨l,_⟩|⟨k,m,t,A,F,D,rest⟩
 ·rw[l]at e;cases e
 ·rw[A]at e
  obtain rfl:k=g:=by simpa[Value.ownBlock]using e
  have e:=D.symm.trans f
  simp at e
theorem bJ.offU{d:Nat}{w:World}{v:Value}{L:List Nat}(h:bJ d w v L){g:Nat}{f l m t z A D F:Value}(G:cg w g f l m t z A D F):v.ownBlock≠some g:=by
 intro e
 rcases h.2 with⟨H,_⟩|⟨k,K,M,N,Q,O,rest⟩
 ·rw[H]at e;cases e
 ·rw[N]at e
  obtain rfl:k=g:=by simpa[Value.ownBlock]using e
  have e:=O.symm.trans G
  simp at e
theorem bJ.putM{d:Nat}{w:World}{v:Value}{L:List Nat}(h:bJ d w v L){g:Nat}{x y z:Value}(f:aw w g x y z)(u u' u'':Value):bJ d (((w.setCell ⟨g,0,none⟩ u).setCell ⟨g,1,none⟩ u').setCell ⟨g,2,none⟩ u'') v L:=
 ((h.other (h.offM f) 0 u).other (h.offM f) 1 u').other (h.offM f) 2 u''
theorem bJ.putU{d:Nat}{w:World}{v:Value}{L:List Nat}(h:bJ d w v L){g:Nat}{l m t z A D F G:Value}(f:cg w g l m t z A D F G)(u0 u1 u2 u3 u4 u5 u6 u7:Value):bJ d ((((((((w.setCell ⟨g,0,none⟩ u0).setCell ⟨g,1,none⟩ u1).setCell ⟨g,2,none⟩ u2).setCell ⟨g,3,none⟩ u3).setCell ⟨g,4,none⟩ u4).setCell ⟨g,5,none⟩ u5).setCell ⟨g,6,none⟩ u6).setCell ⟨g,7,none⟩ u7) v L:=
 ((((((((h.other (h.offU f) 0 u0).other (h.offU f) 1 u1).other (h.offU f) 2 u2).other (h.offU f) 3 u3).other (h.offU f) 4 u4).other (h.offU f) 5 u5).other (h.offU f) 6 u6).other (h.offU f) 7 u7)
theorem bJ.least{f d:Nat}{w:World}{v:Value}{L:List Nat}(h:bJ f w v L)(z:d≤f):bJ d w v L:=by
 refine⟨h.1,?_⟩
 rcases h.2 with e|⟨k,l,m,t,A,rest⟩
 ·exact .inl e
 ·exact .inr ⟨k,l,m,t,by omega,rest⟩
theorem bJ.grown{d:Nat}{w w':World}{v:Value}{L:List Nat}(h:bJ d w v L){row:Option Nat}(f:w.grownBy w' row)(l:v.ownBlock=none∨v.ownBlock≠row):bJ d w' v L:=h.kept f l
theorem Dc{f b:Nat}{w:World}{v u:Value}{R:List Mr}{L:List Nat}(h:dr f w v R)(F:bJ b w u L):BU v u:=by
 intro g l d
 rcases h.1.2 with⟨e,_⟩|⟨k,G,H,K,Q,M,rest⟩
 ·rw[e]at l;cases l
 ·rcases F.2 with⟨e,_⟩|⟨N,A,D,m,O,t,z⟩
  ·rw[e]at d;cases d
  ·rw[K]at l
   rw[m]at d
   obtain rfl:k=g:=by simpa[Value.ownBlock]using l
   obtain rfl:N=k:=by simpa[Value.ownBlock]using d
   have e:=M.symm.trans t
   simp at e
structure fI (w wr:World) (r c n cap:Nat) (ao:Option Addr) (S:List Nat) (ro:Option Addr) (rc:Nat) (v:Value) (R:List Mr):Prop where
 bel:Below w.heap.size w wr
 a:aw wr w.heap.size (.int .i64 r) (.int .i64 c) (.slice ao n cap)
 res:cg wr (w.heap.size+1) (.int .i64 0) (.int .i64 0) (.slice none 0 0) (.int .i64 0) (.int .i64 0) (.slice none 0 0) (.slice none 0 0) (.bool false)
 rb:aw wr (w.heap.size+1+1) (.int .i64 r) (.int .i64 c) (.slice ro n rc)
 bits:ad wr ro rc (az S)
 len:S.length=n
 l:dr (w.heap.size+1+1+1) wr v R
theorem fI.all{w wr w':World}{r c n f:Nat}{m:Option Addr}{S:List Nat}{t:Option Addr}{z:Nat}{v:Value}{R:List Mr}(h:fI w wr r c n f m S t z v R)(d:Below wr.heap.size wr w'):fI w w' r c n f m S t z v R:=
 ⟨h.bel.trans (d.mono h.bel.size),h.a.all d,h.res.all d,h.rb.all d,h.bits.below d,h.len,h.l.below d⟩
theorem fI.put{w wr:World}{r c n d:Nat}{A:Option Addr}{S:List Nat}{D:Option Addr}{F:Nat}{v:Value}{R:List Mr}(h:fI w wr r c n d A S D F v R){U:List Nat}{f:Option Addr}{m:Nat}(G:ad wr f m (az U))(H:U.length=n):
  fI w (((wr.setCell ⟨w.heap.size+1+1,0,none⟩ (.int .i64 r)).setCell ⟨w.heap.size+1+1,1,none⟩ (.int .i64 c)).setCell ⟨w.heap.size+1+1,2,none⟩ (.slice f n m)) r c n d A U f m v R:=by
 have t:w.heap.size≠w.heap.size+1+1:=by omega
 have z:w.heap.size+1≠w.heap.size+1+1:=by omega
 exact⟨aA h.bel (by omega) _ _ _,((h.a.other (p:=⟨w.heap.size+1+1,0,none⟩) t _).other (p:=⟨w.heap.size+1+1,1,none⟩) t _).other (p:=⟨w.heap.size+1+1,2,none⟩) t _,((h.res.other (p:=⟨w.heap.size+1+1,0,none⟩) z _).other (p:=⟨w.heap.size+1+1,1,none⟩) z _).other (p:=⟨w.heap.size+1+1,2,none⟩) z _,h.rb.put _ _ _,G.putM h.rb _ _ _,H,h.l.putM h.rb (by omega) _ _ _⟩
theorem fI.push{w wr:World}{r c n d:Nat}{A:Option Addr}{S:List Nat}{t:Option Addr}{D:Nat}{v:Value}{R:List Mr}(h:fI w wr r c n d A S t D v R)(M:ie v.ownBlock t (az S))(x:Mr)(N:ad wr x.ao x.cap (az x.V))(O:ie v.ownBlock x.ao (az x.V))(Q:R.length≤1000000){b:Nat}{u:Value}{L:List Nat}(F:bJ b wr u L)(G:TypeId):
  ∃f w',(Builtin.append_ #[70,70] G #[v,.slice (some ⟨wr.heap.size,0,none⟩) 1 1]).run Tryz.prog (wr.alloc (.cells #[.slice x.ao x.V.length x.cap,.int .u64 (x.tau:Nat),.int .u64 (x.beta:Nat)] 74))=.ok f w'∧fI w w' r c n d A S t D f (R++[x])∧bJ b w' u L:=by
 have U:w.heap.size+1+1+1≤wr.heap.size:=h.rb.lt
 obtain⟨f,w',X,Y,m,K,Z⟩:=h.l.push x N (by
  rcases O with e|e
  ·exact .inl (by cases hV:x.V with
    |nil=>rfl
    |cons y ys=>rw[hV]at e;cases e)
  ·exact .inr e) Q U G
 have H:=ac wr (.cells #[.slice x.ao x.V.length x.cap,.int .u64 (x.tau:Nat),.int .u64 (x.beta:Nat)] 74)
 have z:=Dc h.l F
 refine⟨f,w',X,⟨h.bel.trans (m.mono (by omega)),h.a.below m (by omega),h.res.below m (by omega),h.rb.below m (by omega),dO (h.bits.below H) M K,h.len,Y⟩,(F.below H).grown K ?_⟩
 cases hv:u.ownBlock with
 |none=>exact .inl rfl
 |some k=>
  right
  intro e
  exact z k e.symm hv
theorem fI.boxes(w:World)(r c n d:Nat)(f:Option Addr)(w':World)(N:Below (w.heap.size+1+1+1) (((w.alloc (.cells #[.int .i64 r,.int .i64 c,.slice f n d] 24)).alloc (.cells #[.int .i64 0,.int .i64 0,.slice none 0 0,.int .i64 0,.int .i64 0,.slice none 0 0,.slice none 0 0,.bool false] 34)).alloc (.cells #[.int .i64 r,.int .i64 c,.slice f n d] 24)) w'):
  Below w.heap.size w w'∧aw w' w.heap.size (.int .i64 r) (.int .i64 c) (.slice f n d)∧cg w' (w.heap.size+1) (.int .i64 0) (.int .i64 0) (.slice none 0 0) (.int .i64 0) (.int .i64 0) (.slice none 0 0) (.slice none 0 0) (.bool false)∧aw w' (w.heap.size+1+1) (.int .i64 r) (.int .i64 c) (.slice f n d):=by
 have D:=ac w (.cells #[.int .i64 r,.int .i64 c,.slice f n d] 24)
 have O:=an w (.cells #[.int .i64 r,.int .i64 c,.slice f n d] 24)
 have Q:=aw.new w (.int .i64 r) (.int .i64 c) (.slice f n d)
 generalize w.alloc (.cells #[.int .i64 r,.int .i64 c,.slice f n d] 24)=t at*
 have F:=ac t (.cells #[.int .i64 0,.int .i64 0,.slice none 0 0,.int .i64 0,.int .i64 0,.slice none 0 0,.slice none 0 0,.bool false] 34)
 have G:=an t (.cells #[.int .i64 0,.int .i64 0,.slice none 0 0,.int .i64 0,.int .i64 0,.slice none 0 0,.slice none 0 0,.bool false] 34)
 have H:=cg.new t (.int .i64 0) (.int .i64 0) (.slice none 0 0) (.int .i64 0) (.int .i64 0) (.slice none 0 0) (.slice none 0 0) (.bool false)
 generalize t.alloc (.cells #[.int .i64 0,.int .i64 0,.slice none 0 0,.int .i64 0,.int .i64 0,.slice none 0 0,.slice none 0 0,.bool false] 34)=z at*
 have A:=ac z (.cells #[.int .i64 r,.int .i64 c,.slice f n d] 24)
 have K:=an z (.cells #[.int .i64 r,.int .i64 c,.slice f n d] 24)
 have L:=aw.new z (.int .i64 r) (.int .i64 c) (.slice f n d)
 generalize z.alloc (.cells #[.int .i64 r,.int .i64 c,.slice f n d] 24)=M at*
 rw[O]at H G
 rw[G]at L K
 have h:Below M.heap.size M w':=by rw[K];exact N
 have l:=D.trans (F.mono D.size)
 have m:=l.trans (A.mono l.size)
 exact⟨m.trans (h.mono m.size),((Q.all F).all A).all h,(H.all A).all h,L.all h⟩
theorem fI.start{w f:World}{r c n d:Nat}{h:Option Addr}{S:List Nat}(l:Below w.heap.size w f)(a:aw f w.heap.size (.int .i64 r) (.int .i64 c) (.slice h n d))(z:cg f (w.heap.size+1) (.int .i64 0) (.int .i64 0) (.slice none 0 0) (.int .i64 0) (.int .i64 0) (.slice none 0 0) (.slice none 0 0) (.bool false))(D:aw f (w.heap.size+1+1) (.int .i64 r) (.int .i64 c) (.slice h n d))(m:ad f h d (az S))(A:S.length=n):
  fI w (f.alloc (.cells #[] 74)) r c n d h S h d (.slice (some ⟨f.heap.size,0,none⟩) 0 0) []:=by
 have t:=ac f (.cells #[] 74)
 exact⟨l.trans (t.mono l.size),a.all t,z.all t,D.all t,m.below t,A,dr.start f (w.heap.size+1+1+1) D.lt⟩
theorem fI.far{w wr:World}{r c n f:Nat}{D:Option Addr}{S:List Nat}{F:Option Addr}{G:Nat}{v:Value}{R:List Mr}(h:fI w wr r c n f D S F G v R){g:Nat}{x y:Int}{o:Option Addr}{m d:Nat}(H:aw wr g (.int .i64 x) (.int .i64 y) (.slice o m d))(K:w.heap.size+1+1+1≤g)(u u' u'':Value):
  fI w (((wr.setCell ⟨g,0,none⟩ u).setCell ⟨g,1,none⟩ u').setCell ⟨g,2,none⟩ u'') r c n f D S F G v R:=by
 have t:w.heap.size≠g:=by omega
 have z:w.heap.size+1≠g:=by omega
 have A:w.heap.size+1+1≠g:=by omega
 exact⟨aA h.bel (by omega) _ _ _,((h.a.other (p:=⟨g,0,none⟩) t _).other (p:=⟨g,1,none⟩) t _).other (p:=⟨g,2,none⟩) t _,((h.res.other (p:=⟨g,0,none⟩) z _).other (p:=⟨g,1,none⟩) z _).other (p:=⟨g,2,none⟩) z _,((h.rb.other (p:=⟨g,0,none⟩) A _).other (p:=⟨g,1,none⟩) A _).other (p:=⟨g,2,none⟩) A _,h.bits.putM H _ _ _,h.len,h.l.putQ H _ _ _⟩
def Dd(w':World)(ok:Bool)(r c nq n:Nat)(Q R P:List Nat)(e:Ending):Prop:=
 (ok=true∧∃qo qc ro rc po pc,e=.returned (.agg #[.int .i64 r,.int .i64 r,.slice qo nq qc,.int .i64 r,.int .i64 c,.slice ro n rc,.slice po c pc,.bool true])∧ad w' qo qc (az Q)∧ad w' ro rc (az R)∧bJ 0 w' (.slice po c pc) P)∨
 (ok=false∧e=.returned (.agg #[.int .i64 0,.int .i64 0,.slice none 0 0,.int .i64 0,.int .i64 0,.slice none 0 0,.slice none 0 0,.bool false]))
attribute [local go_sem ↓] Go.wp_at_zero Go.wp_at_succ
theorem dr.slice{d:Nat}{w:World}{v:Value}{R:List Mr}(h:dr d w v R):∃lo f,v=.slice lo R.length f:=by
 rcases h.1.2 with⟨l,m⟩|⟨g,t,z,A,_⟩
 ·exact⟨none,0,by rw[l,m]⟩
 ·exact⟨_,_,A⟩
theorem zl(R:List Mr)(x:Mr):∀k,k<R.length+1→bO (R++[x]) k=if k<R.length then bO R k else x:=by
 intro k d
 unfold bO
 by_cases g:k<R.length
 ·rw[if_pos g,List.getElem?_append_left g]
 ·rw[if_neg g,show k=R.length by omega,List.getElem?_append_right (Nat.le_refl _)]
  simp
theorem oN{P:Program}{c:Code}{Q:Exit→Act→World→Prop}{a:Act}{w:World}{T:Type}(f:Act→T→Act)(J:T→World→Prop)(h:Code.wp P c (Exit.then (fun d w'=>∃t:T,d=f a t∧J t w') (fun _ _ _=>False)) a w)(k:∀t w',J t w'→Q .normal (f a t) w'):Code.wp P c Q a w:=
 Code.wp_mono (fun e d w' h=>by
  cases e<;>first
   |(obtain⟨t,l,m⟩:=h
     rw[l]
     exact k t w' m)
   |exact h.elim) h
theorem vT(r c n nq ax K:Nat)(ao:Option Addr)(RJ WJ AP X V QT PJ SJ:Nat→List Nat)(a1 a2 A:Nat→Nat)(gf o2:Nat→Bool)(fq fr ok am:Bool)(RF PF:List Nat)(w:World)(hr:r≤6)(hc:c≤6)(L:∀j:Nat,j<K↔((j:Int)<(c:Int)∧(j:Int)<(r:Int)-1))
  (h0:ad w ao ax (az (RJ 0))) (lR:∀j,(RJ j).length=n) (lW:∀j,(WJ j).length=n) (lV:∀j,(V j).length=r-j) (b0:PJ 0=List.range c)
  (hl:am=true↔(K<c∧K<r)) (b1:am=true→RF=WJ K∧PF=PJ (K+1)) (b2:am=false→RF=RJ K∧PF=PJ K)
  (b3:ok=true↔((∀j,j<K→gf j=true∧o2 j=true)∧(am=true→gf K=true)∧fq=true∧fr=true))
  (CF:∀w',Calls Tryz.prog 35 #[.int .i64 c] w' fun e H=>∃lo lc,e=.returned (.slice lo c lc)∧bJ 0 H (.slice lo c lc) (List.range c)∧Below w'.heap.size w' H)
  (CG:∀w' j N O,j<c→j<r→ad w' N O (az (RJ j))→Calls Tryz.prog 36 #[.agg #[.int .i64 r,.int .i64 c,.slice N n O],.int .i64 (j:Nat)] w' fun e H=>e=.returned (.int .i64 (if gf j=true then(A j:Int)else-1))∧Below w'.heap.size w' H)
  (CS:∀w' j N O,j<c→bJ 0 w' (.slice N c O) (List.range c)→Calls Tryz.prog 37 #[.slice N c O,.int .i64 (j:Nat),.int .i64 (A j:Nat)] w' fun e H=>∃Q U,e=.returned (.slice Q c U)∧bJ 0 H (.slice Q c U) (SJ j)∧Below w'.heap.size w' H)
  (CP:∀w' j N O,j<c→bJ 0 w' (.slice N c O) (PJ j)→Calls Tryz.prog 37 #[.slice N c O,.int .i64 (j:Nat),.int .i64 (A j:Nat)] w' fun e H=>∃Q U,e=.returned (.slice Q c U)∧bJ 0 H (.slice Q c U) (PJ (j+1))∧Below w'.heap.size w' H)
  (CC:∀w' j N O Q U,j<c→j<r→ad w' N O (az (RJ j))→bJ 0 w' (.slice Q c U) (SJ j)→Calls Tryz.prog 19 #[.agg #[.int .i64 r,.int .i64 c,.slice N n O],.slice Q c U] w' fun e H=>∃no nc,e=.returned (.agg #[.int .i64 r,.int .i64 c,.slice no n nc])∧ad H no nc (az (WJ j))∧Below w'.heap.size w' H)
  (C1:∀w' j N O,j<K→ad w' N O (az (WJ j))→Calls Tryz.prog 39 #[.agg #[.int .i64 r,.int .i64 c,.slice N n O],.int .i64 (j:Nat),.int .i64 (j:Nat)] w' fun e H=>∃bo d,e=.returned (.slice bo (r-j) d)∧ad H bo d (az (X j))∧Below w'.heap.size w' H)
  (C3:∀w' j bo d,j<K→o2 j=true→ad w' bo d (az (X j))→Calls Tryz.prog 38 #[.slice bo (r-j) d] w' fun e H=>∃vo vc,e=.returned (.tuple #[.agg #[.slice vo (r-j) vc,.int .u64 (a1 j:Nat),.int .u64 (a2 j:Nat)],.bool true])∧bD w'.heap.size vo (az (V j))∧ad H vo vc (az (V j))∧Below w'.heap.size w' H)
  (C4:∀w' j bo d,j<K→o2 j=false→ad w' bo d (az (X j))→Calls Tryz.prog 38 #[.slice bo (r-j) d] w' fun e H=>e=.returned (.tuple #[.agg #[.slice none 0 0,.int .u64 0,.int .u64 0],.bool false])∧Below w'.heap.size w' H)
  (C5:∀w' j N O vo vc,j<K→ad w' N O (az (WJ j))→ad w' vo vc (az (V j))→Calls Tryz.prog 41 #[.agg #[.int .i64 r,.int .i64 c,.slice N n O],.int .i64 (j:Nat),.int .i64 (j:Nat),.slice vo (r-j) vc,.int .u64 (a1 j:Nat)] w' fun e H=>∃Q U,e=.returned (.agg #[.int .i64 r,.int .i64 c,.slice Q n U])∧ad H Q U (az (AP j))∧Below w'.heap.size w' H)
  (C6:∀w' j N O,j<K→ad w' N O (az (AP j))→Calls Tryz.prog 40 #[.agg #[.int .i64 r,.int .i64 c,.slice N n O],.int .i64 (j:Nat),.int .u64 (a2 j:Nat)] w' fun e H=>∃Q U,e=.returned (.agg #[.int .i64 r,.int .i64 c,.slice Q n U])∧bD w'.heap.size Q (az (RJ (j+1)))∧ad H Q U (az (RJ (j+1)))∧Below w'.heap.size w' H)
  (C7:∀w',Calls Tryz.prog 42 #[.int .i64 r] w' fun e H=>∃Q U,e=.returned (.agg #[.int .i64 r,.int .i64 r,.slice Q nq U])∧ad H Q U (az (QT 0))∧Below w'.heap.size w' H)
  (C8:∀w' t j N O vo vc,t<K→j=K-1-t→ad w' N O (az (QT t))→ad w' vo vc (az (V j))→Calls Tryz.prog 41 #[.agg #[.int .i64 r,.int .i64 r,.slice N nq O],.int .i64 (j:Nat),.int .i64 0,.slice vo (r-j) vc,.int .u64 (a1 j:Nat)] w' fun e H=>∃Q U,e=.returned (.agg #[.int .i64 r,.int .i64 r,.slice Q nq U])∧ad H Q U (az (QT (t+1)))∧Below w'.heap.size w' H)
  (C9:∀w' N O,ad w' N O (az (QT K))→Calls Tryz.prog 34 #[.slice N nq O] w' fun e H=>e=.returned (.bool fq)∧Below w'.heap.size w' H)
  (CA:∀w' N O,ad w' N O (az RF)→Calls Tryz.prog 34 #[.slice N n O] w' fun e H=>e=.returned (.bool fr)∧Below w'.heap.size w' H):
  Calls Tryz.prog 11 #[.agg #[.int .i64 r,.int .i64 c,.slice ao n ax]] w fun e w'=>Dd w' ok r c nq n (QT K) RF PF e∧Below w.heap.size w w':=by
 have HB:=aa (fI.boxes w r c n ax ao)
 have HK:=aa L;have LR:=aa lR;have LW:=aa lW;have LV:=aa lV;have bb:=aa b3;have HL:=aa hl;have cv:=aa b1;have cx:=aa b2;have cy:=aa b0;have H0:=aa h0
 have KF:=aa CF;have KG:=aa CG;have KS:=aa CS;have KP:=aa CP;have KC:=aa CC
 have K1:=aa C1;have K3:=aa C3;have K4:=aa C4;have K5:=aa C5;have K6:=aa C6;have K7:=aa C7;have K8:=aa C8;have K9:=aa C9;have KA:=aa CA
 have ek:K≤5:=by
  rcases Nat.lt_or_ge 5 K with g|g
  ·have:=((L 5).1 g).2
   omega
  ·exact g
 have em:IntKind.i64.wrap ((r:Int)-1)=(r:Int)-1:=aR _ (by omega)
 clear L lR lW lV b3 CF CG CS CP CC C1 C3 C4 C5 C6 C7 C8 C9 CA h0 hl b1 b2 b0
 have B0:=(uH HB _ (Below.refl _ _))
 have y1:=B0.2.1.c1
 have b4:=aa B0
 clear B0 HB
 go_enter Tryz.func11,Tryz.ntmps11
 go_wp2_with fail
 clear y1
 refine(uH KF _).mono ?_
 rintro e w0 ⟨lo,lc,rfl,hp,F⟩
 obtain⟨e1,e2,e3,e4⟩:=uH b4
 have ba:=ac w0 (.cells #[] 74)
 have G:=aa (fI.start (S:=RJ 0) (e1.trans (F.mono e1.size)) (e2.all F) (e3.all F) (e4.all F) ((uH H0).below (e1.trans (F.mono e1.size))) (uH LR 0))
 have HP:=aa (show bJ 0 _ (.slice lo c lc) (PJ 0)from by rw[uH cy];exact hp.below ba)
 clear e1 e2 e3 e4 b4 F hp ba H0
 go_wp2_with fail
 go_loopw[4,5,6] (fun p v a wr=>∃(j:Nat) (ro:Option Addr) (rc:Nat) (R:List Mr) (lo:Option Addr) (lc:Nat),j≤K∧p=.slice lo c lc∧a=.int .i64 j∧Hid (R.length=j)∧Hid (∀k,k<j→(bO R k).V=V k∧(bO R k).tau=a1 k)∧Hid (∀k,k<j→gf k=true∧o2 k=true)∧Hid (bJ 0 wr (.slice lo c lc) (PJ j))∧Hid (fI w wr r c n ax ao (RJ j) ro rc v R)) (fun _ _ a _=>K-(intOf a).toNat)
 case atStart=>exact⟨0,ao,ax,[],lo,lc,Nat.zero_le _,rfl,rfl,rfl,fun k hk=>absurd hk (Nat.not_lt_zero k),fun k hk=>absurd hk (Nat.not_lt_zero k),HP,G⟩
 case round=>
  clear G HP
  obtain⟨j,ro,rc,R,lo,lc,ey,rfl,rfl,a4,cf,hO,hP,hS⟩:=hrel
  have y0:=(uH hS).a.c0;have y1:=(uH hS).a.c1;have y2:=(uH hS).a.c2
  have hw:(j<c∧j<r)∨((c:Int)≤(j:Int)∨((j:Int)<(c:Int)∧(r:Int)≤(j:Int))):=by omega
  rcases hw with⟨bi,bA⟩|d0
  case' inl=>
   have ec:(j:Int)<(c:Int):=by omega
   have ed:(j:Int)<(r:Int):=by omega
   have Z:=(uH hS).rb.c0;have q1:=(uH hS).rb.c1;have q2:=(uH hS).rb.c2
   go_wp2_with fail
   clear y0 y1 y2 Z q1 q2
   refine(uH KG _ j _ _ bi bA (uH hS).bits).mono ?_
   rintro e w1 ⟨rfl,F⟩
   replace hS:=aa ((uH hS).all F)
   replace hP:=aa ((uH hP).below F)
   clear F
   have cz:gf j=false∨gf j=true:=by cases gf j<;>simp
   rcases cz with hg|hg
   ·rw[hg,if_neg (by decide)]
    clear hP
    have cA:=aa (fun(q:(∀j,j<K→gf j=true∧o2 j=true)∧(am=true→gf K=true)∧fq=true∧fr=true)=>(show False from by
     rcases Nat.lt_or_ge j K with g|g
     ·have:=(q.1 j g).1;rw[hg]at this;cases this
     ·have hx:=q.2.1 ((uH HL).2 (by omega));rw[show K=j by omega,hg]at hx;cases hx))
    have f:=(uH hS).res
    have r0:=f.c0;have r1:=f.c1;have r2:=f.c2;have r3:=f.c3;have r4:=f.c4;have r5:=f.c5;have r6:=f.c6;have r7:=f.c7
    have f0:=f.free 0;have f1:=f.free 1;have f2:=f.free 2;have f3:=f.free 3;have f4:=f.free 4;have f5:=f.free 5;have f6:=f.free 6;have f7:=f.free 7
    have M:=f.put (.int .i64 0) (.int .i64 0) (.slice none 0 0) (.int .i64 0) (.int .i64 0) (.slice none 0 0) (.slice none 0 0) (.bool false)
    have z0:=M.c0;have z1:=M.c1;have z2:=M.c2;have z3:=M.c3;have z4:=M.c4;have z5:=M.c5;have z6:=M.c6;have z7:=M.c7
    have BP:=aa (e7 (uH hS).bel (g:=w.heap.size+1) (by omega) (.int .i64 0) (.int .i64 0) (.slice none 0 0) (.int .i64 0) (.int .i64 0) (.slice none 0 0) (.slice none 0 0) (.bool false))
    have a3:Hid (ok=false):=aa (by
     cases hk:ok with
     |false=>rfl
     |true=>exact absurd ((uH bb).1 hk) (fun q=>by exact uH cA q))
    clear f M hS
    go_wp2_with fail
    exact bodyPost_ret (v:=.agg #[.int .i64 0,.int .i64 0,.slice none 0 0,.int .i64 0,.int .i64 0,.slice none 0 0,.slice none 0 0,.bool false]) (by simp[results,Tryz.results11,go_sem,z0,z1,z2,z3,z4,z5,z6,z7]) rfl ⟨.inr ⟨uH a3,rfl⟩,uH BP⟩
   rw[hg,if_pos (Eq.refl true)]
   have en:¬((A j:Nat):Int)<0:=by omega
   have GS:=aa (fun w' N O hp=>uH KS w' j N O bi hp)
   have GP:=aa (fun w' N O hp=>uH KP w' j N O bi hp)
   have GC:=aa (fun w' N O Q U hp hq=>uH KC w' j N O Q U bi bA hp hq)
   have bm:=aa (uH LW j)
   have G1:=aa (fun w' N O ae hp=>uH K1 w' j N O ae hp)
   have G3:=aa (fun w' bo d ae=>uH K3 w' j bo d ae);have G4:=aa (fun w' bo d ae=>uH K4 w' j bo d ae)
   have G5:=aa (fun w' N O vo vc ae hp hv=>uH K5 w' j N O vo vc ae hp hv)
   have G6:=aa (fun w' N O ae hp=>uH K6 w' j N O ae hp)
   have b5:=aa (uH LV j);have b6:=aa (uH LR (j+1))
   generalize d1:A j=aj at*
   generalize d2:SJ j=sj at*
   generalize ct:WJ j=wj at*
   generalize bE:PJ (j+1)=pn at*
   generalize d3:PJ j=pj at*
   have Z:=(uH hS).rb.c0;have q1:=(uH hS).rb.c1;have q2:=(uH hS).rb.c2
   have y1:=(uH hS).a.c1
   go_wp2_with fail
   refine aq (fun W=>fI w W r c n ax ao (RJ j) ro rc _ R∧bJ 0 W (.slice lo c lc) pj) ⟨uH hS,uH hP⟩ ?_
   clear hS hP Z q1 q2 y1
   rintro W ⟨st,sp⟩
   have hd:=(Below.refl W.heap.size W).drew
   have G:=aa (st.all hd)
   have Y:=aa (sp.below hd)
   clear st sp hd
   refine oN (T:=Option Addr×Nat×Option Addr×Nat×Option Addr×Nat) (fun a t=>(((((((a.put (some 35) (.agg #[.int .i64 (r:Nat),.int .i64 (c:Nat),.slice ro n rc])).put (some 36) (.pointer (some ⟨w.heap.size,1,none⟩))).put (some 37) (.int .i64 (c:Nat))).put (some 38) (.slice t.1 c t.2.1)).put (some 39) (.int .i64 (j:Nat))).put (some 40) (.int .i64 (aj:Nat))).put (some 41) (.slice t.2.2.1 c t.2.2.2.1)).put (some 42) (.agg #[.int .i64 (r:Nat),.int .i64 (c:Nat),.slice t.2.2.2.2.1 n t.2.2.2.2.2])) (fun t w'=>fI w w' r c n ax ao wj t.2.2.2.2.1 t.2.2.2.2.2 u5 R∧bJ 0 w' (.slice lo c lc) pj) ?_ ?_
   ·have Z:=(uH G).rb.c0;have q1:=(uH G).rb.c1;have q2:=(uH G).rb.c2
    have y1:=(uH G).a.c1
    refine wp_region_held_drew (S:=(fun w'=>w'.cell? ⟨w.heap.size,1,none⟩=some (.int .i64 (c:Nat)))) (by kernel_rfl) ?_ (fun z=>?_)
    ·exact(uH G).a.c1
    refine wpAnyH_take (i:=1) (oi:={dst:=some 36,op:=Op.fieldAddr 24 (Operand.tmp 1) 1,type:=0,pos:= "ref.go:88",after:=#[],guard:=none}) (v:=(Value.pointer (some ⟨w.heap.size,1,none⟩))) rfl (by kernel_rfl) (by kernel_rfl) (by kernel_rfl) (fun _ _ _ h=>h) (Or.inl ⟨by rfl,?_⟩) (by assumption) ?_
    ·(intro w D;(try dsimp only at D);go_simp)
    simp only[Act.put,List.setIfInBounds_toArray,List.set_cons_zero,List.set_cons_succ]
    refine wpAnyH_take (i:=2) (oi:={dst:=some 37,op:=Op.load 3 (Operand.tmp 36),type:=3,pos:= "ref.go:88",after:=#[{on:=1,ground:=Ground.data}],guard:=none}) (v:=(Value.int .i64 (c:Nat))) rfl (by kernel_rfl) (by kernel_rfl) (by kernel_rfl) (fun _ _ _ h=>h) (Or.inl ⟨by rfl,?_⟩) (by assumption) ?_
    ·(intro w D;(try dsimp only at D);go_simp)
    simp only[Act.put,List.setIfInBounds_toArray,List.set_cons_zero,List.set_cons_succ]
    refine wpAnyH_take (i:=4) (oi:={dst:=some 39,op:=Op.move (Operand.tmp 6),type:=3,pos:= "ref.go:88",after:=#[],guard:=none}) (v:=(Value.int .i64 (j:Nat))) rfl (by kernel_rfl) (by kernel_rfl) (by kernel_rfl) (fun _ _ _ h=>h) (Or.inl ⟨by rfl,?_⟩) (by assumption) ?_
    ·(intro w D;(try dsimp only at D);go_simp)
    simp only[Act.put,List.setIfInBounds_toArray,List.set_cons_zero,List.set_cons_succ]
    refine wpAnyH_take (i:=5) (oi:={dst:=some 40,op:=Op.move (Operand.tmp 7),type:=3,pos:= "ref.go:88",after:=#[],guard:=none}) (v:=(Value.int .i64 (aj:Nat))) rfl (by kernel_rfl) (by kernel_rfl) (by kernel_rfl) (fun _ _ _ h=>h) (Or.inl ⟨by rfl,?_⟩) (by assumption) ?_
    ·(intro w D;(try dsimp only at D);go_simp)
    simp only[Act.put,List.setIfInBounds_toArray,List.set_cons_zero,List.set_cons_succ]
    refine wpAnyH_ready (rs:=[0,3]) (by kernel_rfl) (by simp) ?_
    refine AllReadyH.cons (o:={dst:=some 35,op:=Op.load 24 (Operand.tmp 3),type:=24,pos:= "ref.go:88",after:=#[],guard:=none}) rfl (fun K L=>?_) (AllReadyH.cons (o:={dst:=some 38,op:=Op.call {callee:=Callee.value (Operand.func 35),args:=#[Operand.tmp 37],argTypes:=#[3]},type:=26,pos:= "ref.go:88",after:=#[{on:=2,ground:=Ground.data}],guard:=none}) rfl (fun K L=>?_) AllReadyH.nil)
    ·go_simp
     refine L.out _ _ ?_ (fun z=>?_)
     ·exact(uH G).a.c1
     clear L K
     refine wpAnyH_ready (rs:=[3]) (by kernel_rfl) (by simp) ?_
     refine AllReadyH.cons (o:={dst:=some 38,op:=Op.call {callee:=Callee.value (Operand.func 35),args:=#[Operand.tmp 37],argTypes:=#[3]},type:=26,pos:= "ref.go:88",after:=#[{on:=2,ground:=Ground.data}],guard:=none}) rfl (fun K L=>?_) AllReadyH.nil
     go_simp
     refine(uH KF _).mono ?_
     rintro e w2 ⟨fo,fc,rfl,hf,F⟩
     clear Z q1 q2
     replace G:=aa ((uH G).all F)
     replace Y:=aa ((uH Y).below F)
     have HF:=aa hf
     clear hf F
     have Z:=(uH G).rb.c0;have q1:=(uH G).rb.c1;have q2:=(uH G).rb.c2
     go_wp2_with fail
     refine L.out _ _ ?_ (fun z=>?_)
     ·exact(uH G).a.c1
     clear L K
     refine wpAnyH_ready (rs:=[6]) (by kernel_rfl) (by simp) ?_
     refine AllReadyH.cons (o:={dst:=some 41,op:=Op.call {callee:=Callee.value (Operand.func 37),args:=#[Operand.tmp 38,Operand.tmp 39,Operand.tmp 40],argTypes:=#[26,3,3]},type:=26,pos:= "ref.go:88",after:=#[{on:=3,ground:=Ground.data},{on:=4,ground:=Ground.data},{on:=5,ground:=Ground.data},{on:=3,ground:=Ground.chain}],guard:=none}) rfl (fun K L=>?_) AllReadyH.nil
     go_simp
     refine(uH GS _ _ _ (uH HF)).mono ?_
     rintro e w3 ⟨so,sc,rfl,hf,F⟩
     clear Z q1 q2 HF
     replace G:=aa ((uH G).all F)
     replace Y:=aa ((uH Y).below F)
     have HG:=aa hf
     clear hf F
     have Z:=(uH G).rb.c0;have q1:=(uH G).rb.c1;have q2:=(uH G).rb.c2
     go_wp2_with fail
     refine L.out _ _ ?_ (fun z=>?_)
     ·exact(uH G).a.c1
     clear L K
     refine wpAnyH_ready (rs:=[7]) (by kernel_rfl) (by simp) ?_
     refine AllReadyH.cons (o:={dst:=some 42,op:=Op.call {callee:=Callee.value (Operand.func 19),args:=#[Operand.tmp 35,Operand.tmp 41],argTypes:=#[24,26]},type:=24,pos:= "ref.go:88",after:=#[{on:=0,ground:=Ground.data},{on:=6,ground:=Ground.data},{on:=6,ground:=Ground.chain}],guard:=none}) rfl (fun K L=>?_) AllReadyH.nil
     go_simp
     refine(uH GC _ _ _ _ _ (uH G).bits (uH HG)).mono ?_
     rintro e w4 ⟨no,nc,rfl,hq,F⟩
     clear Z q1 q2 HG
     have S4:=(uH G).all F
     have P4:=(uH Y).below F
     have Z:=S4.rb.c0;have q1:=S4.rb.c1;have q2:=S4.rb.c2;have f0:=S4.rb.free 0;have f1:=S4.rb.free 1;have f2:=S4.rb.free 2
     have SN:=aa (S4.put hq (uH bm));have PN:=aa (P4.putM S4.rb (.int .i64 r) (.int .i64 c) (.slice no n nc))
     have bc:=aa S4.a.c1
     clear F hq S4 P4 G Y
     go_wp2_with fail
     refine L.out _ _ ?_ (fun z=>?_)
     ·exact uH bc
     clear L K
     refine wpAnyH_ready (rs:=[8]) (by kernel_rfl) (by simp) ?_
     refine AllReadyH.cons (o:={dst:=none,op:=Op.store 24 (Operand.tmp 3) (Operand.tmp 42),type:=0,pos:= "ref.go:88",after:=#[{on:=7,ground:=Ground.data},{on:=7,ground:=Ground.chain},{on:=0,ground:=Ground.phase},{on:=1,ground:=Ground.phase},{on:=2,ground:=Ground.phase},{on:=3,ground:=Ground.phase},{on:=4,ground:=Ground.phase},{on:=5,ground:=Ground.phase},{on:=6,ground:=Ground.phase},{on:=7,ground:=Ground.phase}],guard:=none}) rfl (fun K L=>?_) AllReadyH.nil
     go_simp
     refine L.out _ _ ?_ (fun z=>?_)
     ·exact(uH SN).a.c1
     clear L K
     refine wpAnyH_done (by kernel_rfl) ?_ _
     exact⟨⟨fo,fc,so,sc,no,nc⟩,by first|rfl|simp[Act.put],uH SN,uH PN⟩
    ·go_simp
     refine(uH KF _).mono ?_
     rintro e w2 ⟨fo,fc,rfl,hf,F⟩
     clear Z q1 q2
     replace G:=aa ((uH G).all F)
     replace Y:=aa ((uH Y).below F)
     have HF:=aa hf
     clear hf F
     have Z:=(uH G).rb.c0;have q1:=(uH G).rb.c1;have q2:=(uH G).rb.c2
     go_wp2_with fail
     refine L.out _ _ ?_ (fun z=>?_)
     ·exact(uH G).a.c1
     clear L K
     refine wpAnyH_ready (rs:=[0,6]) (by kernel_rfl) (by simp) ?_
     refine AllReadyH.cons (o:={dst:=some 35,op:=Op.load 24 (Operand.tmp 3),type:=24,pos:= "ref.go:88",after:=#[],guard:=none}) rfl (fun K L=>?_) (AllReadyH.cons (o:={dst:=some 41,op:=Op.call {callee:=Callee.value (Operand.func 37),args:=#[Operand.tmp 38,Operand.tmp 39,Operand.tmp 40],argTypes:=#[26,3,3]},type:=26,pos:= "ref.go:88",after:=#[{on:=3,ground:=Ground.data},{on:=4,ground:=Ground.data},{on:=5,ground:=Ground.data},{on:=3,ground:=Ground.chain}],guard:=none}) rfl (fun K L=>?_) AllReadyH.nil)
     ·go_simp
      refine L.out _ _ ?_ (fun z=>?_)
      ·exact(uH G).a.c1
      clear L K
      refine wpAnyH_ready (rs:=[6]) (by kernel_rfl) (by simp) ?_
      refine AllReadyH.cons (o:={dst:=some 41,op:=Op.call {callee:=Callee.value (Operand.func 37),args:=#[Operand.tmp 38,Operand.tmp 39,Operand.tmp 40],argTypes:=#[26,3,3]},type:=26,pos:= "ref.go:88",after:=#[{on:=3,ground:=Ground.data},{on:=4,ground:=Ground.data},{on:=5,ground:=Ground.data},{on:=3,ground:=Ground.chain}],guard:=none}) rfl (fun K L=>?_) AllReadyH.nil
      go_simp
      refine(uH GS _ _ _ (uH HF)).mono ?_
      rintro e w3 ⟨so,sc,rfl,hf,F⟩
      clear Z q1 q2 HF
      replace G:=aa ((uH G).all F)
      replace Y:=aa ((uH Y).below F)
      have HG:=aa hf
      clear hf F
      have Z:=(uH G).rb.c0;have q1:=(uH G).rb.c1;have q2:=(uH G).rb.c2
      go_wp2_with fail
      refine L.out _ _ ?_ (fun z=>?_)
      ·exact(uH G).a.c1
      clear L K
      refine wpAnyH_ready (rs:=[7]) (by kernel_rfl) (by simp) ?_
      refine AllReadyH.cons (o:={dst:=some 42,op:=Op.call {callee:=Callee.value (Operand.func 19),args:=#[Operand.tmp 35,Operand.tmp 41],argTypes:=#[24,26]},type:=24,pos:= "ref.go:88",after:=#[{on:=0,ground:=Ground.data},{on:=6,ground:=Ground.data},{on:=6,ground:=Ground.chain}],guard:=none}) rfl (fun K L=>?_) AllReadyH.nil
      go_simp
      refine(uH GC _ _ _ _ _ (uH G).bits (uH HG)).mono ?_
      rintro e w4 ⟨no,nc,rfl,hq,F⟩
      clear Z q1 q2 HG
      have S4:=(uH G).all F
      have P4:=(uH Y).below F
      have Z:=S4.rb.c0;have q1:=S4.rb.c1;have q2:=S4.rb.c2;have f0:=S4.rb.free 0;have f1:=S4.rb.free 1;have f2:=S4.rb.free 2
      have SN:=aa (S4.put hq (uH bm));have PN:=aa (P4.putM S4.rb (.int .i64 r) (.int .i64 c) (.slice no n nc))
      have bc:=aa S4.a.c1
      clear F hq S4 P4 G Y
      go_wp2_with fail
      refine L.out _ _ ?_ (fun z=>?_)
      ·exact uH bc
      clear L K
      refine wpAnyH_ready (rs:=[8]) (by kernel_rfl) (by simp) ?_
      refine AllReadyH.cons (o:={dst:=none,op:=Op.store 24 (Operand.tmp 3) (Operand.tmp 42),type:=0,pos:= "ref.go:88",after:=#[{on:=7,ground:=Ground.data},{on:=7,ground:=Ground.chain},{on:=0,ground:=Ground.phase},{on:=1,ground:=Ground.phase},{on:=2,ground:=Ground.phase},{on:=3,ground:=Ground.phase},{on:=4,ground:=Ground.phase},{on:=5,ground:=Ground.phase},{on:=6,ground:=Ground.phase},{on:=7,ground:=Ground.phase}],guard:=none}) rfl (fun K L=>?_) AllReadyH.nil
      go_simp
      refine L.out _ _ ?_ (fun z=>?_)
      ·exact(uH SN).a.c1
      clear L K
      refine wpAnyH_done (by kernel_rfl) ?_ _
      exact⟨⟨fo,fc,so,sc,no,nc⟩,by first|rfl|simp[Act.put],uH SN,uH PN⟩
     ·go_simp
      refine(uH GS _ _ _ (uH HF)).mono ?_
      rintro e w3 ⟨so,sc,rfl,hf,F⟩
      clear Z q1 q2 HF
      replace G:=aa ((uH G).all F)
      replace Y:=aa ((uH Y).below F)
      have HG:=aa hf
      clear hf F
      have Z:=(uH G).rb.c0;have q1:=(uH G).rb.c1;have q2:=(uH G).rb.c2
      go_wp2_with fail
      refine L.out _ _ ?_ (fun z=>?_)
      ·exact(uH G).a.c1
      clear L K
      refine wpAnyH_ready (rs:=[0]) (by kernel_rfl) (by simp) ?_
      refine AllReadyH.cons (o:={dst:=some 35,op:=Op.load 24 (Operand.tmp 3),type:=24,pos:= "ref.go:88",after:=#[],guard:=none}) rfl (fun K L=>?_) AllReadyH.nil
      go_simp
      refine L.out _ _ ?_ (fun z=>?_)
      ·exact(uH G).a.c1
      clear L K
      refine wpAnyH_ready (rs:=[7]) (by kernel_rfl) (by simp) ?_
      refine AllReadyH.cons (o:={dst:=some 42,op:=Op.call {callee:=Callee.value (Operand.func 19),args:=#[Operand.tmp 35,Operand.tmp 41],argTypes:=#[24,26]},type:=24,pos:= "ref.go:88",after:=#[{on:=0,ground:=Ground.data},{on:=6,ground:=Ground.data},{on:=6,ground:=Ground.chain}],guard:=none}) rfl (fun K L=>?_) AllReadyH.nil
      go_simp
      refine(uH GC _ _ _ _ _ (uH G).bits (uH HG)).mono ?_
      rintro e w4 ⟨no,nc,rfl,hq,F⟩
      clear Z q1 q2 HG
      have S4:=(uH G).all F
      have P4:=(uH Y).below F
      have Z:=S4.rb.c0;have q1:=S4.rb.c1;have q2:=S4.rb.c2;have f0:=S4.rb.free 0;have f1:=S4.rb.free 1;have f2:=S4.rb.free 2
      have SN:=aa (S4.put hq (uH bm));have PN:=aa (P4.putM S4.rb (.int .i64 r) (.int .i64 c) (.slice no n nc))
      have bc:=aa S4.a.c1
      clear F hq S4 P4 G Y
      go_wp2_with fail
      refine L.out _ _ ?_ (fun z=>?_)
      ·exact uH bc
      clear L K
      refine wpAnyH_ready (rs:=[8]) (by kernel_rfl) (by simp) ?_
      refine AllReadyH.cons (o:={dst:=none,op:=Op.store 24 (Operand.tmp 3) (Operand.tmp 42),type:=0,pos:= "ref.go:88",after:=#[{on:=7,ground:=Ground.data},{on:=7,ground:=Ground.chain},{on:=0,ground:=Ground.phase},{on:=1,ground:=Ground.phase},{on:=2,ground:=Ground.phase},{on:=3,ground:=Ground.phase},{on:=4,ground:=Ground.phase},{on:=5,ground:=Ground.phase},{on:=6,ground:=Ground.phase},{on:=7,ground:=Ground.phase}],guard:=none}) rfl (fun K L=>?_) AllReadyH.nil
      go_simp
      refine L.out _ _ ?_ (fun z=>?_)
      ·exact(uH SN).a.c1
      clear L K
      refine wpAnyH_done (by kernel_rfl) ?_ _
      exact⟨⟨fo,fc,so,sc,no,nc⟩,by first|rfl|simp[Act.put],uH SN,uH PN⟩
   rintro⟨fo,fc,so,sc,no,nc⟩ W2 ⟨st,sp⟩
   simp only[Act.put,List.setIfInBounds_toArray,List.set_cons_zero,List.set_cons_succ]
   have S2:=aa st;have P2:=aa sp
   clear st sp G Y
   go_wp2_with fail
   refine(uH GP _ _ _ (uH P2)).mono ?_
   rintro e w5 ⟨lo,lc,rfl,hp,F⟩
   replace S2:=aa ((uH S2).all F)
   replace P2:=aa hp
   clear hp F
   have c9:(j+1<r)∨(j+1=r):=by omega
   rcases c9 with ej|eK
   ·have ae:j<K:=(uH HK j).2 (by omega)
    have ee:¬((j:Int)=(r:Int)-1):=by omega
    have y0:=(uH S2).a.c0
    have Z:=(uH S2).rb.c0;have q1:=(uH S2).rb.c1;have q2:=(uH S2).rb.c2
    go_wp2_with fail
    clear y0 Z q1 q2
    refine(uH G1 _ _ _ ae (uH S2).bits).mono ?_
    rintro e w6 ⟨bo,d,rfl,hx,F⟩
    replace S2:=aa ((uH S2).all F)
    replace P2:=aa ((uH P2).below F)
    have HX:=aa hx
    clear F hx
    go_wp2_with fail
    have da:o2 j=false∨o2 j=true:=by cases o2 j<;>simp
    rcases da with h2|h2
    ·refine(uH G4 _ _ _ ae h2 (uH HX)).mono ?_
     rintro e w7 ⟨rfl,F⟩
     have S3:=aa (((uH S2).all F).all (ac w7 (.cells #[.slice none 0 0,.int .u64 0,.int .u64 0] 74)))
     clear F S2 P2 HX
     have f:=(uH S3).res
     have r0:=f.c0;have r1:=f.c1;have r2:=f.c2;have r3:=f.c3;have r4:=f.c4;have r5:=f.c5;have r6:=f.c6;have r7:=f.c7
     have f0:=f.free 0;have f1:=f.free 1;have f2:=f.free 2;have f3:=f.free 3;have f4:=f.free 4;have f5:=f.free 5;have f6:=f.free 6;have f7:=f.free 7
     have M:=f.put (.int .i64 0) (.int .i64 0) (.slice none 0 0) (.int .i64 0) (.int .i64 0) (.slice none 0 0) (.slice none 0 0) (.bool false)
     have z0:=M.c0;have z1:=M.c1;have z2:=M.c2;have z3:=M.c3;have z4:=M.c4;have z5:=M.c5;have z6:=M.c6;have z7:=M.c7
     have BP:=aa (e7 (uH S3).bel (g:=w.heap.size+1) (by omega) (.int .i64 0) (.int .i64 0) (.slice none 0 0) (.int .i64 0) (.int .i64 0) (.slice none 0 0) (.slice none 0 0) (.bool false))
     have a3:Hid (ok=false):=aa (by
      cases hk:ok with
      |false=>rfl
      |true=>exact absurd ((uH bb).1 hk) (fun q=>by have:=(q.1 j ae).2;rw[h2]at this;cases this))
     clear f M S3
     go_wp2_with fail
     exact bodyPost_ret (v:=.agg #[.int .i64 0,.int .i64 0,.slice none 0 0,.int .i64 0,.int .i64 0,.slice none 0 0,.slice none 0 0,.bool false]) (by simp[results,Tryz.results11,go_sem,z0,z1,z2,z3,z4,z5,z6,z7]) rfl ⟨.inr ⟨uH a3,rfl⟩,uH BP⟩
    refine(uH G3 _ _ _ ae h2 (uH HX)).mono ?_
    rintro e w7 ⟨vo,vc,rfl,hn,hv,F⟩
    have ba:=ac w7 (.cells #[.slice vo (r-j) vc,.int .u64 (a1 j:Nat),.int .u64 (a2 j:Nat)] 74)
    have HM:=aa (eg.new 74 w7 (.slice vo (r-j) vc) (.int .u64 (a1 j:Nat)) (.int .u64 (a2 j:Nat)))
    have db:=aa (ie.new hn (fun k hk=>((uH S2).l.1.lt k hk).2))
    have S3:=aa (((uH S2).all F).all ba)
    have P3:=aa (((uH P2).below F).below ba)
    have HV:=aa (hv.below ba)
    have bv:=aa (show w.heap.size+1+1+1≤w7.heap.size from Nat.lt_of_lt_of_le (uH S2).rb.lt F.size)
    clear F hn hv ba S2 P2 HX
    have D5:=aa (fun w' N O vo vc hp hv=>uH G5 w' N O vo vc ae hp hv)
    have D6:=aa (fun w' N O hp=>uH G6 w' N O ae hp)
    generalize d4:a1 j=tj at*
    generalize eL:a2 j=bj at*
    generalize d5:V j=vj at*
    generalize eS:AP j=eT at*
    generalize ea:RJ (j+1)=nj at*
    go_wp2_with fail
    refine aq (fun W=>fI w W r c n ax ao wj no nc _ R∧eg 74 W w7.heap.size (.slice vo (r-j) vc) (.int .u64 (tj:Nat)) (.int .u64 (bj:Nat))∧ad W vo vc (az vj)∧bJ 0 W (.slice lo c lc) pn) ⟨uH S3,uH HM,uH HV,uH P3⟩ ?_
    clear S3 HM HV P3
    generalize w7.heap.size=gm at*
    rintro W ⟨st,sm,sv,sp⟩
    have hd:=(Below.refl W.heap.size W).drew
    have G:=aa (st.all hd)
    have SM:=aa (sm.all hd)
    have SV:=aa (sv.below hd)
    have Y:=aa (sp.below hd)
    clear st sm sv sp hd
    refine oN (T:=Option Addr×Nat×Option Addr×Nat) (fun a t=>((((((((((((a.put (some 63) (.agg #[.int .i64 (r:Nat),.int .i64 (c:Nat),.slice no n nc])).put (some 64) (.int .i64 (j:Nat))).put (some 65) (.int .i64 (j:Nat))).put (some 66) (.pointer (some ⟨gm,0,none⟩))).put (some 67) (.slice vo (r-j) vc)).put (some 68) (.pointer (some ⟨gm,1,none⟩))).put (some 69) (.int .u64 (tj:Nat))).put (some 70) (.agg #[.int .i64 (r:Nat),.int .i64 (c:Nat),.slice t.1 n t.2.1])).put (some 71) (.int .i64 (j:Nat))).put (some 72) (.pointer (some ⟨gm,2,none⟩))).put (some 73) (.int .u64 (bj:Nat))).put (some 74) (.agg #[.int .i64 (r:Nat),.int .i64 (c:Nat),.slice t.2.2.1 n t.2.2.2]))) (fun t w'=>fI w w' r c n ax ao nj t.2.2.1 t.2.2.2 u5 R∧eg 74 w' gm (.slice vo (r-j) vc) (.int .u64 (tj:Nat)) (.int .u64 (bj:Nat))∧ad w' vo vc (az vj)∧bJ 0 w' (.slice lo c lc) pn∧ie u5.ownBlock t.2.2.1 (az nj)) ?_ ?_
    ·skip
     have Z:=(uH G).rb.c0;have q1:=(uH G).rb.c1;have q2:=(uH G).rb.c2
     refine wp_region_held_drew (S:=(fun w'=>w'.cell? ⟨gm,0,none⟩=some (.slice vo (r-j) vc)∧w'.cell? ⟨gm,1,none⟩=some (.int .u64 (tj:Nat))∧w'.cell? ⟨gm,2,none⟩=some (.int .u64 (bj:Nat)))) (by kernel_rfl) ?_ (fun z=>?_)
     ·exact⟨(uH SM).c0,(uH SM).c1,(uH SM).c2⟩
     refine wpAnyH_take (i:=1) (oi:={dst:=some 64,op:=Op.move (Operand.tmp 6),type:=3,pos:= "ref.go:97",after:=#[],guard:=none}) (v:=(Value.int .i64 (j:Nat))) rfl (by kernel_rfl) (by kernel_rfl) (by kernel_rfl) (fun _ _ _ h=>h) (Or.inl ⟨by rfl,?_⟩) (by assumption) ?_
     ·(intro w D;(try dsimp only at D);go_simp)
     simp only[Act.put,List.setIfInBounds_toArray,List.set_cons_zero,List.set_cons_succ]
     refine wpAnyH_take (i:=2) (oi:={dst:=some 65,op:=Op.move (Operand.tmp 6),type:=3,pos:= "ref.go:97",after:=#[],guard:=none}) (v:=(Value.int .i64 (j:Nat))) rfl (by kernel_rfl) (by kernel_rfl) (by kernel_rfl) (fun _ _ _ h=>h) (Or.inl ⟨by rfl,?_⟩) (by assumption) ?_
     ·(intro w D;(try dsimp only at D);go_simp)
     simp only[Act.put,List.setIfInBounds_toArray,List.set_cons_zero,List.set_cons_succ]
     refine wpAnyH_take (i:=3) (oi:={dst:=some 66,op:=Op.fieldAddr 74 (Operand.tmp 8) 0,type:=0,pos:= "ref.go:97",after:=#[],guard:=none}) (v:=(Value.pointer (some ⟨gm,0,none⟩))) rfl (by kernel_rfl) (by kernel_rfl) (by kernel_rfl) (fun _ _ _ h=>h) (Or.inl ⟨by rfl,?_⟩) (by assumption) ?_
     ·(intro w D;(try dsimp only at D);go_simp)
     simp only[Act.put,List.setIfInBounds_toArray,List.set_cons_zero,List.set_cons_succ]
     refine wpAnyH_take (i:=4) (oi:={dst:=some 67,op:=Op.load 22 (Operand.tmp 66),type:=22,pos:= "ref.go:97",after:=#[{on:=3,ground:=Ground.data}],guard:=none}) (v:=(Value.slice vo (r-j) vc)) rfl (by kernel_rfl) (by kernel_rfl) (by kernel_rfl) (fun _ _ _ h=>h) (Or.inl ⟨by rfl,?_⟩) (by assumption) ?_
     ·(intro w D;(try dsimp only at D);go_simp)
     simp only[Act.put,List.setIfInBounds_toArray,List.set_cons_zero,List.set_cons_succ]
     refine wpAnyH_take (i:=5) (oi:={dst:=some 68,op:=Op.fieldAddr 74 (Operand.tmp 8) 1,type:=0,pos:= "ref.go:97",after:=#[],guard:=none}) (v:=(Value.pointer (some ⟨gm,1,none⟩))) rfl (by kernel_rfl) (by kernel_rfl) (by kernel_rfl) (fun _ _ _ h=>h) (Or.inl ⟨by rfl,?_⟩) (by assumption) ?_
     ·(intro w D;(try dsimp only at D);go_simp)
     simp only[Act.put,List.setIfInBounds_toArray,List.set_cons_zero,List.set_cons_succ]
     refine wpAnyH_take (i:=6) (oi:={dst:=some 69,op:=Op.load 31 (Operand.tmp 68),type:=31,pos:= "ref.go:97",after:=#[{on:=5,ground:=Ground.data}],guard:=none}) (v:=(Value.int .u64 (tj:Nat))) rfl (by kernel_rfl) (by kernel_rfl) (by kernel_rfl) (fun _ _ _ h=>h) (Or.inl ⟨by rfl,?_⟩) (by assumption) ?_
     ·(intro w D;(try dsimp only at D);go_simp)
     simp only[Act.put,List.setIfInBounds_toArray,List.set_cons_zero,List.set_cons_succ]
     refine wpAnyH_take (i:=8) (oi:={dst:=some 71,op:=Op.move (Operand.tmp 6),type:=3,pos:= "ref.go:97",after:=#[],guard:=none}) (v:=(Value.int .i64 (j:Nat))) rfl (by kernel_rfl) (by kernel_rfl) (by kernel_rfl) (fun _ _ _ h=>h) (Or.inl ⟨by rfl,?_⟩) (by assumption) ?_
     ·(intro w D;(try dsimp only at D);go_simp)
     simp only[Act.put,List.setIfInBounds_toArray,List.set_cons_zero,List.set_cons_succ]
     refine wpAnyH_take (i:=9) (oi:={dst:=some 72,op:=Op.fieldAddr 74 (Operand.tmp 8) 2,type:=0,pos:= "ref.go:97",after:=#[],guard:=none}) (v:=(Value.pointer (some ⟨gm,2,none⟩))) rfl (by kernel_rfl) (by kernel_rfl) (by kernel_rfl) (fun _ _ _ h=>h) (Or.inl ⟨by rfl,?_⟩) (by assumption) ?_
     ·(intro w D;(try dsimp only at D);go_simp)
     simp only[Act.put,List.setIfInBounds_toArray,List.set_cons_zero,List.set_cons_succ]
     refine wpAnyH_take (i:=10) (oi:={dst:=some 73,op:=Op.load 31 (Operand.tmp 72),type:=31,pos:= "ref.go:97",after:=#[{on:=9,ground:=Ground.data}],guard:=none}) (v:=(Value.int .u64 (bj:Nat))) rfl (by kernel_rfl) (by kernel_rfl) (by kernel_rfl) (fun _ _ _ h=>h) (Or.inl ⟨by rfl,?_⟩) (by assumption) ?_
     ·(intro w D;(try dsimp only at D);go_simp)
     simp only[Act.put,List.setIfInBounds_toArray,List.set_cons_zero,List.set_cons_succ]
     refine wpAnyH_ready (rs:=[0]) (by kernel_rfl) (by simp) ?_
     refine AllReadyH.cons (o:={dst:=some 63,op:=Op.load 24 (Operand.tmp 3),type:=24,pos:= "ref.go:97",after:=#[],guard:=none}) rfl (fun K L=>?_) AllReadyH.nil
     go_simp
     refine L.out _ _ ?_ (fun z=>?_)
     ·exact⟨(uH SM).c0,(uH SM).c1,(uH SM).c2⟩
     clear L K
     refine wpAnyH_ready (rs:=[7]) (by kernel_rfl) (by simp) ?_
     refine AllReadyH.cons (o:={dst:=some 70,op:=Op.call {callee:=Callee.value (Operand.func 41),args:=#[Operand.tmp 63,Operand.tmp 64,Operand.tmp 65,Operand.tmp 67,Operand.tmp 69],argTypes:=#[24,3,3,22,31]},type:=24,pos:= "ref.go:97",after:=#[{on:=0,ground:=Ground.data},{on:=1,ground:=Ground.data},{on:=2,ground:=Ground.data},{on:=4,ground:=Ground.data},{on:=6,ground:=Ground.data}],guard:=none}) rfl (fun K L=>?_) AllReadyH.nil
     go_simp
     refine(uH D5 _ _ _ _ _ (uH G).bits (uH SV)).mono ?_
     rintro e w8 ⟨aI,a0,rfl,be,F⟩
     clear Z q1 q2
     replace G:=aa ((uH G).all F)
     replace SM:=aa ((uH SM).all F)
     replace SV:=aa ((uH SV).below F)
     replace Y:=aa ((uH Y).below F)
     have b7:=aa be
     clear F be D5
     go_wp2_with fail
     refine L.out _ _ ?_ (fun z=>?_)
     ·exact⟨(uH SM).c0,(uH SM).c1,(uH SM).c2⟩
     clear L K
     refine wpAnyH_ready (rs:=[11]) (by kernel_rfl) (by simp) ?_
     refine AllReadyH.cons (o:={dst:=some 74,op:=Op.call {callee:=Callee.value (Operand.func 40),args:=#[Operand.tmp 70,Operand.tmp 71,Operand.tmp 73],argTypes:=#[24,3,31]},type:=24,pos:= "ref.go:97",after:=#[{on:=7,ground:=Ground.data},{on:=8,ground:=Ground.data},{on:=10,ground:=Ground.data},{on:=7,ground:=Ground.chain}],guard:=none}) rfl (fun K L=>?_) AllReadyH.nil
     go_simp
     refine(uH D6 _ _ _ (uH b7)).mono ?_
     rintro e w9 ⟨a7,a9,rfl,cm,cp,F⟩
     clear b7
     have dd:=aa (ie.new cm (fun k hk=>((uH G).l.1.lt k hk).2))
     have S6:=(uH G).all F
     have M6:=(uH SM).all F
     have V6:=(uH SV).below F
     have L6:=(uH Y).below F
     have Z:=S6.rb.c0;have q1:=S6.rb.c1;have q2:=S6.rb.c2;have f0:=S6.rb.free 0;have f1:=S6.rb.free 1;have f2:=S6.rb.free 2
     have P6:=aa (S6.put cp (uH b6))
     have PM:=aa (((M6.other (p:=⟨w.heap.size+1+1,0,none⟩) (by have:=uH bv;show gm≠w.heap.size+1+1;omega) (.int .i64 r)).other (p:=⟨w.heap.size+1+1,1,none⟩) (by have:=uH bv;show gm≠w.heap.size+1+1;omega) (.int .i64 c)).other (p:=⟨w.heap.size+1+1,2,none⟩) (by have:=uH bv;show gm≠w.heap.size+1+1;omega) (.slice a7 n a9))
     have PV:=aa (V6.putM S6.rb (.int .i64 r) (.int .i64 c) (.slice a7 n a9))
     have PL:=aa (L6.putM S6.rb (.int .i64 r) (.int .i64 c) (.slice a7 n a9))
     have bx:=aa M6
     clear S6 M6 V6 L6 F cm cp G SM SV Y D6
     go_wp2_with fail
     refine L.out _ _ ?_ (fun z=>?_)
     ·exact⟨(uH bx).c0,(uH bx).c1,(uH bx).c2⟩
     clear L K
     refine wpAnyH_ready (rs:=[12]) (by kernel_rfl) (by simp) ?_
     refine AllReadyH.cons (o:={dst:=none,op:=Op.store 24 (Operand.tmp 3) (Operand.tmp 74),type:=0,pos:= "ref.go:97",after:=#[{on:=11,ground:=Ground.data},{on:=11,ground:=Ground.chain},{on:=0,ground:=Ground.phase},{on:=1,ground:=Ground.phase},{on:=2,ground:=Ground.phase},{on:=3,ground:=Ground.phase},{on:=4,ground:=Ground.phase},{on:=5,ground:=Ground.phase},{on:=6,ground:=Ground.phase},{on:=7,ground:=Ground.phase},{on:=8,ground:=Ground.phase},{on:=9,ground:=Ground.phase},{on:=10,ground:=Ground.phase},{on:=11,ground:=Ground.phase}],guard:=none}) rfl (fun K L=>?_) AllReadyH.nil
     go_simp
     refine L.out _ _ ?_ (fun z=>?_)
     ·exact⟨(uH PM).c0,(uH PM).c1,(uH PM).c2⟩
     clear L K
     refine wpAnyH_done (by kernel_rfl) ?_ _
     exact⟨⟨aI,a0,a7,a9⟩,by first|rfl|simp[Act.put],uH P6,uH PM,uH PV,uH PL,uH dd⟩
    rintro⟨aI,a0,a7,a9⟩ W2 ⟨st,sm,sv,sp,cs⟩
    simp only[Act.put,List.setIfInBounds_toArray,List.set_cons_zero,List.set_cons_succ]
    clear G SM SV Y
    obtain⟨v9,w9,bt,ci,cj⟩:=st.push cs ⟨vo,vc,vj,tj,bj⟩ sv (uH db) (by rw[uH a4];omega) sp 70
    have bn:=aa bt
    dsimp only at bn
    rw[uH b5]at bn
    have P9:=aa ci;have Q9:=aa cj
    have m0:=sm.c0;have m1:=sm.c1;have m2:=sm.c2
    clear st sm sv sp bt ci cj cs
    go_wp2_with(at_builtin;refine aW _ rfl _ _ 70 rfl _ _ _ _ rfl rfl (uH bn) ?_;clear bn)
    go_round
    case rel=>
     refine⟨j+1,a7,a9,R++[⟨vo,vc,vj,tj,bj⟩],lo,lc,by omega,rfl,by go_num,?_,?_,?_,by rw[bE];exact Q9,by rw[ea];exact P9⟩
     ·show(R++[_]).length=j+1
      rw[List.length_append,uH a4];rfl
     ·show∀k,k<j+1→_
      intro k hk
      rw[zl R _ k (by rw[uH a4];exact hk)]
      by_cases g:k<R.length
      ·rw[if_pos g];exact uH cf k (by rw[←uH a4];exact g)
      ·rw[if_neg g,show k=j by have:=uH a4;omega,d5,d4];exact⟨rfl,rfl⟩
     ·show∀k,k<j+1→_
      intro k hk
      by_cases g:k<j
      ·exact uH hO k g
      ·rw[show k=j by omega];exact⟨hg,h2⟩
    case measure=>simp[intOf];omega
   have bz:j=K:=by
    rcases Nat.lt_or_ge j K with q|q
    ·have:=(uH HK j).1 q;omega
    ·omega
   subst bz
   have dm:(j:Int)=(r:Int)-1:=by omega
   have bp:am=true:=(uH HL).2 ⟨bi,bA⟩
   obtain⟨a5,a6⟩:=uH cv bp
   have b8:=aa (show am=true→gf j=true from fun _=>hg)
   rw[ct]at a5
   rw[bE]at a6
   rw[←a5]at S2
   rw[←a6]at P2
   obtain⟨ro,rc,hS⟩:∃ro rc,Hid (fI w w5 r c n ax ao RF ro rc _ R):=⟨_,_,S2⟩
   have hP:=P2
   have y0:=(uH hS).a.c0
   clear S2 P2 GS GP GC G1 G3 G4 G5 G6 bm b5 b6 ct bE d3 d2 d1 a5 a6
   go_wp2_with fail
   clear y0 dm
  case' inr=>
   have bz:j=K:=by
    rcases Nat.lt_or_ge j K with q|q
    ·have:=(uH HK j).1 q;omega
    ·omega
   subst bz
   have bp:am=false:=by
    cases hx:am with
    |false=>rfl
    |true=>have:=(uH HL).1 hx;omega
   obtain⟨a5,a6⟩:=uH cx bp
   have b8:=aa (show am=true→gf j=true from fun q=>by rw[bp]at q;cases q)
   rw[←a5]at hS
   rw[←a6]at hP
   rcases d0 with g1|⟨g1,g2⟩
   all_goals
    clear a5 a6
    go_wp2_with fail
    clear y0 y1 y2
  all_goals
   obtain⟨dA,bq,ck⟩:=(uH hS).l.slice
   rw[uH a4]at ck
   subst ck
   refine(uH K7 _).mono ?_
   rintro e w1 ⟨Q,U,rfl,hq,F⟩
   have ba:=ac w1 (.cells #[.int .i64 r,.int .i64 r,.slice Q nq U] 24)
   have HQ:=aa (aw.new w1 (.int .i64 r) (.int .i64 r) (.slice Q nq U))
   have S1:=aa (((uH hS).all F).all ba)
   have P1:=aa (((uH hP).below F).below ba)
   have b9:=aa (hq.below ba)
   have ds:=aa (show w.heap.size+1+1+1≤w1.heap.size from Nat.lt_of_lt_of_le (uH hS).rb.lt F.size)
   clear F hq ba hS hP
   have eo:IntKind.i64.wrap ((j:Int)-1)=(j:Int)-1:=aR _ (by omega)
   go_wp2_with fail
   generalize w1.heap.size=gq at*
   go_loopw[11] (fun a wr=>∃(t:Nat) (Q:Option Addr) (U:Nat),t≤j∧a=.int .i64 ((j:Int)-1-(t:Int))∧Hid (fI w wr r c n ax ao RF ro rc (.slice dA j bq) R∧aw wr gq (.int .i64 r) (.int .i64 r) (.slice Q nq U)∧ad wr Q U (az (QT t))∧bJ 0 wr (.slice lo c lc) PF)) (fun a _=>(intOf a+1).toNat)
   case atStart=>exact⟨0,Q,U,Nat.zero_le _,by first|(simp;done)|(simp;omega),aa ⟨uH S1,uH HQ,uH b9,uH P1⟩⟩
   case round=>
    clear S1 HQ b9 P1
    obtain⟨t,Q,U,eA,rfl,hS⟩:=hrel
    by_cases ca:t<j
    ·obtain⟨m,hm⟩:∃m,j-1-t=m:=⟨_,rfl⟩
     have dv:(j:Int)-1-(t:Int)=(m:Int):=by omega
     rw[dv]
     have ep:(m:Int)<(j:Int):=by omega
     obtain⟨gl,cl,el,eB,eF,k0,k1,kb⟩:=(uH hS).1.l.at (k:=m) (by rw[uH a4];omega)
     simp only[Value.slice.injEq]at el
     obtain⟨rfl,dB,rfl⟩:=el
     clear dB
     obtain⟨ev,et⟩:=uH cf m (by omega)
     rw[ev]at k0 kb
     rw[et]at k1
     rw[uH LV m]at k0
     have GQ:=aa (fun w' N O vo vc hp hv=>uH K8 w' t m N O vo vc ca hm.symm hp hv)
     have KB:=aa kb
     have eq:=aa hm
     generalize (bO R m).ao=vo at*
     generalize (bO R m).cap=vc at*
     generalize a1 m=tm at*
     generalize V m=vm at*
     generalize eb:QT (t+1)=nt at*
     clear kb ev et
     go_wp2_with fail
     refine aq (fun W=>(fI w W r c n ax ao RF ro rc (.slice (some ⟨gl,0,none⟩) j bq) R∧aw W gq (.int .i64 r) (.int .i64 r) (.slice Q nq U)∧ad W Q U (az (QT t))∧bJ 0 W (.slice lo c lc) PF)∧(W.cell? ⟨gl,m*3,none⟩=some (.slice vo (r-m) vc)∧W.cell? ⟨gl,m*3+1,none⟩=some (.int .u64 (tm:Nat)))∧ad W vo vc (az vm)) ⟨uH hS,⟨k0,k1⟩,uH KB⟩ ?_
     clear hS k0 k1 KB
     rintro W ⟨⟨st,sq,sb,sp⟩,⟨k0,k1⟩,kb⟩
     have hd:=(Below.refl W.heap.size W).drew
     have G:=aa (st.all hd);have SQ:=aa (sq.all hd);have SB:=aa (sb.below hd);have KB:=aa (kb.below hd);have Y:=aa (sp.below hd)
     replace k0:=ai k0 hd
     replace k1:=ai k1 hd
     clear st sq sb sp kb hd
     have Z:=(uH SQ).c0;have q1:=(uH SQ).c1;have q2:=(uH SQ).c2
     refine wp_region_held_drew (S:=(fun w'=>w'.cell? ⟨gl,m*3,none⟩=some (.slice vo (r-m) vc)∧w'.cell? ⟨gl,m*3+1,none⟩=some (.int .u64 (tm:Nat)))) (by kernel_rfl) ?_ (fun z=>?_)
     ·exact⟨k0,k1⟩
     refine wpAnyH_take (i:=1) (oi:={dst:=some 90,op:=Op.move (Operand.tmp 11),type:=3,pos:= "ref.go:102",after:=#[],guard:=none}) (v:=(Value.int .i64 (m:Int))) rfl (by kernel_rfl) (by kernel_rfl) (by kernel_rfl) (fun _ _ _ h=>h) (Or.inl ⟨by rfl,?_⟩) (by assumption) ?_
     ·(intro w D;(try dsimp only at D);go_simp)
     simp only[Act.put,List.setIfInBounds_toArray,List.set_cons_zero,List.set_cons_succ]
     refine wpAnyH_take (i:=2) (oi:={dst:=some 91,op:=Op.move (Operand.tmp 5),type:=70,pos:= "ref.go:102",after:=#[],guard:=none}) (v:=(Value.slice (some ⟨gl,0,none⟩) j bq)) rfl (by kernel_rfl) (by kernel_rfl) (by kernel_rfl) (fun _ _ _ h=>h) (Or.inl ⟨by rfl,?_⟩) (by assumption) ?_
     ·(intro w D;(try dsimp only at D);go_simp)
     simp only[Act.put,List.setIfInBounds_toArray,List.set_cons_zero,List.set_cons_succ]
     refine wpAnyH_take (i:=3) (oi:={dst:=some 92,op:=Op.move (Operand.tmp 11),type:=3,pos:= "ref.go:102",after:=#[],guard:=none}) (v:=(Value.int .i64 (m:Int))) rfl (by kernel_rfl) (by kernel_rfl) (by kernel_rfl) (fun _ _ _ h=>h) (Or.inl ⟨by rfl,?_⟩) (by assumption) ?_
     ·(intro w D;(try dsimp only at D);go_simp)
     simp only[Act.put,List.setIfInBounds_toArray,List.set_cons_zero,List.set_cons_succ]
     refine wpAnyH_take (i:=4) (oi:={dst:=some 93,op:=Op.indexAddr 70 (Operand.tmp 91) (Operand.tmp 92),type:=0,pos:= "ref.go:102",after:=#[{on:=2,ground:=Ground.data},{on:=3,ground:=Ground.data}],guard:=none}) (v:=(Value.pointer (some ⟨gl,m*3,none⟩))) rfl (by kernel_rfl) (by kernel_rfl) (by kernel_rfl) (fun _ _ _ h=>h) (Or.inl ⟨by rfl,?_⟩) (by assumption) ?_
     ·(intro w D;(try dsimp only at D);go_simp)
     simp only[Act.put,List.setIfInBounds_toArray,List.set_cons_zero,List.set_cons_succ]
     refine wpAnyH_take (i:=5) (oi:={dst:=some 94,op:=Op.fieldAddr 74 (Operand.tmp 93) 0,type:=0,pos:= "ref.go:102",after:=#[{on:=4,ground:=Ground.data}],guard:=none}) (v:=(Value.pointer (some ⟨gl,m*3,none⟩))) rfl (by kernel_rfl) (by kernel_rfl) (by kernel_rfl) (fun _ _ _ h=>h) (Or.inl ⟨by rfl,?_⟩) (by assumption) ?_
     ·(intro w D;(try dsimp only at D);go_simp)
     simp only[Act.put,List.setIfInBounds_toArray,List.set_cons_zero,List.set_cons_succ]
     refine wpAnyH_take (i:=6) (oi:={dst:=some 95,op:=Op.load 22 (Operand.tmp 94),type:=22,pos:= "ref.go:102",after:=#[{on:=5,ground:=Ground.data}],guard:=none}) (v:=(Value.slice vo (r-m) vc)) rfl (by kernel_rfl) (by kernel_rfl) (by kernel_rfl) (fun _ _ _ h=>h) (Or.inl ⟨by rfl,?_⟩) (by assumption) ?_
     ·(intro w D;(try dsimp only at D);go_simp)
     simp only[Act.put,List.setIfInBounds_toArray,List.set_cons_zero,List.set_cons_succ]
     refine wpAnyH_take (i:=7) (oi:={dst:=some 96,op:=Op.move (Operand.tmp 5),type:=70,pos:= "ref.go:102",after:=#[],guard:=none}) (v:=(Value.slice (some ⟨gl,0,none⟩) j bq)) rfl (by kernel_rfl) (by kernel_rfl) (by kernel_rfl) (fun _ _ _ h=>h) (Or.inl ⟨by rfl,?_⟩) (by assumption) ?_
     ·(intro w D;(try dsimp only at D);go_simp)
     simp only[Act.put,List.setIfInBounds_toArray,List.set_cons_zero,List.set_cons_succ]
     refine wpAnyH_take (i:=8) (oi:={dst:=some 97,op:=Op.move (Operand.tmp 11),type:=3,pos:= "ref.go:102",after:=#[],guard:=none}) (v:=(Value.int .i64 (m:Int))) rfl (by kernel_rfl) (by kernel_rfl) (by kernel_rfl) (fun _ _ _ h=>h) (Or.inl ⟨by rfl,?_⟩) (by assumption) ?_
     ·(intro w D;(try dsimp only at D);go_simp)
     simp only[Act.put,List.setIfInBounds_toArray,List.set_cons_zero,List.set_cons_succ]
     refine wpAnyH_take (i:=9) (oi:={dst:=some 98,op:=Op.indexAddr 70 (Operand.tmp 96) (Operand.tmp 97),type:=0,pos:= "ref.go:102",after:=#[{on:=7,ground:=Ground.data},{on:=8,ground:=Ground.data}],guard:=none}) (v:=(Value.pointer (some ⟨gl,m*3,none⟩))) rfl (by kernel_rfl) (by kernel_rfl) (by kernel_rfl) (fun _ _ _ h=>h) (Or.inl ⟨by rfl,?_⟩) (by assumption) ?_
     ·(intro w D;(try dsimp only at D);go_simp)
     simp only[Act.put,List.setIfInBounds_toArray,List.set_cons_zero,List.set_cons_succ]
     refine wpAnyH_take (i:=10) (oi:={dst:=some 99,op:=Op.fieldAddr 74 (Operand.tmp 98) 1,type:=0,pos:= "ref.go:102",after:=#[{on:=9,ground:=Ground.data}],guard:=none}) (v:=(Value.pointer (some ⟨gl,m*3+1,none⟩))) rfl (by kernel_rfl) (by kernel_rfl) (by kernel_rfl) (fun _ _ _ h=>h) (Or.inl ⟨by rfl,?_⟩) (by assumption) ?_
     ·(intro w D;(try dsimp only at D);go_simp)
     simp only[Act.put,List.setIfInBounds_toArray,List.set_cons_zero,List.set_cons_succ]
     refine wpAnyH_take (i:=11) (oi:={dst:=some 100,op:=Op.load 31 (Operand.tmp 99),type:=31,pos:= "ref.go:102",after:=#[{on:=10,ground:=Ground.data}],guard:=none}) (v:=(Value.int .u64 (tm:Int))) rfl (by kernel_rfl) (by kernel_rfl) (by kernel_rfl) (fun _ _ _ h=>h) (Or.inl ⟨by rfl,?_⟩) (by assumption) ?_
     ·(intro w D;(try dsimp only at D);go_simp)
     simp only[Act.put,List.setIfInBounds_toArray,List.set_cons_zero,List.set_cons_succ]
     refine wpAnyH_ready (rs:=[0]) (by kernel_rfl) (by simp) ?_
     refine AllReadyH.cons (o:={dst:=some 89,op:=Op.load 24 (Operand.tmp 10),type:=24,pos:= "ref.go:102",after:=#[],guard:=none}) rfl (fun K L=>?_) AllReadyH.nil
     go_simp
     refine L.out _ _ ?_ (fun z=>?_)
     ·exact⟨k0,k1⟩
     clear L K
     refine wpAnyH_ready (rs:=[12]) (by kernel_rfl) (by simp) ?_
     refine AllReadyH.cons (o:={dst:=some 101,op:=Op.call {callee:=Callee.value (Operand.func 41),args:=#[Operand.tmp 89,Operand.tmp 90,Operand.const (Value.int IntKind.i64 0),Operand.tmp 95,Operand.tmp 100],argTypes:=#[24,3,3,22,31]},type:=24,pos:= "ref.go:102",after:=#[{on:=0,ground:=Ground.data},{on:=1,ground:=Ground.data},{on:=6,ground:=Ground.data},{on:=11,ground:=Ground.data}],guard:=none}) rfl (fun K L=>?_) AllReadyH.nil
     go_simp
     refine(uH GQ _ _ _ _ _ (uH SB) (uH KB)).mono ?_
     rintro e w5 ⟨aI,a0,rfl,be,F⟩
     clear Z q1 q2
     have S5:=(uH G).all F
     have Q5:=(uH SQ).all F
     have L5:=(uH Y).below F
     replace k0:=ai k0 F
     replace k1:=ai k1 F
     have cb:=aa (And.intro k0 k1)
     have ha:=S5.l.apart Q5
     have cc:=aa (And.intro (show(((w5.setCell ⟨gq,0,none⟩ (.int .i64 r)).setCell ⟨gq,1,none⟩ (.int .i64 r)).setCell ⟨gq,2,none⟩ (.slice aI nq a0)).cell? ⟨gl,m*3,none⟩=some (.slice vo (r-m) vc) by rw[ah _ _ _ _ ha,ah _ _ _ _ ha,ah _ _ _ _ ha];exact k0) (show(((w5.setCell ⟨gq,0,none⟩ (.int .i64 r)).setCell ⟨gq,1,none⟩ (.int .i64 r)).setCell ⟨gq,2,none⟩ (.slice aI nq a0)).cell? ⟨gl,m*3+1,none⟩=some (.int .u64 (tm:Nat)) by rw[ah _ _ _ _ ha,ah _ _ _ _ ha,ah _ _ _ _ ha];exact k1))
     have Z:=Q5.c0;have q1:=Q5.c1;have q2:=Q5.c2
     have f0:=Q5.free 0;have f1:=Q5.free 1;have f2:=Q5.free 2
     have P5:=aa (S5.far Q5 (uH ds) (.int .i64 r) (.int .i64 r) (.slice aI nq a0))
     have PQ:=aa (Q5.put (.int .i64 r) (.int .i64 r) (.slice aI nq a0))
     have PB:=aa (be.putM Q5 (.int .i64 r) (.int .i64 r) (.slice aI nq a0))
     have PL:=aa (L5.putM Q5 (.int .i64 r) (.int .i64 r) (.slice aI nq a0))
     clear F be S5 Q5 L5 GQ G SQ SB Y KB ha k0 k1
     go_wp2_with fail
     refine L.out _ _ ?_ (fun z=>?_)
     ·exact uH cb
     clear L K
     refine wpAnyH_ready (rs:=[13]) (by kernel_rfl) (by simp) ?_
     refine AllReadyH.cons (o:={dst:=none,op:=Op.store 24 (Operand.tmp 10) (Operand.tmp 101),type:=0,pos:= "ref.go:102",after:=#[{on:=12,ground:=Ground.data},{on:=12,ground:=Ground.chain},{on:=0,ground:=Ground.phase},{on:=1,ground:=Ground.phase},{on:=2,ground:=Ground.phase},{on:=3,ground:=Ground.phase},{on:=4,ground:=Ground.phase},{on:=5,ground:=Ground.phase},{on:=6,ground:=Ground.phase},{on:=7,ground:=Ground.phase},{on:=8,ground:=Ground.phase},{on:=9,ground:=Ground.phase},{on:=10,ground:=Ground.phase},{on:=11,ground:=Ground.phase},{on:=12,ground:=Ground.phase}],guard:=none}) rfl (fun K L=>?_) AllReadyH.nil
     go_simp
     refine L.out _ _ ?_ (fun z=>?_)
     ·exact uH cc
     clear L K
     refine wpAnyH_done (by kernel_rfl) ?_ _
     clear Z q1 q2 f0 f1 f2 cb cc
     have ex:IntKind.i64.wrap ((m:Int)-1)=(m:Int)-1:=aR _ (by omega)
     go_wp2_with fail
     go_round
     case rel=>exact⟨t+1,aI,a0,by omega,by rw[show(m:Int)-1=(j:Int)-1-((t+1:Nat):Int) by omega],by rw[eb];exact aa ⟨uH P5,uH PQ,uH PB,uH PL⟩⟩
     case measure=>simp[intOf]<;>omega
    ·have dx:t=j:=by omega
     subst dx
     have hz:(t:Int)-1-(t:Int)= -1:=by omega
     rw[hz]
     have G:=aa (uH hS).1;have SQ:=aa (uH hS).2.1;have SB:=aa (uH hS).2.2.1;have Y:=aa (uH hS).2.2.2
     clear hS
     have Z:=(uH SQ).c0;have q1:=(uH SQ).c1;have q2:=(uH SQ).c2
     go_wp2_with fail
     clear Z q1 q2
     refine(uH K9 _ _ _ (uH SB)).mono ?_
     rintro e w2 ⟨rfl,F⟩
     replace G:=aa ((uH G).all F);replace SQ:=aa ((uH SQ).all F);replace SB:=aa ((uH SB).below F);replace Y:=aa ((uH Y).below F)
     clear F
     cases h1:fq with
     |false=>
      clear SQ SB Y
      have f:=(uH G).res
      have r0:=f.c0;have r1:=f.c1;have r2:=f.c2;have r3:=f.c3;have r4:=f.c4;have r5:=f.c5;have r6:=f.c6;have r7:=f.c7
      have f0:=f.free 0;have f1:=f.free 1;have f2:=f.free 2;have f3:=f.free 3;have f4:=f.free 4;have f5:=f.free 5;have f6:=f.free 6;have f7:=f.free 7
      have M:=f.put (.int .i64 0) (.int .i64 0) (.slice none 0 0) (.int .i64 0) (.int .i64 0) (.slice none 0 0) (.slice none 0 0) (.bool false)
      have z0:=M.c0;have z1:=M.c1;have z2:=M.c2;have z3:=M.c3;have z4:=M.c4;have z5:=M.c5;have z6:=M.c6;have z7:=M.c7
      have BP:=aa (e7 (uH G).bel (g:=w.heap.size+1) (by omega) (.int .i64 0) (.int .i64 0) (.slice none 0 0) (.int .i64 0) (.int .i64 0) (.slice none 0 0) (.slice none 0 0) (.bool false))
      have a3:Hid (ok=false):=aa (by
       cases hk:ok with
       |false=>rfl
       |true=>exact absurd ((uH bb).1 hk) (fun q=>by have:=q.2.2.1;rw[h1]at this;cases this))
      clear f M G
      go_wp2_with fail
      exact bodyPost_ret (v:=.agg #[.int .i64 0,.int .i64 0,.slice none 0 0,.int .i64 0,.int .i64 0,.slice none 0 0,.slice none 0 0,.bool false]) (by simp[results,Tryz.results11,go_sem,z0,z1,z2,z3,z4,z5,z6,z7]) rfl ⟨.inr ⟨uH a3,rfl⟩,uH BP⟩
     |true=>
      have Z:=(uH G).rb.c0;have q1:=(uH G).rb.c1;have q2:=(uH G).rb.c2
      go_wp2_with fail
      clear Z q1 q2
      refine(uH KA _ _ _ (uH G).bits).mono ?_
      rintro e w3 ⟨rfl,F⟩
      replace G:=aa ((uH G).all F);replace SQ:=aa ((uH SQ).all F);replace SB:=aa ((uH SB).below F);replace Y:=aa ((uH Y).below F)
      clear F
      cases h2:fr with
      |false=>
       clear SQ SB Y
       have f:=(uH G).res
       have r0:=f.c0;have r1:=f.c1;have r2:=f.c2;have r3:=f.c3;have r4:=f.c4;have r5:=f.c5;have r6:=f.c6;have r7:=f.c7
       have f0:=f.free 0;have f1:=f.free 1;have f2:=f.free 2;have f3:=f.free 3;have f4:=f.free 4;have f5:=f.free 5;have f6:=f.free 6;have f7:=f.free 7
       have M:=f.put (.int .i64 0) (.int .i64 0) (.slice none 0 0) (.int .i64 0) (.int .i64 0) (.slice none 0 0) (.slice none 0 0) (.bool false)
       have z0:=M.c0;have z1:=M.c1;have z2:=M.c2;have z3:=M.c3;have z4:=M.c4;have z5:=M.c5;have z6:=M.c6;have z7:=M.c7
       have BP:=aa (e7 (uH G).bel (g:=w.heap.size+1) (by omega) (.int .i64 0) (.int .i64 0) (.slice none 0 0) (.int .i64 0) (.int .i64 0) (.slice none 0 0) (.slice none 0 0) (.bool false))
       have a3:Hid (ok=false):=aa (by
        cases hk:ok with
        |false=>rfl
        |true=>exact absurd ((uH bb).1 hk) (fun q=>by have:=q.2.2.2;rw[h2]at this;cases this))
       clear f M G
       go_wp2_with fail
       exact bodyPost_ret (v:=.agg #[.int .i64 0,.int .i64 0,.slice none 0 0,.int .i64 0,.int .i64 0,.slice none 0 0,.slice none 0 0,.bool false]) (by simp[results,Tryz.results11,go_sem,z0,z1,z2,z3,z4,z5,z6,z7]) rfl ⟨.inr ⟨uH a3,rfl⟩,uH BP⟩
      |true=>
       have ce:Hid (ok=true):=aa ((uH bb).2 ⟨uH hO,uH b8,h1,h2⟩)
       have Z:=(uH SQ).c0;have q1:=(uH SQ).c1;have q2:=(uH SQ).c2
       have p0:=(uH G).rb.c0;have p1:=(uH G).rb.c1;have p2:=(uH G).rb.c2
       have f:=(uH G).res
       have r0:=f.c0;have r1:=f.c1;have r2:=f.c2;have r3:=f.c3;have r4:=f.c4;have r5:=f.c5;have r6:=f.c6;have r7:=f.c7
       have f0:=f.free 0;have f1:=f.free 1;have f2:=f.free 2;have f3:=f.free 3;have f4:=f.free 4;have f5:=f.free 5;have f6:=f.free 6;have f7:=f.free 7
       have M:=f.put (.int .i64 r) (.int .i64 r) (.slice Q nq U) (.int .i64 r) (.int .i64 c) (.slice ro n rc) (.slice lo c lc) (.bool true)
       have z0:=M.c0;have z1:=M.c1;have z2:=M.c2;have z3:=M.c3;have z4:=M.c4;have z5:=M.c5;have z6:=M.c6;have z7:=M.c7
       have BP:=aa (e7 (uH G).bel (g:=w.heap.size+1) (by omega) (.int .i64 r) (.int .i64 r) (.slice Q nq U) (.int .i64 r) (.int .i64 c) (.slice ro n rc) (.slice lo c lc) (.bool true))
       have PQ:=aa (jv (uH SB) f (.int .i64 r) (.int .i64 r) (.slice Q nq U) (.int .i64 r) (.int .i64 c) (.slice ro n rc) (.slice lo c lc) (.bool true))
       have PR:=aa (jv (uH G).bits f (.int .i64 r) (.int .i64 r) (.slice Q nq U) (.int .i64 r) (.int .i64 c) (.slice ro n rc) (.slice lo c lc) (.bool true))
       have PO:=aa ((uH Y).putU f (.int .i64 r) (.int .i64 r) (.slice Q nq U) (.int .i64 r) (.int .i64 c) (.slice ro n rc) (.slice lo c lc) (.bool true))
       clear f M G SQ SB Y
       go_wp2_with fail
       exact bodyPost_ret (v:=.agg #[.int .i64 r,.int .i64 r,.slice Q nq U,.int .i64 r,.int .i64 c,.slice ro n rc,.slice lo c lc,.bool true]) (by simp[results,Tryz.results11,go_sem,z0,z1,z2,z3,z4,z5,z6,z7]) rfl ⟨.inl ⟨uH ce,Q,U,ro,rc,lo,lc,rfl,uH PQ,uH PR,uH PO⟩,uH BP⟩
end Go.Proofs.YtnnfjeieennffaaGreatDoor
namespace Go.Proofs.YtnnfjeieennffaaGreatDoor
open Go.RowKit
theorem oO{S:List Nat}(h:∀x∈S,x<18446744073709551616)(c p q:Nat):gJ c S p q<18446744073709551616:=by
 unfold gJ
 rw[List.getD_eq_getElem?_getD]
 cases e:S[p*c+q]? with
 |none=>decide
 |some x=>exact h x (List.mem_of_getElem? e)
theorem ru{S:List Nat}(h:∀x∈S,x<18446744073709551616)(c i n q:Nat):∀x∈dg c S i n q,x<18446744073709551616:=by
 intro x d
 obtain⟨j,_,rfl⟩:=List.mem_map.1 d
 exact oO h c _ _
theorem Iw{r c:Nat}{S:List Nat}(f:∀x∈S,x<18446744073709551616)(i k:Nat)(h:List Nat)(d:Nat):∀x∈mT r c S i k h d,x<18446744073709551616:=by
 intro x l
 unfold mT fu at l
 obtain⟨p,_,rfl⟩:=List.mem_map.1 l
 show(if _ then _ else _)<_
 split
 ·exact vF c S i _ h d (by omega) (fun p q=>oO f c p q)
 ·exact oO f c _ _
theorem Ix{r c:Nat}{S:List Nat}(f:∀x∈S,x<18446744073709551616)(j b:Nat)(h:b<18446744073709551616):∀x∈Gl r c S j b,x<18446744073709551616:=by
 intro x d
 unfold Gl Dx fu at d
 obtain⟨p,_,rfl⟩:=List.mem_map.1 d
 show(if _ then(if _ then _ else _)else _)<_
 split
 ·split
  ·exact h
  ·decide
 ·exact oO f c _ _
theorem xl{w:World}{f:Option Addr}{c:Nat}{d:List Nat}(h:ad w f c (az d))(l:d.length≤64):
  Calls Tryz.prog 34 #[.slice f d.length c] w fun e w'=>e=.returned (.bool (cY d))∧Below w.heap.size w w':=by
 have:=kL f c (az d) w h (by rw[al];omega)
 rw[al]at this
 exact this
theorem FK(r c:Nat)(S:List Nat):∀K,Dy r c S K=true↔∀j,j<K→FI r c (eQ r c S j) j=true:=by
 intro K
 induction K with
 |zero=>exact⟨fun _ j h=>absurd h (Nat.not_lt_zero j),fun _=>rfl⟩
 |succ K ih=>
  show(Dy r c S K&&FI r c (eQ r c S K) K)=true↔_
  rw[Bool.and_eq_true,ih]
  constructor
  ·rintro⟨f,l⟩ j d
   by_cases g:j<K
   ·exact f j g
   ·rw[show j=K by omega];exact l
  ·intro h
   exact⟨fun j d=>h j (by omega),h K (by omega)⟩
theorem rx(r c:Nat)(S:List Nat)(j:Nat):FI r c S j=true↔vL r c S j=true∧(j+1<r→yV (jz r c (px r c S j) j)=true):=by
 unfold FI
 rw[Bool.and_eq_true,Bool.or_eq_true,decide_eq_true_eq]
 constructor
 ·rintro⟨d,f⟩
  exact⟨d,fun h=>f.resolve_left (by omega)⟩
 ·rintro⟨d,f⟩
  refine⟨d,?_⟩
  by_cases g:j+1<r
  ·exact .inr (f g)
  ·exact .inl (by omega)
theorem FL(r c:Nat)(S:List Nat):xh r c S=true↔((∀j,j<fH r c→vL r c (eQ r c S j) j=true∧yV (eR r c S j)=true)∧(decide (fH r c<c∧fH r c<r)=true→vL r c (eQ r c S (fH r c)) (fH r c)=true)∧cY (vN r c S)=true∧cY (us r c S)=true):=by
 unfold xh
 rw[Bool.and_eq_true,Bool.and_eq_true,FK]
 have A:fH r c=min c (r-1):=rfl
 constructor
 ·rintro⟨d,f,l⟩
  refine⟨fun j m=>?_,fun t=>?_,f,l⟩
  ·obtain⟨a,b⟩:=(rx _ _ _ _).1 (d j (by omega))
   exact⟨a,b (by omega)⟩
  ·have:=of_decide_eq_true t
   exact((rx _ _ _ _).1 (d (fH r c) (by omega))).1
 ·rintro⟨d,f,l,z⟩
  refine⟨fun j m=>(rx _ _ _ _).2 ?_,l,z⟩
  by_cases g:j<fH r c
  ·exact⟨(d j g).1,fun _=>(d j g).2⟩
  ·have e:j=fH r c:=by omega
   refine⟨?_,fun h=>absurd h (by omega)⟩
   rw[e]
   exact f (decide_eq_true (by omega))
theorem Iy{r c:Nat}{S:List Nat}(f:∀x∈S,x<18446744073709551616)(L:List Nat):∀x∈Is r c S L,x<18446744073709551616:=by
 intro x d
 unfold Is fu at d
 obtain⟨p,_,rfl⟩:=List.mem_map.1 d
 exact oO f c _ _
theorem vU{r c:Nat}{S:List Nat}(d:∀x∈S,x<18446744073709551616)(j:Nat):∀x∈px r c S j,x<18446744073709551616:=Iy d _
theorem ry{r c:Nat}{S:List Nat}(d:∀x∈S,x<18446744073709551616):∀j,∀x∈eQ r c S j,x<18446744073709551616
 |0=>d
 |j+1=>by
  have h:=vU (r:=r) (c:=c) (ry (r:=r) (c:=c) d j) j
  show∀x∈vM r c (eQ r c S j) j,x<18446744073709551616
  unfold vM
  split
  ·exact Ix (Iw h _ _ _ _) _ _ (Cq _ (ru h _ _ _ _))
  ·exact h
theorem Iz{c j a:Nat}(d:j<c)(f:a<c):∀y,y<(oJ (List.range c) j a).length→(oJ (List.range c) j a).getD y 0<c:=by
 intro y h
 rw[eH]at h
 rw[CJ _ (by rw[List.length_range];exact d) (by rw[List.length_range];exact f),ig d,ig f,ig h]
 split
 ·exact d
 ·split
  ·exact f
  ·exact h
theorem jw(r c:Nat)(S:List Nat){j:Nat}(d:j≤c):∀x∈zd r c S j,x<c:=fun _ f=>List.mem_range.1 ((tN r c S j d).mem_iff.1 f)
theorem pA(r c O:Nat)(ao:Option Addr)(S:List Nat)(w:World)(h:Mx w ao O r c S):
  Calls Tryz.prog 11 #[.agg #[.int .i64 r,.int .i64 c,.slice ao S.length O]] w fun e w'=>Dd w' (xh r c S) r c (r*r) S.length (vN r c S) (us r c S) (CQ r c S) e∧Below w.heap.size w w':=by
 have M:=h.2.1
 have D:=h.2.2.1
 have N:=h.2.2.2
 have hq:fH r c=min c (r-1):=rfl
 have lR:=fun j=>(fW r c S M j).trans M.symm
 have lW:∀j,(px r c (eQ r c S j) j).length=S.length:=fun j=>(jt r c _ _).trans M.symm
 have Q:∀j,(eR r c S j).length=r-j:=rm r c S
 have lV:∀j,(jI (eR r c S j)).length=r-j:=fun j=>by rw[mR,Q]
 refine vT r c S.length (r*r) O (fH r c) ao (eQ r c S) (fun j=>px r c (eQ r c S j) j) (fun j=>mT r c (px r c (eQ r c S j) j) j j (jI (eR r c S j)) (mq (eR r c S j))) (eR r c S) (fun j=>jI (eR r c S j)) (ze r (eR r c S) (fH r c)) (zd r c S) (fun j=>oJ (List.range c) j (oI r c (eQ r c S j) j)) (fun j=>mq (eR r c S j)) (fun j=>Cp (eR r c S j)) (fun j=>oI r c (eQ r c S j) j) (fun j=>vL r c (eQ r c S j) j) (fun j=>yV (eR r c S j)) (cY (vN r c S)) (cY (us r c S)) (xh r c S) (decide (fH r c<c∧fH r c<r)) (us r c S) (CQ r c S) w D N (iL r c) h.1 lR lW lV rfl decide_eq_true_iff (fun F=>?_) (fun F=>?_) (FL r c S) (fun w'=>?_) (fun w' j m z l ae f=>?_) (fun w' j m z l G=>?_) (fun w' j m z l G=>?_) (fun w' j m z K L l ae f G=>?_) ?_ ?_ ?_ ?_ ?_ ?_ ?_ ?_ ?_
 ·have F:=of_decide_eq_true F
  have e:min c r=fH r c+1:=by omega
  refine⟨?_,?_⟩
  ·show eQ r c S (min c r)=_
   rw[e]
   show vM r c (eQ r c S (fH r c)) (fH r c)=_
   unfold vM
   rw[if_neg (by omega)]
  ·show zd r c S (min c r)=_
   rw[e]
 ·have F:=of_decide_eq_false F
  have e:min c r=fH r c:=by omega
  exact⟨by show eQ r c S (min c r)=_;rw[e],by show zd r c S (min c r)=_;rw[e]⟩
 ·refine(tR c w' (by omega)).mono ?_
  rintro e A ⟨lo,lc,rfl,G,f⟩
  exact⟨lo,lc,rfl,G.least (Nat.zero_le _),f⟩
 ·have:=py r c z j m (eQ r c S j) w' ⟨f,fW r c S M j,D,N⟩ l (by omega)
  rw[lR j]at this
  exact this
 ·obtain⟨a,d,e,Y⟩:=G.ints (fun x V=>by have:=List.mem_range.1 V;omega)
  rw[List.length_range]at e
  simp only[Value.slice.injEq]at e
  obtain⟨rfl,_,rfl⟩:=e
  have:=kR j (oI r c (eQ r c S j) j) z m (List.range c) w' Y (by rw[List.length_range];exact l) (by rw[List.length_range];exact jc r c _ l) (by rw[List.length_range];omega)
  rw[List.length_range]at this
  refine this.mono ?_
  rintro e A ⟨K,L,rfl,G,f⟩
  exact⟨K,L,rfl,G.least (Nat.zero_le _),f⟩
 ·have X:=iM r c S j
  obtain⟨a,d,e,Y⟩:=G.ints (fun x V=>by have:=jw r c S (by omega) x V;omega)
  rw[X]at e
  simp only[Value.slice.injEq]at e
  obtain⟨rfl,_,rfl⟩:=e
  have:=kR j (oI r c (eQ r c S j) j) z m (zd r c S j) w' Y (by rw[X];exact l) (by rw[X];exact jc r c _ l) (by rw[X];omega)
  rw[X]at this
  refine this.mono ?_
  rintro e A ⟨K,L,rfl,G,f⟩
  exact⟨K,L,rfl,G.least (Nat.zero_le _),f⟩
 ·have hA:=jc r c (eQ r c S j) l
  have hL:=eH c j (oI r c (eQ r c S j) j)
  obtain⟨a,d,e,Y⟩:=G.ints (fun x V=>by
   have:=List.mem_range.1 ((tM (List.range c) (by rw[List.length_range];exact l) (by rw[List.length_range];exact hA)).mem_iff.1 V)
   omega)
  rw[hL]at e
  simp only[Value.slice.injEq]at e
  obtain⟨rfl,_,rfl⟩:=e
  have:=rt r c z L m K (eQ r c S j) (oJ (List.range c) j (oI r c (eQ r c S j) j)) w' ⟨f,fW r c S M j,D,N⟩ Y (by rw[hL];exact N) (Iz l hA)
  rw[lR j,hL]at this
  refine this.mono ?_
  rintro e A ⟨v,rfl,⟨no,nc,rfl,_,hq⟩,f⟩
  refine⟨no,nc,?_,hq,f⟩
  rw[show(Is r c (eQ r c S j) (oJ (List.range c) j (oI r c (eQ r c S j) j))).length=S.length from lW j]
 ·intro w' j m z l f
  have H:=(iL r c j).1 l
  have:=lN r c z j j m (px r c (eQ r c S j) j) w' ⟨f,jt r c _ _,D,N⟩ (by omega) (by omega)
  rw[lW j]at this
  exact this
 ·intro w' j bo d l hk f
  have H:=(iL r c j).1 l
  have:=tP bo d (az (eR r c S j)) w' f (by rw[al,Q];omega) (by rw[al,Q];omega) (by rw[cE];exact hk)
  rw[cE,al,Q]at this
  exact this
 ·intro w' j bo d l hk f
  have H:=(iL r c j).1 l
  have:=vP bo d (az (eR r c S j)) w' f (by rw[al,Q];omega) (by rw[al,Q];omega) (by rw[cE];exact hk)
  rw[al,Q]at this
  exact this
 ·intro w' j m z vo vc l Z hv
  have H:=(iL r c j).1 l
  have:=kS r c z j j (mq (eR r c S j)) m vo vc (px r c (eQ r c S j) j) (jI (eR r c S j)) w' ⟨Z,jt r c _ _,D,N⟩ hv (by rw[lV];omega) (by omega) (rf _)
  rw[lW j,lV]at this
  exact this
 ·intro w' j m z l Z
  have H:=(iL r c j).1 l
  have la:(mT r c (px r c (eQ r c S j) j) j j (jI (eR r c S j)) (mq (eR r c S j))).length=S.length:=by rw[gL,M]
  have hB:Cp (eR r c S j)<18446744073709551616:=Cq _ (ru (vU (ry h.1.nat j) j) _ _ _ _)
  have e:eQ r c S (j+1)=Gl r c (mT r c (px r c (eQ r c S j) j) j j (jI (eR r c S j)) (mq (eR r c S j))) j (Cp (eR r c S j)):=by
   show vM r c (eQ r c S j) j=_
   unfold vM
   rw[if_pos (by omega)]
   rfl
  have:=rq r c z j (Cp (eR r c S j)) m _ w' ⟨Z,gL _ _ _ _ _ _ _,D,N⟩ (by omega) (by omega) hB
  rw[la]at this
  rw[e]
  exact this
 ·intro w'
  refine(Cu r w' D).mono ?_
  rintro e A ⟨v,rfl,⟨K,L,rfl,_,f⟩,U⟩
  exact⟨K,L,by rw[show(yT r).length=r*r from cT r r _],f,U⟩
 ·intro w' t j m z vo vc ht l Z hv
  have H:=(iL r c j).1 (by omega)
  have:=kS r r z j 0 (mq (eR r c S j)) m vo vc (ze r (eR r c S) (fH r c) t) (jI (eR r c S j)) w' ⟨Z,dU r _ _ t,D,D⟩ hv (by rw[lV];omega) (by omega) (rf _)
  rw[dU,lV]at this
  refine this.mono ?_
  rintro e A ⟨K,L,rfl,f,U⟩
  refine⟨K,L,rfl,?_,U⟩
  show ad A K L (az (mT r r (ze r (eR r c S) (fH r c) t) (fH r c-1-t) 0 (jI (eR r c S (fH r c-1-t))) (mq (eR r c S (fH r c-1-t)))))
  rw[←l]
  exact f
 ·intro w' m z f
  have hs:r*r≤36:=Nat.mul_le_mul D D
  have:=xl f (by rw[dU];omega)
  rw[dU]at this
  exact this
 ·intro w' m z f
  have hs:r*c≤36:=Nat.mul_le_mul D N
  have hR:(us r c S).length=r*c:=fW r c S M _
  have:=xl f (by rw[hR];omega)
  rw[hR,←M]at this
  exact this
end Go.Proofs.YtnnfjeieennffaaGreatDoor
