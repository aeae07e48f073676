/- Part 37 of the texts. -/
import Derived.Test.YtlnphkioddknfaaGreatDoorParty36
import Derived.Laws.CopyOwn
set_option maxHeartbeats 2000000
set_option maxRecDepth 20000
namespace Go.Proofs.YtlnphkioddknfaaGreatDoor
open Go.RowKit
def cg(w:World)(g:Nat)(x0 x1 x2 x3 x4 x5 x6:Value):Prop:=w.heap[g]? =some (.cells #[x0,x1,x2,x3,x4,x5,x6] 89 (0,0))
theorem cg.c0{w:World}{g:Nat}{d f l m t y z:Value}(h:cg w g d f l m t y z):w.cell? ⟨g,0,none⟩=some d:=by rw[cell_of_row w g 0 _ _ _ h];rfl
theorem cg.c1{w:World}{g:Nat}{f d l m t y z:Value}(h:cg w g f d l m t y z):w.cell? ⟨g,1,none⟩=some d:=by rw[cell_of_row w g 1 _ _ _ h];rfl
theorem cg.c2{w:World}{g:Nat}{f l d m t y z:Value}(h:cg w g f l d m t y z):w.cell? ⟨g,2,none⟩=some d:=by rw[cell_of_row w g 2 _ _ _ h];rfl
theorem cg.c3{w:World}{g:Nat}{f l m d t y z:Value}(h:cg w g f l m d t y z):w.cell? ⟨g,3,none⟩=some d:=by rw[cell_of_row w g 3 _ _ _ h];rfl
theorem cg.c4{w:World}{g:Nat}{f l m t d y z:Value}(h:cg w g f l m t d y z):w.cell? ⟨g,4,none⟩=some d:=by rw[cell_of_row w g 4 _ _ _ h];rfl
theorem cg.c5{w:World}{g:Nat}{f l m t y d z:Value}(h:cg w g f l m t y d z):w.cell? ⟨g,5,none⟩=some d:=by rw[cell_of_row w g 5 _ _ _ h];rfl
theorem cg.c6{w:World}{g:Nat}{f l m t y z d:Value}(h:cg w g f l m t y z d):w.cell? ⟨g,6,none⟩=some d:=by rw[cell_of_row w g 6 _ _ _ h];rfl
theorem cg.free{w:World}{g:Nat}{d f l m t y z:Value}(h:cg w g d f l m t y z)(j:Nat):w.frozen? ⟨g,j,none⟩=false:=frozen_of_row w g j _ _ h
theorem cg.lt{w:World}{g:Nat}{d f l m t y z:Value}(h:cg w g d f l m t y z):g<w.heap.size:=(Array.getElem?_eq_some_iff.1 h).1
theorem cg.below{w f:World}{g:Nat}{l m t y z A D:Value}(h:cg w g l m t y z A D){B:Nat}(F:Below B w f)(d:g<B):cg f g l m t y z A D:=(F.block g d).trans h
theorem cg.all{w d:World}{g:Nat}{f l m t y z A:Value}(h:cg w g f l m t y z A)(D:Below w.heap.size w d):cg d g f l m t y z A:=h.below D h.lt
theorem cg.new(w:World)(d f h l m t y:Value):cg (w.alloc (.cells #[d,f,h,l,m,t,y] 89)) w.heap.size d f h l m t y:=heap_alloc_new w _
theorem cg.other{w:World}{g:Nat}{d f l m t y z:Value}(h:cg w g d f l m t y z){p:Addr}(A:g≠p.block)(u:Value):cg (w.setCell p u) g d f l m t y z:=(Below.heap_setCell w p u g A).trans h
theorem cg.put{w:World}{g:Nat}{d f l m t y z:Value}(h:cg w g d f l m t y z)(u0 u1 u2 u3 u4 u5 u6:Value):cg (((((((w.setCell ⟨g,0,none⟩ u0).setCell ⟨g,1,none⟩ u1).setCell ⟨g,2,none⟩ u2).setCell ⟨g,3,none⟩ u3).setCell ⟨g,4,none⟩ u4).setCell ⟨g,5,none⟩ u5).setCell ⟨g,6,none⟩ u6) g u0 u1 u2 u3 u4 u5 u6:=by
 have A:=heap_setCell_same w g 0 _ _ u0 h
 have D:=heap_setCell_same (w.setCell ⟨g,0,none⟩ u0) g 1 _ _ u1 A
 have F:=heap_setCell_same ((w.setCell ⟨g,0,none⟩ u0).setCell ⟨g,1,none⟩ u1) g 2 _ _ u2 D
 have G:=heap_setCell_same (((w.setCell ⟨g,0,none⟩ u0).setCell ⟨g,1,none⟩ u1).setCell ⟨g,2,none⟩ u2) g 3 _ _ u3 F
 have H:=heap_setCell_same ((((w.setCell ⟨g,0,none⟩ u0).setCell ⟨g,1,none⟩ u1).setCell ⟨g,2,none⟩ u2).setCell ⟨g,3,none⟩ u3) g 4 _ _ u4 G
 have I:=heap_setCell_same (((((w.setCell ⟨g,0,none⟩ u0).setCell ⟨g,1,none⟩ u1).setCell ⟨g,2,none⟩ u2).setCell ⟨g,3,none⟩ u3).setCell ⟨g,4,none⟩ u4) g 5 _ _ u5 H
 have K:=heap_setCell_same ((((((w.setCell ⟨g,0,none⟩ u0).setCell ⟨g,1,none⟩ u1).setCell ⟨g,2,none⟩ u2).setCell ⟨g,3,none⟩ u3).setCell ⟨g,4,none⟩ u4).setCell ⟨g,5,none⟩ u5) g 6 _ _ u6 I
 unfold cg
 rw[K]
 simp
theorem dj{w f:World}{B g:Nat}(h:Below B w f)(d:B≤g)(u0 u1 u2 u3 u4 u5 u6:Value):Below B w (((((((f.setCell ⟨g,0,none⟩ u0).setCell ⟨g,1,none⟩ u1).setCell ⟨g,2,none⟩ u2).setCell ⟨g,3,none⟩ u3).setCell ⟨g,4,none⟩ u4).setCell ⟨g,5,none⟩ u5).setCell ⟨g,6,none⟩ u6):=
 ((((((h.setCell d _).setCell d _).setCell d _).setCell d _).setCell d _).setCell d _).setCell d _
theorem cg.away{w:World}{g:Nat}{a b m t:Int}{o y:Option Addr}{n d A D:Nat}{f:Bool}(h:cg w g (.int .i64 a) (.int .i64 b) (.slice o n d) (.int .i64 m) (.int .i64 t) (.slice y A D) (.bool f)){k j:Nat}{z:Int}(l:w.cell? ⟨k,j,none⟩=some (.int .u64 z)):k≠g:=by
 rintro rfl
 rw[cell_of_row w k j _ _ _ h]at l
 match j with
 |0=>simp at l
 |1=>simp at l
 |2=>simp at l
 |3=>simp at l
 |4=>simp at l
 |5=>simp at l
 |6=>simp at l
 |j+7=>simp at l
theorem Dk{w:World}{ao:Option Addr}{c:Nat}{I:List Int}(h:ac w ao c I){g:Nat}(f:∀k j z,w.cell? ⟨k,j,none⟩=some (.int .u64 z)→k≠g):I= []∨∃b d,ao=some ⟨b,d,none⟩∧b≠g:=by
 rcases h.2.2 with e|⟨b,d,l,t,m⟩
 ·exact .inl e
 ·cases hI:I with
  |nil=>exact .inl rfl
  |cons x xs=>exact .inr ⟨b,d,l,f b (d+0) _ (m 0 (by rw[hI];simp))⟩
theorem ga{w:World}{ao:Option Addr}{c:Nat}{I:List Int}(h:ac w ao c I){g:Nat}{a b m t:Int}{o y:Option Addr}{n d A D:Nat}{f:Bool}(F:cg w g (.int .i64 a) (.int .i64 b) (.slice o n d) (.int .i64 m) (.int .i64 t) (.slice y A D) (.bool f))(u0 u1 u2 u3 u4 u5 u6:Value):ac (((((((w.setCell ⟨g,0,none⟩ u0).setCell ⟨g,1,none⟩ u1).setCell ⟨g,2,none⟩ u2).setCell ⟨g,3,none⟩ u3).setCell ⟨g,4,none⟩ u4).setCell ⟨g,5,none⟩ u5).setCell ⟨g,6,none⟩ u6) ao c I:=by
 have l:=Dk h (g:=g) (fun k j z G=>F.away G)
 exact((((((h.other (p:=⟨g,0,none⟩) l _).other (p:=⟨g,1,none⟩) l _).other (p:=⟨g,2,none⟩) l _).other (p:=⟨g,3,none⟩) l _).other (p:=⟨g,4,none⟩) l _).other (p:=⟨g,5,none⟩) l _).other (p:=⟨g,6,none⟩) l _
attribute [local go_sem ↓] Go.wp_at_zero Go.wp_at_succ
def gD(g:Option Nat)(ao:Option Addr)(I:List Int):Prop:=I= []∨∃b off,ao=some ⟨b,off,none⟩∧some b≠g
theorem gD.new{H:Nat}{ao:Option Addr}{I:List Int}(h:bH H ao I){g:Option Nat}(f:∀k,g=some k→k<H):gD g ao I:=by
 rcases h with e|⟨b,d,l,m⟩
 ·exact .inl e
 ·exact .inr ⟨b,d,l,fun e=>by have:=f b e.symm;omega⟩
theorem gD.old{w:World}{ao:Option Addr}{c:Nat}{I:List Int}(h:ac w ao c I){g:Option Nat}(f:∀k,g=some k→w.heap.size≤k):gD g ao I:=by
 rcases h.2.2 with e|⟨b,d,l,m,_⟩
 ·exact .inl e
 ·exact .inr ⟨b,d,l,fun e=>by have:=f b e.symm;omega⟩
theorem ff{w m:World}{ao:Option Addr}{c:Nat}{I:List Int}{g:Option Nat}(h:ac w ao c I)(A:gD g ao I)(t:w.grownBy m g):ac m ao c I:=by
 refine⟨h.1,h.2.1,?_⟩
 rcases h.2.2 with e|⟨b,d,e,y,F⟩
 ·exact .inl e
 ·rcases A with f|⟨G,z,f,l⟩
  ·exact .inl f
  ·rw[e]at f
   simp only[Option.some.injEq,Addr.mk.injEq]at f
   obtain⟨rfl,rfl,_⟩:=f
   refine .inr ⟨b,d,e,Nat.lt_of_lt_of_le y t.size,fun i D=>?_⟩
   rw[World.cell?_of_block (a:=⟨b,d+i,none⟩) (t.block b y l)]
   exact F i D
theorem dC.putQ{f:Nat}{w:World}{v:Value}{R:List Mr}(h:dC f w v R){g:Nat}{x y:Int}{o:Option Addr}{n d:Nat}(t:aq w g (.int .i64 x) (.int .i64 y) (.slice o n d))(u u' u'':Value):dC f (((w.setCell ⟨g,0,none⟩ u).setCell ⟨g,1,none⟩ u').setCell ⟨g,2,none⟩ u'') v R:=by
 refine⟨⟨h.1.1,?_⟩,fun z A=>⟨(h.2 z A).1.putM t u u' u'',(h.2 z A).2⟩⟩
 rcases h.1.2 with e|⟨k,cap,m,F,G,D,rest⟩
 ·exact .inl e
 ·have l:k≠g:=by
   rintro rfl
   have e:=D.symm.trans t
   simp at e
  exact .inr ⟨k,cap,m,F,G,(Below.heap_setCell _ ⟨g,2,none⟩ u'' k l).trans ((Below.heap_setCell _ ⟨g,1,none⟩ u' k l).trans ((Below.heap_setCell _ ⟨g,0,none⟩ u k l).trans D)),rest⟩
theorem dC.apart{d:Nat}{w:World}{b l m:Nat}{R:List Mr}(h:dC d w (.slice (some ⟨b,0,none⟩) l m) R){g:Nat}{x y z:Value}(t:aq w g x y z):b≠g:=by
 rcases h.1.2 with⟨e,_⟩|⟨k,cap,A,f,F,D,rest⟩
 ·cases e
 ·simp only[Value.slice.injEq,Option.some.injEq,Addr.mk.injEq]at f
  obtain⟨⟨rfl,_⟩,_⟩:=f
  rintro rfl
  have e:=D.symm.trans t
  simp at e
structure iD (w wr:World) (r c n cap:Nat) (ao:Option Addr) (S:List Nat) (ro:Option Addr) (rc:Nat) (v:Value) (R:List Mr):Prop where
 bel:Below w.heap.size w wr
 a:aq wr w.heap.size (.int .i64 r) (.int .i64 c) (.slice ao n cap)
 res:cg wr (w.heap.size+1) (.int .i64 0) (.int .i64 0) (.slice none 0 0) (.int .i64 0) (.int .i64 0) (.slice none 0 0) (.bool false)
 rb:aq wr (w.heap.size+1+1) (.int .i64 r) (.int .i64 c) (.slice ro n rc)
 bits:ac wr ro rc (ar S)
 len:S.length=n
 l:dC (w.heap.size+1+1+1) wr v R
 off:gD v.ownBlock ro (ar S)
theorem iD.all{w wr f:World}{r c n cap:Nat}{ao:Option Addr}{S:List Nat}{m:Option Addr}{t:Nat}{v:Value}{R:List Mr}(h:iD w wr r c n cap ao S m t v R)(d:Below wr.heap.size wr f):iD w f r c n cap ao S m t v R:=
 ⟨h.bel.trans (d.mono h.bel.size),h.a.all d,h.res.all d,h.rb.all d,h.bits.below d,h.len,h.l.below d,h.off⟩
theorem iD.put{w wr:World}{r c n cap:Nat}{ao:Option Addr}{S:List Nat}{y:Option Addr}{z:Nat}{v:Value}{R:List Mr}(h:iD w wr r c n cap ao S y z v R){U:List Nat}{d:Option Addr}{f:Nat}(A:ac wr d f (ar U))(D:U.length=n)(F:gD v.ownBlock d (ar U)):
  iD w (((wr.setCell ⟨w.heap.size+1+1,0,none⟩ (.int .i64 r)).setCell ⟨w.heap.size+1+1,1,none⟩ (.int .i64 c)).setCell ⟨w.heap.size+1+1,2,none⟩ (.slice d n f)) r c n cap ao U d f v R:=by
 have m:w.heap.size≠w.heap.size+1+1:=by omega
 have t:w.heap.size+1≠w.heap.size+1+1:=by omega
 exact⟨ai h.bel (by omega) _ _ _,((h.a.other (p:=⟨w.heap.size+1+1,0,none⟩) m _).other (p:=⟨w.heap.size+1+1,1,none⟩) m _).other (p:=⟨w.heap.size+1+1,2,none⟩) m _,((h.res.other (p:=⟨w.heap.size+1+1,0,none⟩) t _).other (p:=⟨w.heap.size+1+1,1,none⟩) t _).other (p:=⟨w.heap.size+1+1,2,none⟩) t _,h.rb.put _ _ _,A.putM h.rb _ _ _,D,h.l.putM h.rb (by omega) _ _ _,F⟩
theorem iD.push{w wr:World}{r c n cap:Nat}{ao:Option Addr}{S:List Nat}{A:Option Addr}{D:Nat}{v:Value}{R:List Mr}(h:iD w wr r c n cap ao S A D v R)(x:Mr)(G:ac wr x.ao x.cap (ar x.V))(H:gD v.ownBlock x.ao (ar x.V))(I:R.length≤1000000)(F:TypeId):
  ∃d f,(Builtin.append_ #[148,148] F #[v,.slice (some ⟨wr.heap.size,0,none⟩) 1 1]).run Tryz.prog (wr.alloc (.cells #[.slice x.ao x.V.length x.cap,.int .u64 (x.tau:Nat),.int .u64 (x.beta:Nat)] 150))=.ok d f∧iD w f r c n cap ao S A D d (R++[x]):=by
 have K:w.heap.size+1+1+1≤wr.heap.size:=h.rb.lt
 obtain⟨d,f,M,N,m,O,Q⟩:=h.l.push x G (by
  rcases H with e|e
  ·exact .inl (by cases hV:x.V with
    |nil=>rfl
    |cons y ys=>rw[hV]at e;cases e)
  ·exact .inr e) I K F
 have L:=ab wr (.cells #[.slice x.ao x.V.length x.cap,.int .u64 (x.tau:Nat),.int .u64 (x.beta:Nat)] 150)
 refine⟨d,f,M,h.bel.trans (m.mono (by omega)),h.a.below m (by omega),h.res.below m (by omega),h.rb.below m (by omega),ff (h.bits.below L) h.off O,h.len,N,?_⟩
 rcases Q with e|e
 ·rw[e];exact h.off
 ·rw[e]
  rcases h.bits.2.2 with z|⟨b,t,z1,z2,_⟩
  ·exact .inl z
  ·exact .inr ⟨b,t,z1,fun z=>by cases z;omega⟩
theorem iD.start(w:World)(r c n cap:Nat)(ao:Option Addr)(S:List Nat)(D:ac w ao cap (ar S))(L:S.length=n):
  iD w ((((w.alloc (.cells #[.int .i64 r,.int .i64 c,.slice ao n cap] 24)).alloc (.cells #[.int .i64 0,.int .i64 0,.slice none 0 0,.int .i64 0,.int .i64 0,.slice none 0 0,.bool false] 89)).alloc (.cells #[.int .i64 r,.int .i64 c,.slice ao n cap] 24)).alloc (.cells #[] 150)) r c n cap ao S ao cap (.slice (some ⟨w.heap.size+1+1+1,0,none⟩) 0 0) []:=by
 have y:=ab w (.cells #[.int .i64 r,.int .i64 c,.slice ao n cap] 24)
 have N:=ad w (.cells #[.int .i64 r,.int .i64 c,.slice ao n cap] 24)
 have O:=aq.new w (.int .i64 r) (.int .i64 c) (.slice ao n cap)
 have Q:=D.below y
 generalize w.alloc (.cells #[.int .i64 r,.int .i64 c,.slice ao n cap] 24)=m at*
 have z:=ab m (.cells #[.int .i64 0,.int .i64 0,.slice none 0 0,.int .i64 0,.int .i64 0,.slice none 0 0,.bool false] 89)
 have F:=ad m (.cells #[.int .i64 0,.int .i64 0,.slice none 0 0,.int .i64 0,.int .i64 0,.slice none 0 0,.bool false] 89)
 have G:=cg.new m (.int .i64 0) (.int .i64 0) (.slice none 0 0) (.int .i64 0) (.int .i64 0) (.slice none 0 0) (.bool false)
 generalize m.alloc (.cells #[.int .i64 0,.int .i64 0,.slice none 0 0,.int .i64 0,.int .i64 0,.slice none 0 0,.bool false] 89)=t at*
 have l:=ab t (.cells #[.int .i64 r,.int .i64 c,.slice ao n cap] 24)
 have A:=ad t (.cells #[.int .i64 r,.int .i64 c,.slice ao n cap] 24)
 have H:=aq.new t (.int .i64 r) (.int .i64 c) (.slice ao n cap)
 generalize t.alloc (.cells #[.int .i64 r,.int .i64 c,.slice ao n cap] 24)=K at*
 rw[N]at G F
 rw[F]at H A
 have d:=ab K (.cells #[] 150)
 have I:=dC.start K (w.heap.size+1+1+1) (Nat.le_of_eq A.symm)
 rw[A]at I
 have f:=y.trans (z.mono y.size)
 have h:=f.trans (l.mono f.size)
 exact⟨h.trans (d.mono h.size),((O.all z).all l).all d,(G.all l).all d,H.all d,((Q.below z).below l).below d,L,I,gD.old D (fun k M=>by simp[Value.ownBlock]at M;omega)⟩
theorem iD.far{w wr:World}{r c n cap:Nat}{ao:Option Addr}{S:List Nat}{A:Option Addr}{D:Nat}{v:Value}{R:List Mr}(h:iD w wr r c n cap ao S A D v R){g:Nat}{x y:Int}{o:Option Addr}{m d:Nat}(F:aq wr g (.int .i64 x) (.int .i64 y) (.slice o m d))(G:w.heap.size+1+1+1≤g)(u u' u'':Value):
  iD w (((wr.setCell ⟨g,0,none⟩ u).setCell ⟨g,1,none⟩ u').setCell ⟨g,2,none⟩ u'') r c n cap ao S A D v R:=by
 have f:w.heap.size≠g:=by omega
 have t:w.heap.size+1≠g:=by omega
 have z:w.heap.size+1+1≠g:=by omega
 exact⟨ai h.bel (by omega) _ _ _,((h.a.other (p:=⟨g,0,none⟩) f _).other (p:=⟨g,1,none⟩) f _).other (p:=⟨g,2,none⟩) f _,((h.res.other (p:=⟨g,0,none⟩) t _).other (p:=⟨g,1,none⟩) t _).other (p:=⟨g,2,none⟩) t _,((h.rb.other (p:=⟨g,0,none⟩) z _).other (p:=⟨g,1,none⟩) z _).other (p:=⟨g,2,none⟩) z _,h.bits.putM F _ _ _,h.len,h.l.putQ F _ _ _,h.off⟩
theorem zg{K:Act→World→Prop}{Q:Exit→Act→World→Prop}{a:Act}{w:World}(F:World→Prop)(h:F w)(k:∀W,F W→Exit.then K Q .normal a W):Exit.then K Q .normal a w:=k w h
def vL(w':World)(ok:Bool)(r c nq n:Nat)(Q R:List Nat)(e:Ending):Prop:=
 (ok=true∧∃qo qc ro rc,e=.returned (.agg #[.int .i64 r,.int .i64 r,.slice qo nq qc,.int .i64 r,.int .i64 c,.slice ro n rc,.bool true])∧ac w' qo qc (ar Q)∧ac w' ro rc (ar R))∨
 (ok=false∧e=.returned (.agg #[.int .i64 0,.int .i64 0,.slice none 0 0,.int .i64 0,.int .i64 0,.slice none 0 0,.bool false]))
theorem ju(a b:Nat)(w:World)(h:a<18446744073709551616)(l:b<18446744073709551616)(m:b7 w):
  Calls Tryz.prog 164 #[.int .u64 a,.int .u64 b] w fun r t=>r=.returned (.int .u64 (aV a (fN b):Nat))∧Below w.heap.size w t:=by
 have K:=aa (Bn a b w h l m)
 clear h l m
 generalize aV a (fN b)=o at*
 generalize aF a (fN b)=f at*
 go_enter Tryz.func164,Tryz.ntmps164
 go_wp2_with fail
 refine Calls.mono (uH K) ?_
 rintro e y ⟨rfl,d⟩
 clear K
 go_wp2
 go_ret
 exact⟨rfl,d⟩
theorem ov(a b:Nat)(w:World)(h:a<18446744073709551616)(l:b<18446744073709551616)(m:b7 w):
  Calls Tryz.prog 166 #[.int .u64 a,.int .u64 b] w fun r t=>r=.returned (.int .u64 (dV a b:Nat))∧Below w.heap.size w t:=by
 have K:=aa (Bv a b w h l m)
 clear h l m
 generalize dV a b=o at*
 generalize dF a b=f at*
 go_enter Tryz.func166,Tryz.ntmps166
 go_wp2_with fail
 refine Calls.mono (uH K) ?_
 rintro e y ⟨rfl,d⟩
 clear K
 go_wp2
 go_ret
 exact⟨rfl,d⟩
def lK(w wr:World)(r c n cap:Nat)(ao:Option Addr)(T:List Nat)(po:Option Addr)(pc:Nat):Prop:=
 aq wr w.heap.size (.int .i64 r) (.int .i64 c) (.slice ao n cap)∧aq wr (w.heap.size+1) (.int .i64 0) (.int .i64 0) (.slice none 0 0)∧aq wr (w.heap.size+1+1) (.int .i64 r) (.int .i64 c) (.slice po n pc)∧ac wr po pc (ar T)∧T.length=n∧Below w.heap.size w wr
theorem lK.all{w wr f:World}{r c n cap:Nat}{ao:Option Addr}{T:List Nat}{l:Option Addr}{m:Nat}(h:lK w wr r c n cap ao T l m)(d:Below wr.heap.size wr f):lK w f r c n cap ao T l m:=
 ⟨h.1.all d,h.2.1.all d,h.2.2.1.all d,h.2.2.2.1.below d,h.2.2.2.2.1,h.2.2.2.2.2.trans (d.mono h.2.2.2.2.2.size)⟩
theorem lK.put{w wr:World}{r c n cap:Nat}{ao:Option Addr}{T:List Nat}{y:Option Addr}{z:Nat}(h:lK w wr r c n cap ao T y z){U:List Nat}{d:Option Addr}{f:Nat}(A:ac wr d f (ar U))(D:U.length=n):
  lK w (((wr.setCell ⟨w.heap.size+1+1,0,none⟩ (.int .i64 r)).setCell ⟨w.heap.size+1+1,1,none⟩ (.int .i64 c)).setCell ⟨w.heap.size+1+1,2,none⟩ (.slice d n f)) r c n cap ao U d f:=by
 obtain⟨F,G,t,I,K,H⟩:=h
 have l:w.heap.size≠w.heap.size+1+1:=by omega
 have m:w.heap.size+1≠w.heap.size+1+1:=by omega
 exact⟨((F.other (p:=⟨w.heap.size+1+1,0,none⟩) l _).other (p:=⟨w.heap.size+1+1,1,none⟩) l _).other (p:=⟨w.heap.size+1+1,2,none⟩) l _,((G.other (p:=⟨w.heap.size+1+1,0,none⟩) m _).other (p:=⟨w.heap.size+1+1,1,none⟩) m _).other (p:=⟨w.heap.size+1+1,2,none⟩) m _,t.put _ _ _,A.putM t _ _ _,D,ai H (by omega) _ _ _⟩
theorem lK.start(w:World)(r c n cap:Nat)(ao:Option Addr)(T:List Nat)(D:ac w ao cap (ar T))(F:T.length=n):lK w (((w.alloc (.cells #[.int .i64 r,.int .i64 c,.slice ao n cap] 24)).alloc (.cells #[.int .i64 0,.int .i64 0,.slice none 0 0] 24)).alloc (.cells #[.int .i64 r,.int .i64 c,.slice ao n cap] 24)) r c n cap ao T ao cap:=by
 have l:=ab w (.cells #[.int .i64 r,.int .i64 c,.slice ao n cap] 24)
 have G:=ad w (.cells #[.int .i64 r,.int .i64 c,.slice ao n cap] 24)
 have H:=aq.new w (.int .i64 r) (.int .i64 c) (.slice ao n cap)
 have I:=D.below l
 generalize w.alloc (.cells #[.int .i64 r,.int .i64 c,.slice ao n cap] 24)=h at*
 have m:=ab h (.cells #[.int .i64 0,.int .i64 0,.slice none 0 0] 24)
 have t:=ad h (.cells #[.int .i64 0,.int .i64 0,.slice none 0 0] 24)
 have y:=aq.new h (.int .i64 0) (.int .i64 0) (.slice none 0 0)
 generalize h.alloc (.cells #[.int .i64 0,.int .i64 0,.slice none 0 0] 24)=A at*
 have f:=ab A (.cells #[.int .i64 r,.int .i64 c,.slice ao n cap] 24)
 have z:=aq.new A (.int .i64 r) (.int .i64 c) (.slice ao n cap)
 rw[G]at y t
 rw[t]at z
 have d:=l.trans (m.mono l.size)
 exact⟨(H.all m).all f,y.all f,z,(I.below m).below f,F,d.trans (f.mono d.size)⟩
theorem aY.three{w:World}{b g:Nat}{S:List Nat}(h:aY w b S)(d:b≠g)(u u' u'':Value):aY (((w.setCell ⟨g,0,none⟩ u).setCell ⟨g,1,none⟩ u').setCell ⟨g,2,none⟩ u'') b S:=by
 unfold aY
 rw[Below.heap_setCell _ ⟨g,2,none⟩ u'' b d,Below.heap_setCell _ ⟨g,1,none⟩ u' b d,Below.heap_setCell _ ⟨g,0,none⟩ u b d]
 exact h
theorem tI{w:World}{g b:Nat}{S:List Nat}(h:aY w g S){x y z:Value}(d:aq w b x y z):g≠b:=by
 intro e
 subst e
 unfold aY at h
 unfold aq at d
 rw[h]at d
 simp at d
theorem Dl(W:World)(g n cap:Nat)(ao:Option Addr)(S:List Nat)(h:aY W g (List.replicate n 0))(F:ac W ao cap (ar S))(A:S.length=n):
  ∃t,(∀l,(Builtin.copy_ #[22,22] l #[.slice (some ⟨g,0,none⟩) n n,.slice ao n cap]).run Tryz.prog W=.ok (.int .i64 (n:Int)) t)∧aY t g S∧Below g W t:=by
 rcases Nat.eq_zero_or_pos n with e|e
 ·subst e
  obtain rfl:S= []:=List.eq_nil_of_length_eq_zero A
  exact⟨W,fun l=>run_copy_none W _ _ l 37 _ _ 0 0 0 cap Tryz.underlying22 (by kernel_rfl) rfl,h,Below.refl _ _⟩
 ·obtain⟨b,f,rfl,I,H⟩:=F.ne (by rw[al];omega)
  have y:∀j v,(S.map ip)[j]? =some v→W.cell? ((⟨b,f,none⟩:Addr).add j)=some v:=by
   intro j v m
   rw[List.getElem?_map]at m
   obtain⟨x,D,rfl⟩:=Option.map_eq_some_iff.1 m
   have G:j<S.length:=(List.getElem?_eq_some_iff.1 D).1
   have:=H j (by rw[al];exact G)
   rw[di]at this
   rw[show(⟨b,f,none⟩:Addr).add j=⟨b,f+j,none⟩from by simp[Addr.add],this]
   rw[List.getD_eq_getElem?_getD,D]
   rfl
  have d:(S.map ip).length=n:=by rw[List.length_map,A]
  have z:=fun l=>run_copy_row Tryz.prog W 22 22 l 37 g 0 n n ⟨b,f,none⟩ n cap ((List.replicate n 0).map ip).toArray 37 (S.map ip) Tryz.underlying22 (by kernel_rfl) h (by rw[d];exact(Nat.min_self n).symm) y (by rw[d];simp) (fun v m=>by obtain⟨x,_,rfl⟩:=List.mem_map.1 m;rfl)
  refine⟨_,fun l=>(z l).trans (by rw[d];rfl),?_,below_setRow (Below.refl _ _) (Nat.le_refl _) _⟩
  unfold aY
  rw[setRow_heap W g _ _ 37 _ h]
  congr 3
  simp
end Go.Proofs.YtlnphkioddknfaaGreatDoor
