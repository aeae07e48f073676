/- Part 43 of the texts. -/
import Derived.Test.YtmpkkhackbpflaaGreatDoorPartg42
import Derived.Laws.CopyOwn
set_option maxHeartbeats 16000000
set_option maxRecDepth 20000
namespace Go.Proofs.YtmpkkhackbpflaaGreatDoor
open Go.RowKit
attribute [local go_sem ↓] Go.wp_at_zero Go.wp_at_succ
def lw(g:Option Nat)(ao:Option Addr)(I:List Int):Prop:=I= []∨∃b off,ao=some ⟨b,off,none⟩∧some b≠g
theorem lw.new{H:Nat}{l:Option Addr}{I:List Int}(h:dJ H l I){g:Option Nat}(t:∀k,g=some k→k<H):lw g l I:=by
 rcases h with e|⟨b,d,z,D⟩
 ·exact .inl e
 ·exact .inr ⟨b,d,z,fun e=>by have:=t b e.symm;omega⟩
theorem lw.old{w:World}{l:Option Addr}{c:Nat}{I:List Int}(h:ak w l c I){g:Option Nat}(t:∀k,g=some k→w.heap.size≤k):lw g l I:=by
 rcases h.2.2 with e|⟨b,d,z,D,_⟩
 ·exact .inl e
 ·exact .inr ⟨b,d,z,fun e=>by have:=t b e.symm;omega⟩
theorem gC{w D:World}{t:Option Addr}{c:Nat}{I:List Int}{g:Option Nat}(h:ak w t c I)(J:lw g t I)(F:w.grownBy D g):ak D t c I:=by
 refine⟨h.1,h.2.1,?_⟩
 rcases h.2.2 with e|⟨b,d,e,G,M⟩
 ·exact .inl e
 ·rcases J with l|⟨N,H,l,z⟩
  ·exact .inl l
  ·rw[e]at l
   simp only[Option.some.injEq,Addr.mk.injEq]at l
   obtain⟨rfl,rfl,_⟩:=l
   refine .inr ⟨b,d,e,Nat.lt_of_lt_of_le G F.size,fun i L=>?_⟩
   rw[World.cell?_of_block (a:=⟨b,d+i,none⟩) (F.block b G z)]
   exact M i L
theorem mJ(a b:Nat)(w:World)(h:a<18446744073709551616)(l:b<18446744073709551616)(t:c8 w):
  Calls Tryz.prog 168 #[.int .u64 a,.int .u64 b] w fun r z=>r=.returned (.int .u64 (aV a (fN b):Nat))∧Below w.heap.size w z:=by
 have K:=ac (Eg a b w h l t)
 clear h l t
 generalize aV a (fN b)=o at*
 generalize aF a (fN b)=f at*
 go_enter Tryz.func168,Tryz.ntmps168
 go_wp2_with fail
 refine Calls.mono (uH K) ?_
 rintro e D ⟨rfl,d⟩
 clear K
 go_wp2
 go_ret
 exact⟨rfl,d⟩
theorem vX(a b:Nat)(w:World)(h:a<18446744073709551616)(l:b<18446744073709551616)(t:c8 w):
  Calls Tryz.prog 170 #[.int .u64 a,.int .u64 b] w fun r z=>r=.returned (.int .u64 (dV a b:Nat))∧Below w.heap.size w z:=by
 have K:=ac (El a b w h l t)
 clear h l t
 generalize dV a b=o at*
 generalize dF a b=f at*
 go_enter Tryz.func170,Tryz.ntmps170
 go_wp2_with fail
 refine Calls.mono (uH K) ?_
 rintro e D ⟨rfl,d⟩
 clear K
 go_wp2
 go_ret
 exact⟨rfl,d⟩
theorem bI.three{w:World}{b g:Nat}{S:List Nat}(h:bI w b S)(d:b≠g)(u u' u'':Value):bI (((w.setCell ⟨g,0,none⟩ u).setCell ⟨g,1,none⟩ u').setCell ⟨g,2,none⟩ u'') b S:=by
 unfold bI
 rw[Below.heap_setCell _ ⟨g,2,none⟩ u'' b d,Below.heap_setCell _ ⟨g,1,none⟩ u' b d,Below.heap_setCell _ ⟨g,0,none⟩ u b d]
 exact h
theorem vY(W:World)(g n l:Nat)(I:Option Addr)(S:List Nat)(h:bI W g (List.replicate n 0))(M:ak W I l (bs S))(J:S.length=n):
  ∃F,(∀z,(Builtin.copy_ #[23,23] z #[.slice (some ⟨g,0,none⟩) n n,.slice I n l]).run Tryz.prog W=.ok (.int .i64 (n:Int)) F)∧bI F g S∧Below g W F:=by
 rcases Nat.eq_zero_or_pos n with e|e
 ·subst e
  obtain rfl:S= []:=List.eq_nil_of_length_eq_zero J
  exact⟨W,fun z=>run_copy_none W _ _ z 28 _ _ 0 0 0 l Tryz.underlying23 (by kernel_rfl) rfl,h,Below.refl _ _⟩
 ·obtain⟨b,t,rfl,Q,O⟩:=M.ne (by rw[aM];omega)
  have G:∀j v,(S.map lj)[j]? =some v→W.cell? ((⟨b,t,none⟩:Addr).add j)=some v:=by
   intro j v D
   rw[List.getElem?_map]at D
   obtain⟨x,L,rfl⟩:=Option.map_eq_some_iff.1 D
   have N:j<S.length:=(List.getElem?_eq_some_iff.1 L).1
   have:=O j (by rw[aM];exact N)
   rw[jz]at this
   rw[show(⟨b,t,none⟩:Addr).add j=⟨b,t+j,none⟩from by simp[Addr.add],this]
   rw[List.getD_eq_getElem?_getD,L]
   rfl
  have d:(S.map lj).length=n:=by rw[List.length_map,J]
  have H:=fun z=>run_copy_row Tryz.prog W 23 23 z 28 g 0 n n ⟨b,t,none⟩ n l ((List.replicate n 0).map lj).toArray 28 (S.map lj) Tryz.underlying23 (by kernel_rfl) h (by rw[d];exact(Nat.min_self n).symm) G (by rw[d];simp) (fun v D=>by obtain⟨x,_,rfl⟩:=List.mem_map.1 D;rfl)
  refine⟨_,fun z=>(H z).trans (by rw[d];rfl),?_,below_setRow (Below.refl _ _) (Nat.le_refl _) _⟩
  unfold bI
  rw[setRow_heap W g _ _ 28 _ h]
  congr 3
  simp
theorem aT.three14{w:World}{b g:Nat}{x y z:Value}(h:aT w b x y z)(d:b≠g)(u u' u'':Value):aT (((w.setCell ⟨g,0,none⟩ u).setCell ⟨g,1,none⟩ u').setCell ⟨g,2,none⟩ u'') b x y z:=
 ((h.other (p:=⟨g,0,none⟩) d _).other (p:=⟨g,1,none⟩) d _).other (p:=⟨g,2,none⟩) d _
structure yp (w wr:World) (h r c n cap:Nat) (ao:Option Addr) (S:List Nat) (ro:Option Addr) (rc:Nat) (v:Value) (R:List Mr):Prop where
 bel:Below w.heap.size w wr
 hh:w.heap.size+1+1≤h
 a:aT wr w.heap.size (.int .i64 r) (.int .i64 c) (.slice ao n cap)
 res:aT wr (w.heap.size+1) (.int .i64 0) (.int .i64 0) (.slice none 0 0)
 rb:aT wr h (.int .i64 r) (.int .i64 c) (.slice ro n rc)
 bits:ak wr ro rc (bs S)
 new:dJ w.heap.size ro (bs S)
 len:S.length=n
 l:ch (w.heap.size+1+1) wr v R
 off:lw v.ownBlock ro (bs S)
theorem yp.all{w wr D:World}{h r c n z:Nat}{F:Option Addr}{S:List Nat}{G:Option Addr}{H:Nat}{v:Value}{R:List Mr}(t:yp w wr h r c n z F S G H v R)(d:Below wr.heap.size wr D):yp w D h r c n z F S G H v R:=
 ⟨t.bel.trans (d.mono t.bel.size),t.hh,t.a.all d,t.res.all d,t.rb.all d,t.bits.below d,t.new,t.len,t.l.below d,t.off⟩
theorem yp.start{w d:World}{r c n h:Nat}{z:Option Addr}{S:List Nat}{l:Option Addr}{t:Nat}(D:Below w.heap.size w d)(H:aT d w.heap.size (.int .i64 r) (.int .i64 c) (.slice z n h))(F:aT d (w.heap.size+1) (.int .i64 0) (.int .i64 0) (.slice none 0 0))(G:ak d l t (bs S))(I:dJ w.heap.size l (bs S))(J:S.length=n):
  yp w (d.alloc (.cells #[.int .i64 r,.int .i64 c,.slice l n t] 25)) d.heap.size r c n h z S l t (.slice none 0 0) []:=by
 have b:=ag d (.cells #[.int .i64 r,.int .i64 c,.slice l n t] 25)
 exact⟨D.trans (b.mono D.size),F.lt,H.all b,F.all b,aT.new d _ _ _,G.below b,I,J,ch.start _ _,lw.old G (fun k L=>by simp[Value.ownBlock]at L)⟩
theorem yq(R:List Mr)(x:Mr):∀k,k<R.length+1→fo (R++[x]) k=if k<R.length then fo R k else x:=by
 intro k d
 unfold fo
 by_cases g:k<R.length
 ·rw[if_pos g,List.getElem?_append_left g]
 ·rw[if_neg g,show k=R.length by omega,List.getElem?_append_right (Nat.le_refl _)]
  simp
def dZ(w:World)(b:Nat)(x y:Value):Prop:=w.heap[b]? =some (.cells #[x,y] 121 (0,0))
theorem dZ.c0{w:World}{b:Nat}{x y:Value}(h:dZ w b x y):w.cell? ⟨b,0,none⟩=some x:=by rw[cell_of_row w b 0 _ _ _ h];rfl
theorem dZ.c1{w:World}{b:Nat}{x y:Value}(h:dZ w b x y):w.cell? ⟨b,1,none⟩=some y:=by rw[cell_of_row w b 1 _ _ _ h];rfl
theorem dZ.free{w:World}{b:Nat}{x y:Value}(h:dZ w b x y)(j:Nat):w.frozen? ⟨b,j,none⟩=false:=frozen_of_row w b j _ _ h
theorem dZ.lt{w:World}{b:Nat}{x y:Value}(h:dZ w b x y):b<w.heap.size:=(Array.getElem?_eq_some_iff.1 h).1
theorem dZ.below{w l:World}{b:Nat}{x y:Value}(h:dZ w b x y){B:Nat}(t:Below B w l)(d:b<B):dZ l b x y:=(t.block b d).trans h
theorem dZ.new(w:World)(x y:Value):dZ (w.alloc (.cells #[x,y] 121)) w.heap.size x y:=heap_alloc_new w _
theorem dZ.all{w d:World}{b:Nat}{x y:Value}(h:dZ w b x y)(l:Below w.heap.size w d):dZ d b x y:=h.below l h.lt
theorem dZ.other{w:World}{b:Nat}{x y:Value}(h:dZ w b x y){p:Addr}(d:b≠p.block)(u:Value):dZ (w.setCell p u) b x y:=(Below.heap_setCell w p u b d).trans h
theorem dZ.three{w:World}{b g:Nat}{x y:Value}(h:dZ w b x y)(d:b≠g)(u u' u'':Value):dZ (((w.setCell ⟨g,0,none⟩ u).setCell ⟨g,1,none⟩ u').setCell ⟨g,2,none⟩ u'') b x y:=
 ((h.other (p:=⟨g,0,none⟩) d _).other (p:=⟨g,1,none⟩) d _).other (p:=⟨g,2,none⟩) d _
theorem dZ.put{w:World}{b:Nat}{x y:Value}(h:dZ w b x y)(u u':Value):dZ ((w.setCell ⟨b,0,none⟩ u).setCell ⟨b,1,none⟩ u') b u u':=by
 have d:=heap_setCell_same w b 0 _ _ u h
 have l:=heap_setCell_same (w.setCell ⟨b,0,none⟩ u) b 1 _ _ u' d
 unfold dZ
 rw[l]
 simp
theorem dZ.grown{w d:World}{b:Nat}{x y:Value}(h:dZ w b x y){o:Option Nat}(l:w.grownBy d o)(t:o≠some b):dZ d b x y:=
 (l.block b h.lt t.symm).trans h
theorem aT.two16{w:World}{b g:Nat}{x y z:Value}(h:aT w b x y z)(d:b≠g)(u u':Value):aT ((w.setCell ⟨g,0,none⟩ u).setCell ⟨g,1,none⟩ u') b x y z:=
 (h.other (p:=⟨g,0,none⟩) d _).other (p:=⟨g,1,none⟩) d _
theorem bI.two16{w:World}{b g:Nat}{S:List Nat}(h:bI w b S)(d:b≠g)(u u':Value):bI ((w.setCell ⟨g,0,none⟩ u).setCell ⟨g,1,none⟩ u') b S:=by
 unfold bI
 rw[Below.heap_setCell _ ⟨g,1,none⟩ u' b d,Below.heap_setCell _ ⟨g,0,none⟩ u b d]
 exact h
theorem qj{w d:World}{B b:Nat}(h:Below B w d)(l:B≤b)(u u':Value):Below B w ((d.setCell ⟨b,0,none⟩ u).setCell ⟨b,1,none⟩ u'):=
 (h.setCell l _).setCell l _
theorem BH{w:World}{g:Nat}{l:Option Addr}{d:Nat}{I:List Int}(h:ak w l d I)(t:lw (some g) l I)(u u':Value):ak ((w.setCell ⟨g,0,none⟩ u).setCell ⟨g,1,none⟩ u') l d I:=
 gC (gC h t (gP w g 0 u)) t (gP _ g 1 u')
structure BI (w wr:World) (r c n cap:Nat) (ro:Option Addr) (S:List Nat):Prop where
 bel:Below w.heap.size w wr
 a:aT wr w.heap.size (.int .i64 r) (.int .i64 c) (.slice ro n cap)
 res:aT wr (w.heap.size+1) (.int .i64 0) (.int .i64 0) (.slice none 0 0)
 mi:dZ wr (w.heap.size+1+1) (.slice none 0 0) (.int .u64 0)
 bits:ak wr ro cap (bs S)
theorem BI.all{w wr l:World}{r c n d:Nat}{z:Option Addr}{S:List Nat}(t:BI w wr r c n d z S)(h:Below wr.heap.size wr l):BI w l r c n d z S:=
 ⟨t.bel.trans (h.mono t.bel.size),t.a.all h,t.res.all h,t.mi.all h,t.bits.below h⟩
theorem BI.start{w:World}{r c n d:Nat}{h:Option Addr}{S:List Nat}(L:ak w h d (bs S)):BI w (((w.alloc (.cells #[.int .i64 r,.int .i64 c,.slice h n d] 25)).alloc (.cells #[.int .i64 0,.int .i64 0,.slice none 0 0] 25)).alloc (.cells #[.slice none 0 0,.int .u64 0] 121)) r c n d h S:=by
 have z:=ag w (.cells #[.int .i64 r,.int .i64 c,.slice h n d] 25)
 have M:=aH w (.cells #[.int .i64 r,.int .i64 c,.slice h n d] 25)
 have N:=aT.new w (.int .i64 r) (.int .i64 c) (.slice h n d)
 generalize w.alloc (.cells #[.int .i64 r,.int .i64 c,.slice h n d] 25)=t at*
 have D:=ag t (.cells #[.int .i64 0,.int .i64 0,.slice none 0 0] 25)
 have F:=aH t (.cells #[.int .i64 0,.int .i64 0,.slice none 0 0] 25)
 have G:=aT.new t (.int .i64 0) (.int .i64 0) (.slice none 0 0)
 generalize t.alloc (.cells #[.int .i64 0,.int .i64 0,.slice none 0 0] 25)=J at*
 have l:=ag J (.cells #[.slice none 0 0,.int .u64 0] 121)
 have H:=dZ.new J (.slice none 0 0) (.int .u64 0)
 rw[M]at G F
 rw[F]at H
 have I:=z.trans (D.mono z.size)
 exact⟨I.trans (l.mono I.size),(N.all D).all l,G.all l,H,((L.below z).below D).below l⟩
def E8(w w':World)(ok:Bool)(r c n L:Nat)(S V:List Nat)(tau:Nat)(e:Ending):Prop:=
 (ok=true∧∃g vo vc,e=.returned (.tuple #[.agg #[.int .i64 r,.int .i64 c,.slice (some ⟨g,0,none⟩) n n],.agg #[.slice vo L vc,.int .u64 tau],.int .i64 0])∧w.heap.size≤g∧bI w' g S∧dJ w.heap.size vo (bs V)∧ak w' vo vc (bs V)∧lw (some g) vo (bs V))∨
 (ok=false∧e=.returned (.tuple #[.agg #[.int .i64 0,.int .i64 0,.slice none 0 0],.agg #[.slice none 0 0,.int .u64 0],.int .i64 2]))
theorem It(r c n H j L D U:Nat)(ro:Option Addr)(S AP NX X V:List Nat)(ok:Bool)(w:World)(hr:r≤6)(hj:j<r)(hL:r-j=L)(hS:ak w ro H (bs S))
  (C2:∀h,ak h ro H (bs S)→Calls Tryz.prog 99 #[.agg #[.int .i64 r,.int .i64 c,.slice ro n H],.int .i64 (j:Nat),.int .i64 (j:Nat),.int .i64 (L:Nat),.int .i64 1] h fun e t=>∃I d,e=.returned (.tuple #[.agg #[.int .i64 (L:Nat),.int .i64 1,.slice I L d],.int .i64 0])∧ak t I d (bs X)∧Below h.heap.size h t)
  (C3:∀h I d,ok=true→Below w.heap.size w h→ak h I d (bs X)→Calls Tryz.prog 157 #[.slice I L d] h fun e t=>∃F G,e=.returned (.tuple #[.slice F L G,.int .u64 (D:Nat),.int .u64 (U:Nat),.int .i64 0])∧dJ h.heap.size F (bs V)∧ak t F G (bs V)∧Below h.heap.size h t)
  (C4:∀h I d,ok=false→Below w.heap.size w h→ak h I d (bs X)→Calls Tryz.prog 157 #[.slice I L d] h fun e t=>∃so cs er,e=.returned (.tuple #[.slice so 0 cs,.int .u64 0,.int .u64 0,.int .i64 er])∧(er=2∨er=4)∧Below h.heap.size h t)
  (C5:∀h F G,Below w.heap.size w h→ak h ro H (bs S)→ak h F G (bs V)→Calls Tryz.prog 106 #[.agg #[.int .i64 r,.int .i64 c,.slice ro n H],.int .i64 (j:Nat),.int .i64 (j:Nat),.slice F L G,.int .u64 (D:Nat)] h fun e t=>∃g,e=.returned (.tuple #[.agg #[.int .i64 r,.int .i64 c,.slice (some ⟨g,0,none⟩) n n],.int .i64 0])∧h.heap.size≤g∧bI t g AP∧Below h.heap.size h t)
  (C6:∀h g,bI h g AP→Calls Tryz.prog 158 #[.agg #[.int .i64 r,.int .i64 c,.slice (some ⟨g,0,none⟩) n n],.int .i64 (j:Nat),.int .u64 (U:Nat)] h fun e t=>e=.returned (.tuple #[])∧bI t g NX∧h.grownBy t (some g)):
  Calls Tryz.prog 104 #[.agg #[.int .i64 r,.int .i64 c,.slice ro n H],.int .i64 (j:Nat)] w fun e h=>E8 w h ok r c n L NX V D e∧Below w.heap.size w h:=by
 have l:=ac (BI.start (r:=r) (c:=c) (n:=n) hS)
 have K2:=ac (C2 _ (uH l).bits);have K3:=ac C3;have K4:=ac C4;have K5:=ac C5;have K6:=ac C6
 have eL:IntKind.i64.wrap ((r:Int)-(j:Int))=(L:Int):=(br _ (by omega)).trans (by omega)
 have ad:(r:Int)-(j:Int)=(L:Int):=by omega
 have y0:=(uH l).a.c0;have y1:=(uH l).a.c1;have y2:=(uH l).a.c2
 clear C2 C3 C4 C5 C6 hS hL
 go_enter Tryz.func104,Tryz.ntmps104
 go_wp2_with fail
 clear y0 y1 y2 eL ad
 refine(uH K2).mono ?_
 rintro e w1 ⟨I,d,rfl,hx,N⟩
 have Y:=ag w1 (.cells #[.int .i64 (L:Int),.int .i64 1,.slice I L d] 25)
 have CB:=aT.new w1 (.int .i64 (L:Int)) (.int .i64 1) (.slice I L d)
 replace l:=ac (((uH l).all N).all Y)
 have HX:=ac (hx.below Y)
 have y2:=CB.c2
 clear N hx Y K2 CB
 go_wp2_with fail
 clear y2
 cases ok with
 |false=>
  refine(uH K4 _ I d rfl (uH l).bel (uH HX)).mono ?_
  rintro e w2 ⟨so,cs,er,rfl,ai,N⟩
  have O:=(uH l).all N
  have s0:=O.res.c0;have s1:=O.res.c1;have s2:=O.res.c2
  have f0:=O.res.free 0;have f1:=O.res.free 1;have f2:=O.res.free 2
  have Y1:=O.res.put (.int .i64 0) (.int .i64 0) (.slice none 0 0)
  have J:=O.mi.three (g:=w.heap.size+1) (by omega) (.int .i64 0) (.int .i64 0) (.slice none 0 0)
  have s3:=J.c0;have s4:=J.c1
  have f3:=J.free 0;have f4:=J.free 1
  have Q:=Y1.two16 (g:=w.heap.size+1+1) (by omega) (.slice none 0 0) (.int .u64 0)
  have Z:=J.put (.slice none 0 0) (.int .u64 0)
  have z0:=Q.c0;have z1:=Q.c1;have z2:=Q.c2;have z3:=Z.c0;have z4:=Z.c1
  have BP:=ac (qj (aW O.bel (b:=w.heap.size+1) (by omega) (.int .i64 0) (.int .i64 0) (.slice none 0 0)) (b:=w.heap.size+1+1) (by omega) (.slice none 0 0) (.int .u64 0))
  clear Y1 J Q Z O l N HX K3 K4 K5 K6
  rcases ai with rfl|rfl
  all_goals
   go_wp2_with fail
   exact bodyPost_ret (v:=.tuple #[.agg #[.int .i64 0,.int .i64 0,.slice none 0 0],.agg #[.slice none 0 0,.int .u64 0],.int .i64 2]) (by simp[results,Tryz.results104,go_sem,z0,z1,z2,z3,z4]) rfl ⟨.inr ⟨rfl,rfl⟩,uH BP⟩
 |true=>
  refine(uH K3 _ I d rfl (uH l).bel (uH HX)).mono ?_
  rintro e w2 ⟨F,G,rfl,hn,hv,N⟩
  have HZ:=ac ((uH l).bel.size)
  have HM:=ac ((uH l).mi.lt)
  have aa:=ac hn
  replace l:=ac ((uH l).all N)
  have HV:=ac hv
  clear hn hv N HX K3 K4
  have q0:=(uH l).a.c0;have q1:=(uH l).a.c1;have q2:=(uH l).a.c2
  go_wp2_with fail
  clear q0 q1 q2
  refine(uH K5 _ F G (uH l).bel (uH l).bits (uH HV)).mono ?_
  rintro e w3 ⟨g,rfl,hg,z,N⟩
  have O4:=ac (lw.old (uH HV) (g:=some g) (fun k hk=>by cases hk;exact hg))
  have HG:=ac (show w.heap.size+1+1<g from Nat.lt_of_lt_of_le (uH l).mi.lt hg)
  replace l:=ac ((uH l).all N)
  have Y:=ag w3 (.cells #[.int .i64 r,.int .i64 c,.slice (some ⟨g,0,none⟩) n n] 25)
  have NB:=ac (aT.new w3 (.int .i64 r) (.int .i64 c) (.slice (some ⟨g,0,none⟩) n n))
  have ae:=ac (show g≠w3.heap.size from Nat.ne_of_lt z.lt)
  replace l:=ac ((uH l).all Y)
  have V4:=ac (((uH HV).below N).below Y)
  have R4:=ac (z.below Y z.lt)
  have q0:=(uH NB).c0;have q1:=(uH NB).c1;have q2:=(uH NB).c2
  clear N Y z hg K5 HV
  go_wp2_with fail
  clear q0 q1 q2
  refine(uH K6 _ g (uH R4)).mono ?_
  rintro e w4 ⟨rfl,z,M⟩
  have V5:=gC (uH V4) (uH O4) M
  have N5:=(uH NB).grown M (fun e=>by cases e;exact uH ae rfl)
  have ao:=uH HG
  have B5:Below w.heap.size w w4:=(uH l).bel.grown M (uH l).bel.size (fun k hk=>by cases hk;omega)
  have T:=(uH l).res.grown M (fun e=>by cases e;omega)
  have M5:=(uH l).mi.grown M (fun e=>by cases e;omega)
  have q0:=N5.c0;have q1:=N5.c1;have q2:=N5.c2
  have s0:=T.c0;have s1:=T.c1;have s2:=T.c2
  have f0:=T.free 0;have f1:=T.free 1;have f2:=T.free 2
  have Y1:=T.put (.int .i64 r) (.int .i64 c) (.slice (some ⟨g,0,none⟩) n n)
  have J:=M5.three (g:=w.heap.size+1) (by omega) (.int .i64 r) (.int .i64 c) (.slice (some ⟨g,0,none⟩) n n)
  have s3:=J.c0;have s4:=J.c1
  have f3:=J.free 0;have f4:=J.free 1
  have Q:=Y1.two16 (g:=w.heap.size+1+1) (by omega) (.slice F L G) (.int .u64 D)
  have Z:=J.put (.slice F L G) (.int .u64 D)
  have z0:=Q.c0;have z1:=Q.c1;have z2:=Q.c2;have z3:=Z.c0;have z4:=Z.c1
  have BP:=ac (qj (aW B5 (b:=w.heap.size+1) (by omega) (.int .i64 r) (.int .i64 c) (.slice (some ⟨g,0,none⟩) n n)) (b:=w.heap.size+1+1) (by omega) (.slice F L G) (.int .u64 D))
  have RP:=ac ((z.three (g:=w.heap.size+1) (by omega) (.int .i64 r) (.int .i64 c) (.slice (some ⟨g,0,none⟩) n n)).two16 (g:=w.heap.size+1+1) (by omega) (.slice F L G) (.int .u64 D))
  have OM:lw (some (w.heap.size+1+1)) F (bs V):=by
   rcases uH aa with e|⟨b,am,rfl,ap⟩
   ·exact .inl e
   ·exact .inr ⟨b,am,rfl,fun e=>by cases e;have:=uH HM;omega⟩
  have VP:=ac (BH (V5.putM T (.int .i64 r) (.int .i64 c) (.slice (some ⟨g,0,none⟩) n n)) OM (.slice F L G) (.int .u64 D))
  have HN:=ac ((uH aa).least (uH HZ))
  clear Y1 J Q Z T M5 B5 N5 V5 z M l V4 R4 NB K6 OM aa
  go_wp2_with fail
  exact bodyPost_ret (v:=.tuple #[.agg #[.int .i64 r,.int .i64 c,.slice (some ⟨g,0,none⟩) n n],.agg #[.slice F L G,.int .u64 D],.int .i64 0]) (by simp[results,Tryz.results104,go_sem,z0,z1,z2,z3,z4]) rfl ⟨.inl ⟨rfl,g,F,G,rfl,by omega,uH RP,uH HN,uH VP,uH O4⟩,uH BP⟩
end Go.Proofs.YtmpkkhackbpflaaGreatDoor
