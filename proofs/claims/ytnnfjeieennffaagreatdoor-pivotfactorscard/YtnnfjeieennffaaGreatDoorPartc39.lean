/- Part 39 of the texts. -/
import Derived.Test.YtnnfjeieennffaaGreatDoorPartc38
import Derived.Laws.CopyOwn
set_option maxHeartbeats 16000000
set_option maxRecDepth 20000
namespace Go.Proofs.YtnnfjeieennffaaGreatDoor
open Go.RowKit
attribute [local go_sem ↓] Go.wp_at_zero Go.wp_at_succ
def lM(w wr:World)(r c n cap:Nat)(ao:Option Addr)(T:List Nat)(po:Option Addr)(pc:Nat):Prop:=
 aw wr w.heap.size (.int .i64 r) (.int .i64 c) (.slice ao n cap)∧aw wr (w.heap.size+1) (.int .i64 0) (.int .i64 0) (.slice none 0 0)∧aw wr (w.heap.size+1+1) (.int .i64 r) (.int .i64 c) (.slice po n pc)∧ad wr po pc (az T)∧T.length=n∧Below w.heap.size w wr
theorem lM.all{w wr w':World}{r c n d:Nat}{l:Option Addr}{T:List Nat}{m:Option Addr}{t:Nat}(h:lM w wr r c n d l T m t)(f:Below wr.heap.size wr w'):lM w w' r c n d l T m t:=
 ⟨h.1.all f,h.2.1.all f,h.2.2.1.all f,h.2.2.2.1.below f,h.2.2.2.2.1,h.2.2.2.2.2.trans (f.mono h.2.2.2.2.2.size)⟩
theorem lM.put{w wr:World}{r c n d:Nat}{z:Option Addr}{T:List Nat}{D:Option Addr}{F:Nat}(h:lM w wr r c n d z T D F){U:List Nat}{f:Option Addr}{l:Nat}(G:ad wr f l (az U))(H:U.length=n):
  lM w (((wr.setCell ⟨w.heap.size+1+1,0,none⟩ (.int .i64 r)).setCell ⟨w.heap.size+1+1,1,none⟩ (.int .i64 c)).setCell ⟨w.heap.size+1+1,2,none⟩ (.slice f n l)) r c n d z U f l:=by
 obtain⟨K,L,A,N,O,M⟩:=h
 have m:w.heap.size≠w.heap.size+1+1:=by omega
 have t:w.heap.size+1≠w.heap.size+1+1:=by omega
 exact⟨((K.other (p:=⟨w.heap.size+1+1,0,none⟩) m _).other (p:=⟨w.heap.size+1+1,1,none⟩) m _).other (p:=⟨w.heap.size+1+1,2,none⟩) m _,((L.other (p:=⟨w.heap.size+1+1,0,none⟩) t _).other (p:=⟨w.heap.size+1+1,1,none⟩) t _).other (p:=⟨w.heap.size+1+1,2,none⟩) t _,A.put _ _ _,G.putM A _ _ _,H,aA M (by omega) _ _ _⟩
theorem lM.start(w:World)(r c n d:Nat)(f:Option Addr)(T:List Nat)(H:ad w f d (az T))(K:T.length=n):lM w (((w.alloc (.cells #[.int .i64 r,.int .i64 c,.slice f n d] 24)).alloc (.cells #[.int .i64 0,.int .i64 0,.slice none 0 0] 24)).alloc (.cells #[.int .i64 r,.int .i64 c,.slice f n d] 24)) r c n d f T f d:=by
 have t:=ac w (.cells #[.int .i64 r,.int .i64 c,.slice f n d] 24)
 have L:=an w (.cells #[.int .i64 r,.int .i64 c,.slice f n d] 24)
 have M:=aw.new w (.int .i64 r) (.int .i64 c) (.slice f n d)
 have N:=H.below t
 generalize w.alloc (.cells #[.int .i64 r,.int .i64 c,.slice f n d] 24)=m at*
 have z:=ac m (.cells #[.int .i64 0,.int .i64 0,.slice none 0 0] 24)
 have A:=an m (.cells #[.int .i64 0,.int .i64 0,.slice none 0 0] 24)
 have D:=aw.new m (.int .i64 0) (.int .i64 0) (.slice none 0 0)
 generalize m.alloc (.cells #[.int .i64 0,.int .i64 0,.slice none 0 0] 24)=G at*
 have l:=ac G (.cells #[.int .i64 r,.int .i64 c,.slice f n d] 24)
 have F:=aw.new G (.int .i64 r) (.int .i64 c) (.slice f n d)
 rw[L]at D A
 rw[A]at F
 have h:=t.trans (z.mono t.size)
 exact⟨(M.all z).all l,D.all l,F,(N.below z).below l,K,h.trans (l.mono h.size)⟩
theorem bg.three{w:World}{b g:Nat}{S:List Nat}(h:bg w b S)(d:b≠g)(u u' u'':Value):bg (((w.setCell ⟨g,0,none⟩ u).setCell ⟨g,1,none⟩ u').setCell ⟨g,2,none⟩ u'') b S:=by
 unfold bg
 rw[Below.heap_setCell _ ⟨g,2,none⟩ u'' b d,Below.heap_setCell _ ⟨g,1,none⟩ u' b d,Below.heap_setCell _ ⟨g,0,none⟩ u b d]
 exact h
theorem tJ(W:World)(g n f:Nat)(D:Option Addr)(S:List Nat)(h:bg W g (List.replicate n 0))(H:ad W D f (az S))(F:S.length=n):
  ∃w',(∀m,(Builtin.copy_ #[22,22] m #[.slice (some ⟨g,0,none⟩) n n,.slice D n f]).run Tryz.prog W=.ok (.int .i64 (n:Int)) w')∧bg w' g S∧Below g W w':=by
 rcases Nat.eq_zero_or_pos n with e|e
 ·subst e
  obtain rfl:S= []:=List.eq_nil_of_length_eq_zero F
  exact⟨W,fun m=>run_copy_none W _ _ m 31 _ _ 0 0 0 f Tryz.underlying22 (by kernel_rfl) rfl,h,Below.refl _ _⟩
 ·obtain⟨b,l,rfl,M,L⟩:=H.ne (by rw[al];omega)
  have z:∀j v,(S.map ib)[j]? =some v→W.cell? ((⟨b,l,none⟩:Addr).add j)=some v:=by
   intro j v t
   rw[List.getElem?_map]at t
   obtain⟨x,G,rfl⟩:=Option.map_eq_some_iff.1 t
   have K:j<S.length:=(List.getElem?_eq_some_iff.1 G).1
   have:=L j (by rw[al];exact K)
   rw[fG]at this
   rw[show(⟨b,l,none⟩:Addr).add j=⟨b,l+j,none⟩from by simp[Addr.add],this]
   rw[List.getD_eq_getElem?_getD,G]
   rfl
  have d:(S.map ib).length=n:=by rw[List.length_map,F]
  have A:=fun m=>run_copy_row Tryz.prog W 22 22 m 31 g 0 n n ⟨b,l,none⟩ n f ((List.replicate n 0).map ib).toArray 31 (S.map ib) Tryz.underlying22 (by kernel_rfl) h (by rw[d];exact(Nat.min_self n).symm) z (by rw[d];simp) (fun v t=>by obtain⟨x,_,rfl⟩:=List.mem_map.1 t;rfl)
  refine⟨_,fun m=>(A m).trans (by rw[d];rfl),?_,below_setRow (Below.refl _ _) (Nat.le_refl _) _⟩
  unfold bg
  rw[setRow_heap W g _ _ 31 _ h]
  congr 3
  simp
theorem aw.three14{w:World}{b g:Nat}{x y z:Value}(h:aw w b x y z)(d:b≠g)(u u' u'':Value):aw (((w.setCell ⟨g,0,none⟩ u).setCell ⟨g,1,none⟩ u').setCell ⟨g,2,none⟩ u'') b x y z:=
 ((h.other (p:=⟨g,0,none⟩) d _).other (p:=⟨g,1,none⟩) d _).other (p:=⟨g,2,none⟩) d _
structure vI (w wr:World) (h r c n cap:Nat) (ao:Option Addr) (S:List Nat) (ro:Option Addr) (rc:Nat) (v:Value) (R:List Mr):Prop where
 bel:Below w.heap.size w wr
 hh:w.heap.size+1+1≤h
 a:aw wr w.heap.size (.int .i64 r) (.int .i64 c) (.slice ao n cap)
 res:aw wr (w.heap.size+1) (.int .i64 0) (.int .i64 0) (.slice none 0 0)
 rb:aw wr h (.int .i64 r) (.int .i64 c) (.slice ro n rc)
 bits:ad wr ro rc (az S)
 new:bD w.heap.size ro (az S)
 len:S.length=n
 l:bI (w.heap.size+1+1) wr v R
 off:ie v.ownBlock ro (az S)
theorem vI.all{w wr w':World}{h r c n f:Nat}{m:Option Addr}{S:List Nat}{z:Option Addr}{A:Nat}{v:Value}{R:List Mr}(t:vI w wr h r c n f m S z A v R)(d:Below wr.heap.size wr w'):vI w w' h r c n f m S z A v R:=
 ⟨t.bel.trans (d.mono t.bel.size),t.hh,t.a.all d,t.res.all d,t.rb.all d,t.bits.below d,t.new,t.len,t.l.below d,t.off⟩
theorem vI.start{w d:World}{r c n f:Nat}{m:Option Addr}{S:List Nat}{h:Option Addr}{l:Nat}(t:Below w.heap.size w d)(D:aw d w.heap.size (.int .i64 r) (.int .i64 c) (.slice m n f))(z:aw d (w.heap.size+1) (.int .i64 0) (.int .i64 0) (.slice none 0 0))(A:ad d h l (az S))(F:bD w.heap.size h (az S))(G:S.length=n):
  vI w (d.alloc (.cells #[.int .i64 r,.int .i64 c,.slice h n l] 24)) d.heap.size r c n f m S h l (.slice none 0 0) []:=by
 have b:=ac d (.cells #[.int .i64 r,.int .i64 c,.slice h n l] 24)
 exact⟨t.trans (b.mono t.size),z.lt,D.all b,z.all b,aw.new d _ _ _,A.below b,F,G,bI.start _ _,ie.old A (fun k H=>by simp[Value.ownBlock]at H)⟩
theorem vJ(R:List Mr)(x:Mr):∀k,k<R.length+1→bO (R++[x]) k=if k<R.length then bO R k else x:=by
 intro k d
 unfold bO
 by_cases g:k<R.length
 ·rw[if_pos g,List.getElem?_append_left g]
 ·rw[if_neg g,show k=R.length by omega,List.getElem?_append_right (Nat.le_refl _)]
  simp
def dh(w:World)(b:Nat)(x y:Value):Prop:=w.heap[b]? =some (.cells #[x,y] 105 (0,0))
theorem dh.c0{w:World}{b:Nat}{x y:Value}(h:dh w b x y):w.cell? ⟨b,0,none⟩=some x:=by rw[cell_of_row w b 0 _ _ _ h];rfl
theorem dh.c1{w:World}{b:Nat}{x y:Value}(h:dh w b x y):w.cell? ⟨b,1,none⟩=some y:=by rw[cell_of_row w b 1 _ _ _ h];rfl
theorem dh.free{w:World}{b:Nat}{x y:Value}(h:dh w b x y)(j:Nat):w.frozen? ⟨b,j,none⟩=false:=frozen_of_row w b j _ _ h
theorem dh.lt{w:World}{b:Nat}{x y:Value}(h:dh w b x y):b<w.heap.size:=(Array.getElem?_eq_some_iff.1 h).1
theorem dh.below{w w':World}{b:Nat}{x y:Value}(h:dh w b x y){B:Nat}(f:Below B w w')(d:b<B):dh w' b x y:=(f.block b d).trans h
theorem dh.new(w:World)(x y:Value):dh (w.alloc (.cells #[x,y] 105)) w.heap.size x y:=heap_alloc_new w _
theorem dh.all{w w':World}{b:Nat}{x y:Value}(h:dh w b x y)(d:Below w.heap.size w w'):dh w' b x y:=h.below d h.lt
theorem dh.other{w:World}{b:Nat}{x y:Value}(h:dh w b x y){p:Addr}(d:b≠p.block)(u:Value):dh (w.setCell p u) b x y:=(Below.heap_setCell w p u b d).trans h
theorem dh.three{w:World}{b g:Nat}{x y:Value}(h:dh w b x y)(d:b≠g)(u u' u'':Value):dh (((w.setCell ⟨g,0,none⟩ u).setCell ⟨g,1,none⟩ u').setCell ⟨g,2,none⟩ u'') b x y:=
 ((h.other (p:=⟨g,0,none⟩) d _).other (p:=⟨g,1,none⟩) d _).other (p:=⟨g,2,none⟩) d _
theorem dh.put{w:World}{b:Nat}{x y:Value}(h:dh w b x y)(u u':Value):dh ((w.setCell ⟨b,0,none⟩ u).setCell ⟨b,1,none⟩ u') b u u':=by
 have d:=heap_setCell_same w b 0 _ _ u h
 have f:=heap_setCell_same (w.setCell ⟨b,0,none⟩ u) b 1 _ _ u' d
 unfold dh
 rw[f]
 simp
theorem dh.grown{w w':World}{b:Nat}{x y:Value}(h:dh w b x y){o:Option Nat}(d:w.grownBy w' o)(f:o≠some b):dh w' b x y:=
 (d.block b h.lt f.symm).trans h
theorem aw.two16{w:World}{b g:Nat}{x y z:Value}(h:aw w b x y z)(d:b≠g)(u u':Value):aw ((w.setCell ⟨g,0,none⟩ u).setCell ⟨g,1,none⟩ u') b x y z:=
 (h.other (p:=⟨g,0,none⟩) d _).other (p:=⟨g,1,none⟩) d _
theorem bg.two16{w:World}{b g:Nat}{S:List Nat}(h:bg w b S)(d:b≠g)(u u':Value):bg ((w.setCell ⟨g,0,none⟩ u).setCell ⟨g,1,none⟩ u') b S:=by
 unfold bg
 rw[Below.heap_setCell _ ⟨g,1,none⟩ u' b d,Below.heap_setCell _ ⟨g,0,none⟩ u b d]
 exact h
theorem oH{w w':World}{B b:Nat}(h:Below B w w')(d:B≤b)(u u':Value):Below B w ((w'.setCell ⟨b,0,none⟩ u).setCell ⟨b,1,none⟩ u'):=
 (h.setCell d _).setCell d _
theorem yZ{w:World}{g:Nat}{f:Option Addr}{d:Nat}{I:List Int}(h:ad w f d I)(l:ie (some g) f I)(u u':Value):ad ((w.setCell ⟨g,0,none⟩ u).setCell ⟨g,1,none⟩ u') f d I:=
 dO (dO h l (fv w g 0 u)) l (fv _ g 1 u')
structure zc (w wr:World) (r c n cap:Nat) (ro:Option Addr) (S:List Nat):Prop where
 bel:Below w.heap.size w wr
 a:aw wr w.heap.size (.int .i64 r) (.int .i64 c) (.slice ro n cap)
 res:aw wr (w.heap.size+1) (.int .i64 0) (.int .i64 0) (.slice none 0 0)
 mi:dh wr (w.heap.size+1+1) (.slice none 0 0) (.int .u64 0)
 bits:ad wr ro cap (az S)
theorem zc.all{w wr w':World}{r c n d:Nat}{h:Option Addr}{S:List Nat}(t:zc w wr r c n d h S)(f:Below wr.heap.size wr w'):zc w w' r c n d h S:=
 ⟨t.bel.trans (f.mono t.bel.size),t.a.all f,t.res.all f,t.mi.all f,t.bits.below f⟩
theorem zc.start{w:World}{r c n d:Nat}{f:Option Addr}{S:List Nat}(H:ad w f d (az S)):zc w (((w.alloc (.cells #[.int .i64 r,.int .i64 c,.slice f n d] 24)).alloc (.cells #[.int .i64 0,.int .i64 0,.slice none 0 0] 24)).alloc (.cells #[.slice none 0 0,.int .u64 0] 105)) r c n d f S:=by
 have m:=ac w (.cells #[.int .i64 r,.int .i64 c,.slice f n d] 24)
 have K:=an w (.cells #[.int .i64 r,.int .i64 c,.slice f n d] 24)
 have L:=aw.new w (.int .i64 r) (.int .i64 c) (.slice f n d)
 generalize w.alloc (.cells #[.int .i64 r,.int .i64 c,.slice f n d] 24)=l at*
 have t:=ac l (.cells #[.int .i64 0,.int .i64 0,.slice none 0 0] 24)
 have z:=an l (.cells #[.int .i64 0,.int .i64 0,.slice none 0 0] 24)
 have A:=aw.new l (.int .i64 0) (.int .i64 0) (.slice none 0 0)
 generalize l.alloc (.cells #[.int .i64 0,.int .i64 0,.slice none 0 0] 24)=G at*
 have h:=ac G (.cells #[.slice none 0 0,.int .u64 0] 105)
 have D:=dh.new G (.slice none 0 0) (.int .u64 0)
 rw[K]at A z
 rw[z]at D
 have F:=m.trans (t.mono m.size)
 exact⟨F.trans (h.mono F.size),(L.all t).all h,A.all h,D,((H.below m).below t).below h⟩
def Cz(w w':World)(ok:Bool)(r c n L:Nat)(S V:List Nat)(tau:Nat)(e:Ending):Prop:=
 (ok=true∧∃g vo vc,e=.returned (.tuple #[.agg #[.int .i64 r,.int .i64 c,.slice (some ⟨g,0,none⟩) n n],.agg #[.slice vo L vc,.int .u64 tau],.int .i64 0])∧w.heap.size≤g∧bg w' g S∧bD w.heap.size vo (az V)∧ad w' vo vc (az V)∧ie (some g) vo (az V))∨
 (ok=false∧e=.returned (.tuple #[.agg #[.int .i64 0,.int .i64 0,.slice none 0 0],.agg #[.slice none 0 0,.int .u64 0],.int .i64 2]))
theorem FD(r c n A j L m O:Nat)(Z:Option Addr)(S AP NX X V:List Nat)(ok:Bool)(w:World)(hr:r≤6)(hj:j<r)(hL:r-j=L)(hS:ad w Z A (az S))
  (C2:∀w',ad w' Z A (az S)→Calls Tryz.prog 69 #[.agg #[.int .i64 r,.int .i64 c,.slice Z n A],.int .i64 (j:Nat),.int .i64 (j:Nat),.int .i64 (L:Nat),.int .i64 1] w' fun e h=>∃D d,e=.returned (.tuple #[.agg #[.int .i64 (L:Nat),.int .i64 1,.slice D L d],.int .i64 0])∧ad h D d (az X)∧Below w'.heap.size w' h)
  (C3:∀w' D d,ok=true→Below w.heap.size w w'→ad w' D d (az X)→Calls Tryz.prog 121 #[.slice D L d] w' fun e h=>∃t z,e=.returned (.tuple #[.slice t L z,.int .u64 (m:Nat),.int .u64 (O:Nat),.int .i64 0])∧bD w'.heap.size t (az V)∧ad h t z (az V)∧Below w'.heap.size w' h)
  (C4:∀w' D d,ok=false→Below w.heap.size w w'→ad w' D d (az X)→Calls Tryz.prog 121 #[.slice D L d] w' fun e h=>∃so cs er,e=.returned (.tuple #[.slice so 0 cs,.int .u64 0,.int .u64 0,.int .i64 er])∧(er=2∨er=4)∧Below w'.heap.size w' h)
  (C5:∀w' t z,Below w.heap.size w w'→ad w' Z A (az S)→ad w' t z (az V)→Calls Tryz.prog 76 #[.agg #[.int .i64 r,.int .i64 c,.slice Z n A],.int .i64 (j:Nat),.int .i64 (j:Nat),.slice t L z,.int .u64 (m:Nat)] w' fun e h=>∃g,e=.returned (.tuple #[.agg #[.int .i64 r,.int .i64 c,.slice (some ⟨g,0,none⟩) n n],.int .i64 0])∧w'.heap.size≤g∧bg h g AP∧Below w'.heap.size w' h)
  (C6:∀w' g,bg w' g AP→Calls Tryz.prog 122 #[.agg #[.int .i64 r,.int .i64 c,.slice (some ⟨g,0,none⟩) n n],.int .i64 (j:Nat),.int .u64 (O:Nat)] w' fun e h=>e=.returned (.tuple #[])∧bg h g NX∧w'.grownBy h (some g)):
  Calls Tryz.prog 74 #[.agg #[.int .i64 r,.int .i64 c,.slice Z n A],.int .i64 (j:Nat)] w fun e w'=>Cz w w' ok r c n L NX V m e∧Below w.heap.size w w':=by
 have f:=aa (zc.start (r:=r) (c:=c) (n:=n) hS)
 have K2:=aa (C2 _ (uH f).bits);have K3:=aa C3;have K4:=aa C4;have K5:=aa C5;have K6:=aa C6
 have eL:IntKind.i64.wrap ((r:Int)-(j:Int))=(L:Int):=(aR _ (by omega)).trans (by omega)
 have ae:(r:Int)-(j:Int)=(L:Int):=by omega
 have y0:=(uH f).a.c0;have y1:=(uH f).a.c1;have y2:=(uH f).a.c2
 clear C2 C3 C4 C5 C6 hS hL
 go_enter Tryz.func74,Tryz.ntmps74
 go_wp2_with fail
 clear y0 y1 y2 eL ae
 refine(uH K2).mono ?_
 rintro e w1 ⟨D,d,rfl,hx,H⟩
 have Q:=ac w1 (.cells #[.int .i64 (L:Int),.int .i64 1,.slice D L d] 24)
 have CB:=aw.new w1 (.int .i64 (L:Int)) (.int .i64 1) (.slice D L d)
 replace f:=aa (((uH f).all H).all Q)
 have HX:=aa (hx.below Q)
 have y2:=CB.c2
 clear H hx Q K2 CB
 go_wp2_with fail
 clear y2
 cases ok with
 |false=>
  refine(uH K4 _ D d rfl (uH f).bel (uH HX)).mono ?_
  rintro e w2 ⟨so,cs,er,rfl,am,H⟩
  have K:=(uH f).all H
  have s0:=K.res.c0;have s1:=K.res.c1;have s2:=K.res.c2
  have f0:=K.res.free 0;have f1:=K.res.free 1;have f2:=K.res.free 2
  have Y1:=K.res.put (.int .i64 0) (.int .i64 0) (.slice none 0 0)
  have F:=K.mi.three (g:=w.heap.size+1) (by omega) (.int .i64 0) (.int .i64 0) (.slice none 0 0)
  have s3:=F.c0;have s4:=F.c1
  have f3:=F.free 0;have f4:=F.free 1
  have M:=Y1.two16 (g:=w.heap.size+1+1) (by omega) (.slice none 0 0) (.int .u64 0)
  have U:=F.put (.slice none 0 0) (.int .u64 0)
  have z0:=M.c0;have z1:=M.c1;have z2:=M.c2;have z3:=U.c0;have z4:=U.c1
  have BP:=aa (oH (aA K.bel (b:=w.heap.size+1) (by omega) (.int .i64 0) (.int .i64 0) (.slice none 0 0)) (b:=w.heap.size+1+1) (by omega) (.slice none 0 0) (.int .u64 0))
  clear Y1 F M U K f H HX K3 K4 K5 K6
  rcases am with rfl|rfl
  all_goals
   go_wp2_with fail
   exact bodyPost_ret (v:=.tuple #[.agg #[.int .i64 0,.int .i64 0,.slice none 0 0],.agg #[.slice none 0 0,.int .u64 0],.int .i64 2]) (by simp[results,Tryz.results74,go_sem,z0,z1,z2,z3,z4]) rfl ⟨.inr ⟨rfl,rfl⟩,uH BP⟩
 |true=>
  refine(uH K3 _ D d rfl (uH f).bel (uH HX)).mono ?_
  rintro e w2 ⟨t,z,rfl,hn,hv,H⟩
  have HZ:=aa ((uH f).bel.size)
  have HM:=aa ((uH f).mi.lt)
  have Y:=aa hn
  replace f:=aa ((uH f).all H)
  have HV:=aa hv
  clear hn hv H HX K3 K4
  have q0:=(uH f).a.c0;have q1:=(uH f).a.c1;have q2:=(uH f).a.c2
  go_wp2_with fail
  clear q0 q1 q2
  refine(uH K5 _ t z (uH f).bel (uH f).bits (uH HV)).mono ?_
  rintro e w3 ⟨g,rfl,hg,l,H⟩
  have O4:=aa (ie.old (uH HV) (g:=some g) (fun k hk=>by cases hk;exact hg))
  have HG:=aa (show w.heap.size+1+1<g from Nat.lt_of_lt_of_le (uH f).mi.lt hg)
  replace f:=aa ((uH f).all H)
  have Q:=ac w3 (.cells #[.int .i64 r,.int .i64 c,.slice (some ⟨g,0,none⟩) n n] 24)
  have NB:=aa (aw.new w3 (.int .i64 r) (.int .i64 c) (.slice (some ⟨g,0,none⟩) n n))
  have aj:=aa (show g≠w3.heap.size from Nat.ne_of_lt l.lt)
  replace f:=aa ((uH f).all Q)
  have V4:=aa (((uH HV).below H).below Q)
  have R4:=aa (l.below Q l.lt)
  have q0:=(uH NB).c0;have q1:=(uH NB).c1;have q2:=(uH NB).c2
  clear H Q l hg K5 HV
  go_wp2_with fail
  clear q0 q1 q2
  refine(uH K6 _ g (uH R4)).mono ?_
  rintro e w4 ⟨rfl,l,G⟩
  have V5:=dO (uH V4) (uH O4) G
  have N5:=(uH NB).grown G (fun e=>by cases e;exact uH aj rfl)
  have ax:=uH HG
  have B5:Below w.heap.size w w4:=(uH f).bel.grown G (uH f).bel.size (fun k hk=>by cases hk;omega)
  have N:=(uH f).res.grown G (fun e=>by cases e;omega)
  have M5:=(uH f).mi.grown G (fun e=>by cases e;omega)
  have q0:=N5.c0;have q1:=N5.c1;have q2:=N5.c2
  have s0:=N.c0;have s1:=N.c1;have s2:=N.c2
  have f0:=N.free 0;have f1:=N.free 1;have f2:=N.free 2
  have Y1:=N.put (.int .i64 r) (.int .i64 c) (.slice (some ⟨g,0,none⟩) n n)
  have F:=M5.three (g:=w.heap.size+1) (by omega) (.int .i64 r) (.int .i64 c) (.slice (some ⟨g,0,none⟩) n n)
  have s3:=F.c0;have s4:=F.c1
  have f3:=F.free 0;have f4:=F.free 1
  have M:=Y1.two16 (g:=w.heap.size+1+1) (by omega) (.slice t L z) (.int .u64 m)
  have U:=F.put (.slice t L z) (.int .u64 m)
  have z0:=M.c0;have z1:=M.c1;have z2:=M.c2;have z3:=U.c0;have z4:=U.c1
  have BP:=aa (oH (aA B5 (b:=w.heap.size+1) (by omega) (.int .i64 r) (.int .i64 c) (.slice (some ⟨g,0,none⟩) n n)) (b:=w.heap.size+1+1) (by omega) (.slice t L z) (.int .u64 m))
  have RP:=aa ((l.three (g:=w.heap.size+1) (by omega) (.int .i64 r) (.int .i64 c) (.slice (some ⟨g,0,none⟩) n n)).two16 (g:=w.heap.size+1+1) (by omega) (.slice t L z) (.int .u64 m))
  have OM:ie (some (w.heap.size+1+1)) t (az V):=by
   rcases uH Y with e|⟨b,ao,rfl,aI⟩
   ·exact .inl e
   ·exact .inr ⟨b,ao,rfl,fun e=>by cases e;have:=uH HM;omega⟩
  have VP:=aa (yZ (V5.putM N (.int .i64 r) (.int .i64 c) (.slice (some ⟨g,0,none⟩) n n)) OM (.slice t L z) (.int .u64 m))
  have HN:=aa ((uH Y).least (uH HZ))
  clear Y1 F M U N M5 B5 N5 V5 l G f V4 R4 NB K6 OM Y
  go_wp2_with fail
  exact bodyPost_ret (v:=.tuple #[.agg #[.int .i64 r,.int .i64 c,.slice (some ⟨g,0,none⟩) n n],.agg #[.slice t L z,.int .u64 m],.int .i64 0]) (by simp[results,Tryz.results74,go_sem,z0,z1,z2,z3,z4]) rfl ⟨.inl ⟨rfl,g,t,z,rfl,by omega,uH RP,uH HN,uH VP,uH O4⟩,uH BP⟩
end Go.Proofs.YtnnfjeieennffaaGreatDoor
namespace Go.Proofs.YtnnfjeieennffaaGreatDoor
def eJ(r c:Nat)(S:List Nat)(j k:Nat):Nat:=jn (dg c S j (r-j) k)
def oT(r c:Nat)(S:List Nat)(j:Nat):Nat→Nat
 |0=>j
 |t+1=>if cO (eJ r c S j (oT r c S j t)) (eJ r c S j (j+t))<0 then j+t else oT r c S j t
def rH(r c:Nat)(S:List Nat)(j:Nat):Nat→Bool
 |0=>true
 |t+1=>rH r c S j t&&ap (eJ r c S j (j+t))
theorem CH(r c:Nat)(S:List Nat)(j:Nat):∀t,j≤oT r c S j t
 |0=>Nat.le_refl _
 |t+1=>by
  show j≤if _ then _ else _
  split
  ·exact Nat.le_add_right _ _
  ·exact CH r c S j t
theorem vK(r c:Nat)(S:List Nat)(j:Nat):∀t,0<t→oT r c S j t<j+t
 |0,h=>absurd h (Nat.lt_irrefl 0)
 |t+1,_=>by
  show(if _ then _ else _)<_
  split
  ·exact Nat.lt_succ_self (j+t)
  ·rcases Nat.eq_zero_or_pos t with rfl|h
   ·exact Nat.lt_succ_self j
   ·exact Nat.lt_succ_of_lt (vK r c S j t h)
def oI(r c:Nat)(S:List Nat)(j:Nat):Nat:=oT r c S j (c-j)
def vL(r c:Nat)(S:List Nat)(j:Nat):Bool:=rH r c S j (c-j)
theorem Ir(r c:Nat)(S:List Nat)(j:Nat):j≤oI r c S j:=CH _ _ _ _ _
theorem jc(r c:Nat)(S:List Nat){j:Nat}(h:j<c):oI r c S j<c:=by
 have:=vK r c S j (c-j) (by omega)
 unfold oI
 omega
def oJ(l:List Nat)(i k:Nat):List Nat:=(l.set i (l.getD k 0)).set k (l.getD i 0)
theorem rl(l:List Nat)(i k:Nat):(oJ l i k).length=l.length:=by unfold oJ;rw[List.length_set,List.length_set]
theorem tK(l:List Nat)(i x k:Nat)(d:i<l.length):(l.set i x).getD k 0=if k=i then x else l.getD k 0:=by
 simp only[List.getD_eq_getElem?_getD,List.getElem?_set]
 by_cases h:i=k
 ·subst h;simp[d]
 ·rw[if_neg h,if_neg (fun e=>h e.symm)]
theorem CJ(l:List Nat){i k:Nat}(d:i<l.length)(f:k<l.length)(q:Nat):(oJ l i k).getD q 0=if q=k then l.getD i 0 else if q=i then l.getD k 0 else l.getD q 0:=by
 unfold oJ
 rw[tK _ _ _ _ (by rw[List.length_set];exact f),tK _ _ _ _ d]
def Is(r c:Nat)(S:List Nat)(L:List Nat):List Nat:=fu r L.length (fun i k=>gJ c S i (L.getD k 0))
theorem FF(r c:Nat)(S L:List Nat):(Is r c S L).length=r*L.length:=cT _ _ _
theorem Jx(r c:Nat)(S L:List Nat){p q:Nat}(d:p<r)(f:q<L.length):gJ L.length (Is r c S L) p q=gJ c S p (L.getD q 0):=Gh r L.length _ d f
theorem ig{n q:Nat}(h:q<n):(List.range n).getD q 0=q:=by
 rw[List.getD_eq_getElem?_getD,List.getElem?_range h];rfl
def FG(r c:Nat)(S:List Nat)(j a:Nat):List Nat:=Is r c S (oJ (List.range c) j a)
theorem eH(c j a:Nat):(oJ (List.range c) j a).length=c:=by rw[rl,List.length_range]
theorem xg(r c:Nat)(S:List Nat)(j a:Nat):(FG r c S j a).length=r*c:=by unfold FG;rw[FF,eH]
def Jy(j a q:Nat):Nat:=if q=a then j else if q=j then a else q
theorem Gm(r c:Nat)(S:List Nat){j a p q:Nat}(d:j<c)(f:a<c)(l:p<r)(h:q<c):gJ c (FG r c S j a) p q=gJ c S p (Jy j a q):=by
 have e:=Jx r c S (oJ (List.range c) j a) l (q:=q) (by rw[eH];exact h)
 rw[eH]at e
 unfold FG
 rw[e,CJ _ (by rw[List.length_range];exact d) (by rw[List.length_range];exact f),ig d,ig f,ig h]
 rfl
def px(r c:Nat)(S:List Nat)(j:Nat):List Nat:=FG r c S j (oI r c S j)
theorem jt(r c:Nat)(S:List Nat)(j:Nat):(px r c S j).length=r*c:=xg _ _ _ _ _
def vM(r c:Nat)(S:List Nat)(j:Nat):List Nat:=if j+1<r then Jw r c (px r c S j) j else px r c S j
theorem FH(r c:Nat)(S:List Nat)(j:Nat):(vM r c S j).length=r*c:=by unfold vM;split<;>first|exact FC _ _ _ _|exact jt _ _ _ _
def eQ(r c:Nat)(S:List Nat):Nat→List Nat
 |0=>S
 |j+1=>vM r c (eQ r c S j) j
theorem fW(r c:Nat)(S:List Nat)(h:S.length=r*c):∀j,(eQ r c S j).length=r*c
 |0=>h
 |_+1=>FH _ _ _ _
def zd(r c:Nat)(S:List Nat):Nat→List Nat
 |0=>List.range c
 |j+1=>oJ (zd r c S j) j (oI r c (eQ r c S j) j)
theorem iM(r c:Nat)(S:List Nat):∀j,(zd r c S j).length=c
 |0=>List.length_range
 |j+1=>by show(oJ _ _ _).length=c;rw[rl,iM r c S j]
def eR(r c:Nat)(S:List Nat)(j:Nat):List Nat:=jz r c (px r c (eQ r c S j) j) j
theorem rm(r c:Nat)(S:List Nat)(j:Nat):(eR r c S j).length=r-j:=FB _ _ _ _
def FI(r c:Nat)(S:List Nat)(j:Nat):Bool:=vL r c S j&&(decide (r≤j+1)||yV (jz r c (px r c S j) j))
def Dy(r c:Nat)(S:List Nat):Nat→Bool
 |0=>true
 |j+1=>Dy r c S j&&FI r c (eQ r c S j) j
def ze(r:Nat)(X:Nat→List Nat)(K:Nat):Nat→List Nat
 |0=>yT r
 |t+1=>mT r r (ze r X K t) (K-1-t) 0 (jI (X (K-1-t))) (mq (X (K-1-t)))
theorem dU(r:Nat)(X:Nat→List Nat)(K:Nat):∀t,(ze r X K t).length=r*r
 |0=>show(yT r).length=r*r from cT r r _
 |_+1=>gL _ _ _ _ _ _ _
def vN(r c:Nat)(S:List Nat):List Nat:=ze r (eR r c S) (fH r c) (fH r c)
def us(r c:Nat)(S:List Nat):List Nat:=eQ r c S (min c r)
def CQ(r c:Nat)(S:List Nat):List Nat:=zd r c S (min c r)
def xh(r c:Nat)(S:List Nat):Bool:=Dy r c S (min c r)&&(cY (vN r c S)&&cY (us r c S))
theorem tM(l:List Nat){i k:Nat}(f:i<l.length)(d:k<l.length):(oJ l i k).Perm l:=by
 rw[List.perm_iff_count]
 intro x
 unfold oJ
 rw[List.count_set (by rw[List.length_set];exact d),List.count_set f]
 have t:(l.set i (l.getD k 0))[k]'(by rw[List.length_set];exact d)=l[k]:=by
  rw[List.getElem_set]
  split
  ·rename_i h;subst h;simp[List.getD_eq_getElem?_getD,d]
  ·rfl
 rw[t]
 have z:l.getD k 0=l[k]:=by simp[List.getD_eq_getElem?_getD,d]
 have A:l.getD i 0=l[i]:=by simp[List.getD_eq_getElem?_getD,f]
 rw[z,A]
 have m:(l[i]==x)=true→0<List.count x l:=fun h=>List.count_pos_iff.2 (by rw[←eq_of_beq h];exact List.getElem_mem f)
 cases h1:(l[i]==x)<;>cases h2:(l[k]==x)
 ·simp
 ·simp
 ·simp
  have:=m h1;omega
 ·simp
  have:=m h1;omega
theorem tN(r c:Nat)(S:List Nat):∀j,j≤c→(zd r c S j).Perm (List.range c)
 |0,_=>List.Perm.refl _
 |j+1,h=>(tM _ (by rw[iM];omega) (by rw[iM];exact jc r c _ (by omega))).trans (tN r c S j (by omega))
end Go.Proofs.YtnnfjeieennffaaGreatDoor
