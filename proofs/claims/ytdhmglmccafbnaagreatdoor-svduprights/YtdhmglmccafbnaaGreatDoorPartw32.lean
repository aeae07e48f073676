/- SvdUprights is true for any matrix: the program's Upright tells what the reference tells, and so do both ranks. -/
import Derived.Test.YtdhmglmccafbnaaGreatDoorPartw31
import Derived.Lib.SmallJoins
import Derived.Deep.DeepHandedRow
import Derived.Test.YtdhmglmccafbnaaGreatDoorCards
import Derived.Test.YtdhmglmccafbnaaGreatDoorTie
set_option maxHeartbeats 16000000
set_option maxRecDepth 20000
namespace Go.Proofs.YtdhmglmccafbnaaGreatDoor
open Go.RowKit
attribute [local go_sem ↓] Go.wp_at_zero Go.wp_at_succ
theorem rm(r c:Int)(l u:Option Addr)(f d:Nat)(I:List Int)(w:World)(h:af w l f I)(G:af w u d I)(L:I.length≤17592186043904):
  Calls Tryz.prog 33 #[.agg #[.int .i64 r,.int .i64 c,.slice l I.length f],.agg #[.int .i64 r,.int .i64 c,.slice u I.length d]] w fun e w'=>e=.returned (.bool true)∧Below w.heap.size w w':=by
 have D:=ac w (.cells #[.int .i64 r,.int .i64 c,.slice l I.length f] 25)
 have H:=ac (w.alloc (.cells #[.int .i64 r,.int .i64 c,.slice l I.length f] 25)) (.cells #[.int .i64 r,.int .i64 c,.slice u I.length d] 25)
 have z:=D.trans (H.mono D.size)
 have K:=aa (oh l u f d I _ (h.below z) (G.below z) (by omega))
 have J:=aa z
 clear D H z h G
 generalize I.length=n at*
 go_enter Tryz.func33,Tryz.ntmps33
 go_wp2_with fail
 refine Calls.mono (uH K) ?_
 rintro e M ⟨rfl,F⟩
 clear K
 go_wp2
 go_ret
 exact⟨rfl,(uH J).trans (F.mono (uH J).size)⟩
structure mh (w wr:World) (H go ga gb:Nat) (r c:Int) (ao:Option Addr) (n cap:Nat) (po:Option Addr) (pc p1 p2:Nat) (so:Option Addr) (sd:Nat) (S:List Nat) (p3 p4:Nat) (to':Option Addr) (td:Nat) (T:List Nat) (lo:Option Addr) (lc:Nat) (P:List Nat):Prop where
 g:vp w wr H go ga gb r c ao n cap po pc p1 p2 so sd S p3 p4 to' td T
 i:af wr lo lc (aL P)
 n:jL H lo (aL P)
theorem mh.all{w wr:World}{H l u z:Nat}{r c:Int}{D:Option Addr}{n d:Nat}{F:Option Addr}{G J p2:Nat}{K:Option Addr}{L:Nat}{S:List Nat}{M N:Nat}{f:Option Addr}{O:Nat}{T:List Nat}{lo:Option Addr}{Q:Nat}{P:List Nat}{w':World}(h:mh w wr H l u z r c D n d F G J p2 K L S M N f O T lo Q P)(U:Below wr.heap.size wr w'):mh w w' H l u z r c D n d F G J p2 K L S M N f O T lo Q P:=
 ⟨h.g.all U,h.i.below U,h.n⟩
theorem mh.put{w wr:World}{H F G J:Nat}{r c:Int}{K:Option Addr}{n d:Nat}{l:Option Addr}{L M p2:Nat}{N:Option Addr}{O:Nat}{S:List Nat}{Q U:Nat}{f:Option Addr}{V:Nat}{T:List Nat}{lo:Option Addr}{X:Nat}{P:List Nat}(h:mh w wr H F G J r c K n d l L M p2 N O S Q U f V T lo X P){j:Nat}(Z:j<n):∃g u,l=some ⟨g,0,none⟩∧wr.cell? ⟨g,j,none⟩=some (.int .u64 u)∧wr.frozen? ⟨g,j,none⟩=false∧∀z,mh w (wr.setCell ⟨g,j,none⟩ (.int .u64 z)) H F G J r c K n d l L M p2 N O S Q U f V T lo X P:=by
 obtain⟨g,Y,e2,e3,e4⟩:=h.g.copy.resolve_left (by omega)
 obtain⟨g',u,D,cz,fz,pt⟩:=h.g.put Z
 rw[Y]at D
 simp only[Option.some.injEq,Addr.mk.injEq]at D
 obtain⟨rfl,_⟩:=D
 exact⟨g,u,Y,cz,fz,fun z=>⟨pt z,h.i.far h.n e3 j _,h.n⟩⟩
theorem et(r c:Int)(ao:Option Addr)(F:Nat)(I:List Int)(G p2 J K:Nat)(S T P:List Nat)(f er:Int)(rk:Nat)(w:World)(hI:af w ao F I)(hl:I.length≤17592186043904)(b1:S.length≤36)(b2:T.length≤36)(h6:P.length≤6)
  (bq:((f=1∨f=4)∧er=f∧G=0∧p2=0∧J=0∧K=0∧S= []∧T= []∧P= [])∨f=0)
  (C2:∀w' po pc,Below w.heap.size w w'→af w' po pc I→Calls Tryz.prog 37 #[.agg #[.int .i64 r,.int .i64 c,.slice po I.length pc]] w' fun e D=>∃v u lo lc,e=.returned (.tuple #[v,u,.slice lo P.length lc,.int .i64 er])∧bK w'.heap.size D G p2 S v∧bK w'.heap.size D J K T u∧jL w'.heap.size lo (aL P)∧af D lo lc (aL P)∧Below w'.heap.size w' D)
  (C5:∀w',Below w.heap.size w w'→Calls Tryz.prog 19 #[.agg #[.int .i64 r,.int .i64 c,.slice ao I.length F]] w' fun e D=>e=.returned (.int .i64 f)∧Below w'.heap.size w' D)
  (C7:f=0→∀w',Below w.heap.size w w'→Calls Tryz.prog 38 #[.agg #[.int .i64 r,.int .i64 c,.slice ao I.length F]] w' fun e D=>∃(M:Option Addr) (N:Nat) (O:Option Addr) (Q:Nat) (U:Option Addr) (V:Nat),e=.returned (.agg #[.int .i64 G,.int .i64 p2,.slice M S.length N,.int .i64 J,.int .i64 K,.slice O T.length Q,.slice U P.length V,.int .i64 er])∧af D M N (aL S)∧af D O Q (aL T)∧af D U V (aL P)∧Below w'.heap.size w' D)
  (CR:∀w' Y Z,Below w.heap.size w w'→af w' Y Z (aL P)→Calls Tryz.prog 40 #[.slice Y P.length Z] w' fun e D=>e=.returned (.int .i64 (rk:Nat))∧Below w'.heap.size w' D)
  (CQ:∀w' Y Z,af w' Y Z (aL P)→Calls Tryz.prog 41 #[.slice Y P.length Z] w' fun e D=>e=.returned (.int .i64 (rk:Nat))∧Below w'.heap.size w' D)
  (CA:∀w',Below w.heap.size w w'→Calls Tryz.prog 42 #[] w' fun e D=>e=.returned (.bool true)∧Below w'.heap.size w' D):
  Calls Tryz.prog 7 #[.agg #[.int .i64 r,.int .i64 c,.slice ao I.length F]] w fun e w'=>e=.returned (.bool true)∧Below w.heap.size w w':=by
 have a6:=aa bq;have KR:=aa CR;have KQ:=aa CQ
 have K2:=aa C2;have K5:=aa C5;have K7:=aa C7;have KA:=aa CA
 have KS:=aa (fun w' Y Z yo yc (h1:af w' Y Z (aL S)) (h2:af w' yo yc (aL S))=>pY G p2 Y yo Z yc S w' h1 h2 (by omega))
 have KT:=aa (fun w' Y Z yo yc (h1:af w' Y Z (aL T)) (h2:af w' yo yc (aL T))=>pY J K Y yo Z yc T w' h1 h2 (by omega))
 have KI:=aa (fun w' Y Z yo yc (h1:af w' Y Z (aL P)) (h2:af w' yo yc (aL P))=>oh Y yo Z yc (aL P) w' h1 h2 (by rw[av];omega))
 simp only[av]at KI
 have b0:=ac w (.cells #[.int .i64 r,.int .i64 c,.slice ao I.length F] 25)
 have s0:=ah w (.cells #[.int .i64 r,.int .i64 c,.slice ao I.length F] 25)
 have x0:=aw.new w (.int .i64 r) (.int .i64 c) (.slice ao I.length F)
 have b3:=aa hI;have b4:=aa hl
 have bv:=aa x0;have a7:=aa b0;have bw:=aa s0
 have K1:=aa (yk r c ao F I _ (hI.below b0) hl)
 have a5:=aa (fun bt w' po pc (o:br bt w' (.slice po I.length pc) (a8 I))=>o.same hI)
 have b5:=aa (show I.length≤35184372088830 by omega)
 clear b0 s0 x0 hI hl bq C2 C5 C7 CA CR CQ b1 b2 h6
 go_enter Tryz.func7,Tryz.ntmps7
 go_wp2_with fail
 refine Calls.mono (uH K1) ?_
 rintro e w1 ⟨po,pc,rfl,a3,bm⟩
 have am:=(uH a7).trans (bm.mono (uH a7).size)
 have X:=ac w1 (.cells #[.int .i64 r,.int .i64 c,.slice po I.length pc] 25)
 have Q1:=aa ((uH a5 _ _ _ _ a3).below X)
 have CP:=aa (((a3.copy.base (Nat.le_refl _)).base (show w.heap.size+1≤_ by rw[uH bw];exact Nat.le_refl _)).below X)
 have BX:=aa (aw.new w1 (.int .i64 r) (.int .i64 c) (.slice po I.length pc))
 have A0:=aa (((uH bv).all bm).all X)
 have B1:=aa (am.trans (X.mono am.size))
 clear a3 bm am X K1 bv a7 a5 bw
 have y0:=(uH BX).c0;have y1:=(uH BX).c1;have y2:=(uH BX).c2
 go_wp2_with fail
 refine(uH K2 _ _ _ (uH B1) (uH Q1)).mono ?_
 rintro e w2 ⟨v,u,lo,lc,rfl,⟨so,sd,rfl,ns,qs⟩,⟨a4,td,rfl,nt,qt⟩,np,qp,ae⟩
 have zz:=aa (ah w1 (.cells #[.int .i64 r,.int .i64 c,.slice po I.length pc] 25))
 have X:=ac w2 (.cells #[.int .i64 G,.int .i64 p2,.slice so S.length sd] 25)
 have zb:=ah w2 (.cells #[.int .i64 G,.int .i64 p2,.slice so S.length sd] 25)
 have bb:=ac (w2.alloc (.cells #[.int .i64 G,.int .i64 p2,.slice so S.length sd] 25)) (.cells #[.int .i64 J,.int .i64 K,.slice a4 T.length td] 25)
 have xb:=aw.new (w2.alloc (.cells #[.int .i64 G,.int .i64 p2,.slice so S.length sd] 25)) (.int .i64 J) (.int .i64 K) (.slice a4 T.length td)
 rw[zb]at xb
 have ap:=(uH B1).trans (ae.mono (uH B1).size)
 have L:=ap.trans (X.mono ap.size)
 have d:=aa (show mh w ((w2.alloc (.cells #[.int .i64 G,.int .i64 p2,.slice so S.length sd] 25)).alloc (.cells #[.int .i64 J,.int .i64 K,.slice a4 T.length td] 25)) w1.heap.size w1.heap.size w2.heap.size (w2.heap.size+1) r c ao I.length F po pc G p2 so sd S J K a4 td T lo lc P from
  ⟨⟨L.trans (bb.mono L.size),(((uH A0).all ae).all X).all bb,(((uH BX).all ae).all X).all bb,(((uH CP).below ae).below X).below bb,⟨(aw.new w2 _ _ _).all bb,(qs.below X).below bb,jL.least ns (by rw[uH zz];omega)⟩,⟨xb,(qt.below X).below bb,jL.least nt (by rw[uH zz];omega)⟩⟩,(qp.below X).below bb,jL.least np (by rw[uH zz];omega)⟩)
 have bx:=aa (rm r c po ao pc F I _ ((((uH Q1).below ae).below X).below bb) ((uH b3).below (L.trans (bb.mono L.size))) (uH b4))
 clear y0 y1 y2 ns qs nt qt np qp ae X bb xb zb ap L zz B1 A0 BX CP Q1 K2
 have a0:=(uH d).g.m.c0;have a1:=(uH d).g.m.c1;have a2:=(uH d).g.m.c2
 have y0:=(uH d).g.own.c0;have y1:=(uH d).g.own.c1;have y2:=(uH d).g.own.c2
 generalize bn:S.length=nS at*
 generalize bo:T.length=nT at*
 generalize bE:P.length=nP at*
 go_wp2_with fail
 clear y0 y1 y2 a0 a1 a2
 refine Calls.mono (uH bx) ?_
 rintro e w3 ⟨rfl,h⟩
 replace d:=aa ((uH d).all h)
 clear h bx
 have y2:=(uH d).g.own.c2
 go_wp2_with fail
 clear y2
 generalize cm:w2.heap.size+1=g4 at*
 generalize cp:w2.heap.size=g3 at*
 generalize hn:I.length=n at*
 go_loopw[8] (fun a wr=>∃j:Nat,j≤n∧a=.int .i64 j∧Hid (mh w wr w1.heap.size w1.heap.size g3 g4 r c ao n F po pc G p2 so sd S J K a4 td T lo lc P)) (fun a _=>n-(intOf a).toNat)
 case atStart=>exact⟨0,Nat.zero_le _,rfl,d⟩
 case round=>
  clear d
  obtain⟨j,hj,rfl,hX⟩:=hrel
  have t2:=(uH hX).g.own.c2
  by_cases b6:j<n
  ·have ci:(j:Int)<(n:Int):=by omega
   have ck:=uH b5
   obtain⟨g,z0,rfl,cz,fz,bA⟩:=(uH hX).put b6
   have b7:=aa (fun z=>bA z)
   clear bA hX
   go_wp2_with fail
   go_region_with fail
   all_goals
    go_wp2_with fail
    go_round
    case rel=>exact⟨j+1,by omega,by go_num,aa ((uH b7 _).all (Below.refl _ _).drew)⟩
    case measure=>simp[intOf];omega
  ·have b8:n=j:=by omega
   subst b8
   have a0:=(uH hX).g.m.c0;have a1:=(uH hX).g.m.c1;have a2:=(uH hX).g.m.c2
   have d:=hX
   clear hX
   go_wp2_with fail
   refine(uH K5 _ (uH d).g.bel).mono ?_
   rintro e l ⟨rfl,h⟩
   clear a0 a1 a2 t2
   have bz:=ac l (.cells #[.int .i64 0,.int .i64 0,.slice none 0 0,.int .i64 0,.int .i64 0,.slice none 0 0,.slice none 0 0,.int .i64 0] 63)
   have XZ:=aa (bX.new 63 l [.int .i64 0,.int .i64 0,.slice none 0 0,.int .i64 0,.int .i64 0,.slice none 0 0,.slice none 0 0,.int .i64 0])
   have S5:=aa ((uH d).all h)
   have BZ:=aa bz
   replace d:=aa (((uH d).all h).all bz)
   clear h bz K5
   generalize ce:l.heap.size=gw at*
   rcases uH a6 with⟨hf,hw⟩|rfl
   ·obtain⟨rfl,rfl,rfl,rfl,rfl,rfl,rfl,rfl⟩:=hw
    obtain rfl:nS=0:=by rw[←bn];rfl
    obtain rfl:nT=0:=by rw[←bo];rfl
    obtain rfl:nP=0:=by rw[←bE];rfl
    clear a6 K7 bn bo bE
    rcases hf with rfl|rfl
    all_goals
     have a9:=(uH d).g.s.box.c0;have be:=(uH d).g.s.box.c1;have ax:=(uH d).g.s.box.c2
     have z0:=(uH XZ).c 0 rfl;have z1:=(uH XZ).c 1 rfl;have z2:=(uH XZ).c 2 rfl
     simp only[List.length_nil]at ax
     go_wp2_with fail
     clear a9 be ax z0 z1 z2
     refine(uH KS _ _ _ _ _ (uH d).g.s.bits (af.nilAt _ _ _)).mono ?_
     rintro e w8 ⟨rfl,h⟩
     replace d:=aa ((uH d).all h)
     replace XZ:=aa ((uH XZ).all h)
     clear h
     have bg:=(uH d).g.t.box.c0;have bi:=(uH d).g.t.box.c1;have aI:=(uH d).g.t.box.c2
     have z3:=(uH XZ).c 3 rfl;have z4:=(uH XZ).c 4 rfl;have z5:=(uH XZ).c 5 rfl
     simp only[List.length_nil]at aI
     go_wp2_with fail
     clear bg bi aI z3 z4 z5
     refine(uH KT _ _ _ _ _ (uH d).g.t.bits (af.nilAt _ _ _)).mono ?_
     rintro e w9 ⟨rfl,h⟩
     replace d:=aa ((uH d).all h)
     replace XZ:=aa ((uH XZ).all h)
     clear h
     have z6:=(uH XZ).c 6 rfl
     go_wp2_with fail
     clear z6
     refine(uH KI _ _ _ _ _ (uH d).i (af.nilAt _ _ _)).mono ?_
     rintro e b9 ⟨rfl,h⟩
     replace d:=aa ((uH d).all h)
     clear h XZ
     go_wp2_with fail
     refine(uH KR _ _ _ (uH d).g.bel (uH d).i).mono ?_
     rintro e ca ⟨rfl,h⟩
     replace d:=aa ((uH d).all h)
     clear h
     go_wp2_with fail
     refine(uH KQ _ _ _ (uH d).i).mono ?_
     rintro e cb ⟨rfl,h⟩
     have BE:=aa ((uH d).all h).g.bel
     clear h d
     go_wp2_with fail
     refine(uH KA _ (uH BE)).mono ?_
     rintro e cc ⟨rfl,h⟩
     replace BE:=aa ((uH BE).trans (h.mono (uH BE).size))
     clear h
     go_wp2
     go_ret
     exact⟨rfl,uH BE⟩
   ·have G7:=aa (uH K7 (by first|rfl|trivial))
    clear a6 K7
    have a0:=(uH d).g.m.c0;have a1:=(uH d).g.m.c1;have a2:=(uH d).g.m.c2
    go_wp2_with fail
    clear a0 a1 a2
    refine(uH G7 _ (uH d).g.bel).mono ?_
    rintro e w6 ⟨M,N,O,Q,U,V,rfl,hq,hr,hk,h⟩
    subst ce
    have bz:=uH BZ
    have H:=(uH XZ).all h
    have r0:=H.c 0 rfl;have r1:=H.c 1 rfl;have r2:=H.c 2 rfl;have r3:=H.c 3 rfl;have r4:=H.c 4 rfl;have r5:=H.c 5 rfl;have r6:=H.c 6 rfl;have r7:=H.c 7 rfl
    have f0:=H.free 0;have f1:=H.free 1;have f2:=H.free 2;have f3:=H.free 3;have f4:=H.free 4;have f5:=H.free 5;have f6:=H.free 6;have f7:=H.free 7
    have XP:=aa (show bX 63 ((((((((w6.setCell ⟨l.heap.size,0,none⟩ (.int .i64 G)).setCell ⟨l.heap.size,1,none⟩ (.int .i64 p2)).setCell ⟨l.heap.size,2,none⟩ (.slice M nS N)).setCell ⟨l.heap.size,3,none⟩ (.int .i64 J)).setCell ⟨l.heap.size,4,none⟩ (.int .i64 K)).setCell ⟨l.heap.size,5,none⟩ (.slice O nT Q)).setCell ⟨l.heap.size,6,none⟩ (.slice U nP V)).setCell ⟨l.heap.size,7,none⟩ (.int .i64 er)) l.heap.size [.int .i64 G,.int .i64 p2,.slice M nS N,.int .i64 J,.int .i64 K,.slice O nT Q,.slice U nP V,.int .i64 er]from H.full [.int .i64 G,.int .i64 p2,.slice M nS N,.int .i64 J,.int .i64 K,.slice O nT Q,.slice U nP V,.int .i64 er] rfl)
    have BF:=show Below l.heap.size l ((((((((w6.setCell ⟨l.heap.size,0,none⟩ (.int .i64 G)).setCell ⟨l.heap.size,1,none⟩ (.int .i64 p2)).setCell ⟨l.heap.size,2,none⟩ (.slice M nS N)).setCell ⟨l.heap.size,3,none⟩ (.int .i64 J)).setCell ⟨l.heap.size,4,none⟩ (.int .i64 K)).setCell ⟨l.heap.size,5,none⟩ (.slice O nT Q)).setCell ⟨l.heap.size,6,none⟩ (.slice U nP V)).setCell ⟨l.heap.size,7,none⟩ (.int .i64 er))from cP (b:=l.heap.size) (Nat.le_refl _) [.int .i64 G,.int .i64 p2,.slice M nS N,.int .i64 J,.int .i64 K,.slice O nT Q,.slice U nP V,.int .i64 er] 0 (bz.trans (h.mono bz.size))
    replace d:=aa ((uH S5).all BF)
    have PQ:=aa (show af ((((((((w6.setCell ⟨l.heap.size,0,none⟩ (.int .i64 G)).setCell ⟨l.heap.size,1,none⟩ (.int .i64 p2)).setCell ⟨l.heap.size,2,none⟩ (.slice M nS N)).setCell ⟨l.heap.size,3,none⟩ (.int .i64 J)).setCell ⟨l.heap.size,4,none⟩ (.int .i64 K)).setCell ⟨l.heap.size,5,none⟩ (.slice O nT Q)).setCell ⟨l.heap.size,6,none⟩ (.slice U nP V)).setCell ⟨l.heap.size,7,none⟩ (.int .i64 er)) M N (aL S)from cU (b:=l.heap.size) (H.off fC hq) [.int .i64 G,.int .i64 p2,.slice M nS N,.int .i64 J,.int .i64 K,.slice O nT Q,.slice U nP V,.int .i64 er] 0 hq)
    have PR:=aa (show af ((((((((w6.setCell ⟨l.heap.size,0,none⟩ (.int .i64 G)).setCell ⟨l.heap.size,1,none⟩ (.int .i64 p2)).setCell ⟨l.heap.size,2,none⟩ (.slice M nS N)).setCell ⟨l.heap.size,3,none⟩ (.int .i64 J)).setCell ⟨l.heap.size,4,none⟩ (.int .i64 K)).setCell ⟨l.heap.size,5,none⟩ (.slice O nT Q)).setCell ⟨l.heap.size,6,none⟩ (.slice U nP V)).setCell ⟨l.heap.size,7,none⟩ (.int .i64 er)) O Q (aL T)from cU (b:=l.heap.size) (H.off fC hr) [.int .i64 G,.int .i64 p2,.slice M nS N,.int .i64 J,.int .i64 K,.slice O nT Q,.slice U nP V,.int .i64 er] 0 hr)
    have IK:=aa (show af ((((((((w6.setCell ⟨l.heap.size,0,none⟩ (.int .i64 G)).setCell ⟨l.heap.size,1,none⟩ (.int .i64 p2)).setCell ⟨l.heap.size,2,none⟩ (.slice M nS N)).setCell ⟨l.heap.size,3,none⟩ (.int .i64 J)).setCell ⟨l.heap.size,4,none⟩ (.int .i64 K)).setCell ⟨l.heap.size,5,none⟩ (.slice O nT Q)).setCell ⟨l.heap.size,6,none⟩ (.slice U nP V)).setCell ⟨l.heap.size,7,none⟩ (.int .i64 er)) U V (aL P)from cU (b:=l.heap.size) (H.off fC hk) [.int .i64 G,.int .i64 p2,.slice M nS N,.int .i64 J,.int .i64 K,.slice O nT Q,.slice U nP V,.int .i64 er] 0 hk)
    clear hq hr hk h bz BF H S5 BZ XZ G7
    have a9:=(uH d).g.s.box.c0;have be:=(uH d).g.s.box.c1;have ax:=(uH d).g.s.box.c2
    rw[bn]at ax
    have z0:=(uH XP).c 0 rfl;have z1:=(uH XP).c 1 rfl;have z2:=(uH XP).c 2 rfl;have z7:=(uH XP).c 7 rfl
    go_wp2_with fail
    clear a9 be ax z0 z1 z2 z7 r0 f0 r1 f1 r2 f2 r3 f3 r4 f4 r5 f5 r6 f6 r7 f7
    refine(uH KS _ _ _ _ _ (uH d).g.s.bits (uH PQ)).mono ?_
    rintro e w8 ⟨rfl,h⟩
    replace d:=aa ((uH d).all h)
    replace XP:=aa ((uH XP).all h)
    replace PR:=aa ((uH PR).below h)
    replace IK:=aa ((uH IK).below h)
    clear h PQ
    have bg:=(uH d).g.t.box.c0;have bi:=(uH d).g.t.box.c1;have aI:=(uH d).g.t.box.c2
    rw[bo]at aI
    have z3:=(uH XP).c 3 rfl;have z4:=(uH XP).c 4 rfl;have z5:=(uH XP).c 5 rfl
    go_wp2_with fail
    clear bg bi aI z3 z4 z5
    refine(uH KT _ _ _ _ _ (uH d).g.t.bits (uH PR)).mono ?_
    rintro e w9 ⟨rfl,h⟩
    replace d:=aa ((uH d).all h)
    replace XP:=aa ((uH XP).all h)
    replace IK:=aa ((uH IK).below h)
    clear h PR
    have z6:=(uH XP).c 6 rfl
    go_wp2_with fail
    clear z6
    refine(uH KI _ _ _ _ _ (uH d).i (uH IK)).mono ?_
    rintro e b9 ⟨rfl,h⟩
    replace d:=aa ((uH d).all h)
    clear h XP IK
    go_wp2_with fail
    refine(uH KR _ _ _ (uH d).g.bel (uH d).i).mono ?_
    rintro e ca ⟨rfl,h⟩
    replace d:=aa ((uH d).all h)
    clear h
    go_wp2_with fail
    refine(uH KQ _ _ _ (uH d).i).mono ?_
    rintro e cb ⟨rfl,h⟩
    have BE:=aa ((uH d).all h).g.bel
    clear h d
    go_wp2_with fail
    refine(uH KA _ (uH BE)).mono ?_
    rintro e cc ⟨rfl,h⟩
    replace BE:=aa ((uH BE).trans (h.mono (uH BE).size))
    clear h
    go_wp2
    go_ret
    exact⟨rfl,uH BE⟩
theorem Cd(r c:Int)(I:List Int):oo r c I=0∨oo r c I=1∨oo r c I=4:=by
 unfold oo
 split
 ·split
  ·exact .inl rfl
  ·exact .inr (.inr rfl)
 ·exact .inr (.inl rfl)
theorem Ce{p q:Nat}{A:List Nat}(f:p≤6)(h:∀x∈(ge p q A).W,x<18446744073709551616):
  (eK (bR p q (ge p q A).W) q=cE (bR p q (ge p q A).W) q)∨(mq p q A=false∧(dq (iX (eP p q (ge p q A).W (eK (bR p q (ge p q A).W) q)) (rh A))&&dq (eP q q (ge p q A).V (eK (bR p q (ge p q A).W) q)))=false):=by
 by_cases l:dq (iX (eP p q (ge p q A).W (cE (bR p q (ge p q A).W) q)) (rh A))=true
 ·exact .inl (wz f h (fun j d=>ww _ q j d) l)
 ·by_cases u:dq (iX (eP p q (ge p q A).W (eK (bR p q (ge p q A).W) q)) (rh A))=true
  ·exact .inl (wz f h (fun j d=>wy _ q j d) u)
  ·refine .inr ⟨?_,?_⟩
   ·have:dq (iB p q A)=false:=Bool.eq_false_iff.2 l
    unfold mq
    rw[this];rfl
   ·rw[Bool.eq_false_iff.2 u];rfl
theorem Cf{S:List Nat}(h:∀x∈S,x<18446744073709551616)(r c i k C s:Nat):∀x∈fu r c S i k C s,x<18446744073709551616:=E9 h r c i k C s
theorem Cg{r c low p:Nat}{s:Sd}(h:∀x∈s.W,x<18446744073709551616):∀t,∀x∈(mJ r c low p s t).W,x<18446744073709551616
 |0=>h
 |t+1=>by
  have d:=Cg (r:=r) (c:=c) (low:=low) (p:=p) h t
  have e:mJ r c low p s (t+1)=tX r c low p (p+1+t) (mJ r c low p s t):=rfl
  rw[e]
  unfold tX
  split
  ·exact d
  ·exact Cf d _ _ _ _ _ _
theorem Ch{r c low:Nat}{s:Sd}(h:∀x∈s.W,x<18446744073709551616):∀p,∀x∈(mb r c low s p).W,x<18446744073709551616
 |0=>h
 |p+1=>Cg (Ch h p) _
theorem Ci{r c low:Nat}{s:Sd}(h:∀x∈s.W,x<18446744073709551616):∀n,∀x∈(gu r c low s n).W,x<18446744073709551616
 |0=>h
 |n+1=>by
  have d:=Ci (r:=r) (c:=c) (low:=low) h n
  have e:gu r c low s (n+1)=if(gu r c low s n).still=true then gu r c low s n else GZ r c low (gu r c low s n):=rfl
  rw[e]
  split
  ·exact d
  ·show∀x∈(mb r c low ⟨(gu r c low s n).W,(gu r c low s n).V,true⟩ c).W,x<18446744073709551616
   exact Ch (s:=⟨_,_,true⟩) d c
theorem Fa{r c n:Nat}{S:List Nat}(h:∀x∈S,x<18446744073709551616):∀x∈(Fn r c S n).W,x<18446744073709551616:=by
 unfold Fn
 exact Ci (s:=⟨S,_,_⟩) h n
theorem Hc{w:World}{f:Option Addr}{d r c:Nat}{A:List Nat}(h:Mx w f d r c A):∀x∈(ge r c A).W,x<18446744073709551616:=by
 unfold ge
 exact Fa (lr h.1.nat _)
theorem lD(r c:Int)(F:Option Addr)(u:Nat)(I:List Int)(w:World)(N:af w F u I)(hl:I.length≤17592186043904)(_hr:-9223372036854775808≤r∧r≤9223372036854775807)(_hc:-9223372036854775808≤c∧c≤9223372036854775807)(hT:bT w):
  Calls Tryz.prog 7 #[.agg #[.int .i64 r,.int .i64 c,.slice F I.length u]] w fun e w'=>e=.returned (.bool true)∧Below w.heap.size w w':=by
 have U:=fun w' z D (l:Below w.heap.size w w') (h:af w' z D I)=>pj r c z D I w' h (by omega) (hT.all l)
 have Q:=fun w' (l:Below w.heap.size w w')=>qW r c F u I w' (N.below l) (by omega)
 have CA:=fun w' (l:Below w.heap.size w w')=>tG w' (hT.all l)
 have CR:∀P:List Nat,P.length≤6→∀w' G J,Below w.heap.size w w'→af w' G J (aL P)→Calls Tryz.prog 40 #[.slice G P.length J] w' fun e d=>e=.returned (.int .i64 (mK P P.length:Nat))∧Below w'.heap.size w' d:=fun P hP w' G J l h=>vq J G P w' h (by omega) (hT.all l)
 have CQ:∀P:List Nat,P.length≤6→∀w' G J,af w' G J (aL P)→Calls Tryz.prog 41 #[.slice G P.length J] w' fun e d=>e=.returned (.int .i64 (mK P P.length:Nat))∧Below w'.heap.size w' d:=fun P hP w' G J h=>tE J G P w' h (by omega)
 have Z:=fun(H:Nat) (w':World)=>bK.zero H w'
 by_cases O:oo r c I=0
 ·rw[O]at Q
  obtain⟨p,q,rfl,rfl,hm,ax,_⟩:=Mx.asked N O
  have X:=hm.2.2.1;have M:=hm.2.2.2
  have L:(a8 I).length=I.length:=dE I
  have Y:p*q=I.length:=hm.2.1.symm.trans L
  have am:I.length≤36:=by rw[←Y];exact Nat.mul_le_mul X M
  have R:=fun w' (l:Below w.heap.size w w')=>Cc p q I.length (q*q) u F (a8 I) w' (hm.below l) L rfl
  have U2:∀w' z D,Below w.heap.size w w'→af w' z D I→Calls Tryz.prog 37 #[.agg #[.int .i64 (p:Nat),.int .i64 (q:Nat),.slice z I.length D]] w' fun e d=>BT w'.heap.size d p q (a8 I) e∧Below w'.heap.size w' d:=fun w' z D l h=>by
   refine(U w' z D l h).mono ?_
   rintro e d ⟨⟨hn,_⟩|⟨_,ha⟩,f⟩
   ·exact absurd O hn
   ·exact⟨ha,f⟩
  have FS:=Ce (p:=p) (q:=q) (A:=a8 I) X (Hc hm)
  clear U
  by_cases K:(ge p q (a8 I)).still=true
  ·cases hF:mq p q (a8 I)with
   |false=>
    have ae:(dq (iX (eP p q (ge p q (a8 I)).W (eK (bR p q (ge p q (a8 I)).W) q)) (rh (a8 I)))&&dq (eP q q (ge p q (a8 I)).V (eK (bR p q (ge p q (a8 I)).W) q)))=false:=by
     rcases FS with e|e
     ·rw[e];exact hF
     ·exact e.2
    refine et p q F u I 0 0 0 0 [] [] [] 0 2 _ w N hl (by decide) (by decide) (by decide) (.inr rfl) (fun w' z D l h=>?_) Q (fun _ w' l=>?_) (CR [] (by decide)) (CQ [] (by decide)) CA
    ·refine(U2 w' z D l h).mono ?_
     rintro e d ⟨h|⟨_,_,rfl⟩|⟨_,h,_⟩,f⟩
     ·rw[K]at h;cases h.1
     ·exact⟨_,_,_,_,rfl,Z _ _,Z _ _,.inl rfl,af.nilAt _ _ _,f⟩
     ·rw[hF]at h;cases h
    ·refine(R w' l).mono ?_
     rintro e d ⟨h|⟨_,_,rfl⟩|⟨_,h,_⟩,f⟩
     ·rw[K]at h;cases h.1
     ·exact⟨_,_,_,_,_,_,rfl,af.nilAt _ _ _,af.nilAt _ _ _,af.nilAt _ _ _,f⟩
     ·rw[ae]at h;cases h
   |true=>
    have e:eK (bR p q (ge p q (a8 I)).W) q=cE (bR p q (ge p q (a8 I)).W) q:=by
     rcases FS with e|e
     ·exact e
     ·rw[hF]at e;cases e.1
    have lW:(iB p q (a8 I)).length=I.length:=by unfold iB pi;rw[ir,cN,dI,Y]
    have lV:(kE p q (a8 I)).length=q*q:=by unfold kE pi;rw[cN,dI]
    have lP:(bR p q (iB p q (a8 I))).length=q:=fh _ _ _
    have R2:∀w',Below w.heap.size w w'→Calls Tryz.prog 38 #[.agg #[.int .i64 (p:Nat),.int .i64 (q:Nat),.slice F I.length u]] w' fun e d=>Fv d p q I.length (q*q) (ge p q (a8 I)).still (mq p q (a8 I)) (iB p q (a8 I)) (kE p q (a8 I)) e∧Below w'.heap.size w' d:=fun w' l=>by
     have:=R w' l
     rw[e]at this
     exact this
    refine et p q F u I p q q q (iB p q (a8 I)) (kE p q (a8 I)) (bR p q (iB p q (a8 I))) 0 0 _ w N hl (by omega) (by rw[lV];exact Nat.mul_le_mul M M) (by omega) (.inr rfl) (fun w' z D l h=>?_) Q (fun _ w' l=>?_) (CR _ (by omega)) (CQ _ (by omega)) CA
    ·refine(U2 w' z D l h).mono ?_
     rintro e d ⟨h|⟨_,h,_⟩|⟨_,_,v1,v2,g,rfl,n1,n2,hg,hr⟩,f⟩
     ·rw[K]at h;cases h.1
     ·rw[hF]at h;cases h
     ·have q3:=hr.bits (wl p q _)
      rw[lP]at q3
      exact⟨v1,v2,some ⟨g,0,none⟩,q,by rw[lP],n1,n2,.inr ⟨g,0,rfl,hg⟩,q3,f⟩
    ·refine(R2 w' l).mono ?_
     rintro e d ⟨h|⟨_,h,_⟩|⟨_,_,wo,wc,vo,vc,so,sc,rfl,b1,b2,b3⟩,f⟩
     ·rw[K]at h;cases h.1
     ·rw[hF]at h;cases h
     ·exact⟨wo,wc,vo,vc,so,sc,by rw[lW,lV,lP],b1,b2,b3,f⟩
  ·have ap:(ge p q (a8 I)).still=false:=Bool.eq_false_iff.2 K
   refine et p q F u I 0 0 0 0 [] [] [] 0 6 _ w N hl (by decide) (by decide) (by decide) (.inr rfl) (fun w' z D l h=>?_) Q (fun _ w' l=>?_) (CR [] (by decide)) (CQ [] (by decide)) CA
   ·refine(U2 w' z D l h).mono ?_
    rintro e d ⟨⟨_,rfl⟩|⟨h,_⟩|⟨h,_⟩,f⟩
    ·exact⟨_,_,_,_,rfl,Z _ _,Z _ _,.inl rfl,af.nilAt _ _ _,f⟩
    ·exact absurd h K
    ·exact absurd h K
   ·refine(R w' l).mono ?_
    rintro e d ⟨⟨_,rfl⟩|⟨h,_⟩|⟨h,_⟩,f⟩
    ·exact⟨_,_,_,_,_,_,rfl,af.nilAt _ _ _,af.nilAt _ _ _,af.nilAt _ _ _,f⟩
    ·exact absurd h K
    ·exact absurd h K
 ·have hw:=(Cd r c I).resolve_left O
  refine et r c F u I 0 0 0 0 [] [] [] (oo r c I) (oo r c I) _ w N hl (by decide) (by decide) (by decide) (.inl ⟨hw,rfl,rfl,rfl,rfl,rfl,rfl,rfl,rfl⟩) (fun w' z D l h=>?_) Q (fun h=>absurd h O) (CR [] (by decide)) (CQ [] (by decide)) CA
  refine(U w' z D l h).mono ?_
  rintro e d ⟨⟨_,rfl⟩|⟨h,_⟩,f⟩
  ·exact⟨_,_,_,_,rfl,Z _ _,Z _ _,.inl rfl,af.nilAt _ _ _,f⟩
  ·exact absurd h O
end Go.Proofs.YtdhmglmccafbnaaGreatDoor
namespace Go.Proofs.YtdhmglmccafbnaaGreatDoor
open Go.ChangeShapes Go.WideShapes Go.ChangeAt Go.RowKit Go.Joins
theorem Tryz.own:ownKnob Tryz.prog.godebug=none:=by kernel_rfl
theorem Tryz.laidOut:laidOutB Tryz.prog=true:=by kernel_rfl
end Go.Proofs.YtdhmglmccafbnaaGreatDoor
namespace Go.Proofs.YtdhmglmccafbnaaGreatDoor
theorem jv{x:Int}(h:(Lit.int .i64 x).wf=true):-9223372036854775808≤x∧x≤9223372036854775807:=by
 simp[Lit.wf,IntKind.min,IntKind.max,IntKind.signed,IntKind.bits]at h
 omega
open Go.ChangeShapes Go.WideShapes Go.ChangeAt Go.RowKit Go.Joins
theorem Tryz.tabName:Tryz.prog.globalNamed "math/bits.deBruijn32tab" =some 1:=by kernel_rfl
theorem Tryz.tabType:(Tryz.prog.globals[1]?).map (·.type)=some 264:=by kernel_rfl
theorem Tryz.tabCells:Tryz.prog.cellsOf 264=32:=by kernel_rfl
theorem Tryz.byteCells:Tryz.prog.cellsOf 5=1:=by kernel_rfl
theorem Cj:∀j,j<Lib.deBruijn32tab.length→(List.map Int.ofNat Lib.deBruijn32tab).getD j 0=((Lib.deBruijn32tab.getD j 0:Nat):Int):=by decide
theorem tQ{W:World}(h:laidMetH Tryz.prog [("math/bits.deBruijn32tab",Rows.laid_math_bits_deBruijn32tab)] W):bT W:=by
 have f:=Lib.tabIs_of_head (zs:=Lib.deBruijn32tab.map Int.ofNat) (rest:=[]) Tryz.tabName Tryz.tabType Tryz.underlying264 Tryz.underlying5 Tryz.byteCells Tryz.tabCells h
 intro j d
 have:=f.cell Tryz.tabName j (by simpa using d)
 rw[this]
 congr 2
 exact Cj j d
end Go.Proofs.YtdhmglmccafbnaaGreatDoor
namespace Go.Proofs.YtdhmglmccafbnaaGreatDoor
open Go.ChangeShapes Go.WideShapes Go.ChangeAt Go.RowKit Go.Joins Go.Deep
theorem Tryz.cellsBits:Tryz.prog.cellsOf 28=1:=by kernel_rfl
theorem Tryz.bytesBits:Tryz.prog.bytesOf 28=8:=by kernel_rfl
theorem rn{W:World}{a:Addr}{v:Value}(h:W.cell? a=some v):a.spot=none∧a.block<W.heap.size:=⟨World.cell?_spot h,World.block_lt_of_cell? W _ h⟩
theorem tR(b d i:Nat):(⟨b,d,none⟩:Addr).add i=⟨b,d+i,none⟩:=by simp[Addr.add]
theorem pm{x:Int}(h:(Lit.int .u64 x).wf=true):0≤x∧x≤18446744073709551615:=by
 simp[Lit.wf,IntKind.min,IntKind.max,IntKind.signed,IntKind.bits]at h
 omega
theorem Tryz.cellsMx:Tryz.prog.cellsOf 25=3:=by kernel_rfl
theorem tT{H:Type}{enc:TypeId×Value→H}{W:World}{F:Nat}{v:Value}{d:DataW H}{p:List MemPlace}(G:Value.okWide Tryz.prog W .any F 25 v)(h:DataW.Trod enc Tryz.prog W 0 (fun _=>true) true 25 v d p)
  (Y:∀n∈d.weights Tryz.prog 25,n≤reachBytes):
  ∃(r c:Int) (Z:Option Addr) (J:Nat) (I:List Int),v=.agg #[.int .i64 r,.int .i64 c,.slice Z I.length J]∧af W Z J I∧I.length≤17592186043904∧(-9223372036854775808≤r∧r≤9223372036854775807)∧(-9223372036854775808≤c∧c≤9223372036854775807):=by
 obtain⟨c0,c1,c2,y0,y1,y2,m,rfl,rfl,rfl,O,Q,U⟩:=open_agg3 Tryz.underlying25 (by kernel_rfl) Tryz.cellsMx G h
 obtain⟨r,e0,_,w0⟩:=DataW.trod_int Tryz.underlying3 O
 simp at e0
 subst e0
 obtain⟨c,M,_,w1⟩:=DataW.trod_int Tryz.underlying3 Q
 simp at M
 subst M
 have b0:=jv w0
 have b1:=jv w1
 rcases open_ints Tryz.underlying23 Tryz.underlying28 Tryz.cellsBits U with⟨l,_⟩|⟨a,f,z,zs,l,_,hl,hm,hz,N,u,X⟩
 ·simp at l
  subst l
  exact⟨r,c,none,0,[],rfl,⟨by simp,by simp,.inl rfl⟩,by simp,b0,b1⟩
 ·simp at l
  subst l
  have ae:zs.length=z:=by simpa using hz
  have K:(zs.take f).length=f:=by simp;omega
  refine⟨r,c,some a,z,zs.take f,by rw[K],⟨by omega,fun x N=>pm (X x (List.mem_of_mem_take N)),?_⟩,?_,b0,b1⟩
  ·rcases Nat.eq_zero_or_pos f with rfl|hp
   ·left;simp
   ·right
    obtain⟨b,V,L⟩:=a
    obtain⟨M,e2⟩:=rn (u 0 (by omega))
    have D:L=none:=by simpa[Addr.add]using M
    subst D
    refine⟨b,V,rfl,by simpa[Addr.add]using e2,fun i hi=>?_⟩
    have h1:=u i (by omega)
    rw[tR]at h1
    rw[h1,List.getElem?_take,if_pos (by omega),List.getD_eq_getElem?_getD]
  ·rw[N]at Y
   have hk:=Y ((zs.length)*8) (by
    simp only[DataW.weights,Tryz.underlying25,DataW.weightsEach,List.map,Tryz.underlying23,List.append_nil,List.mem_cons,List.mem_append,Tryz.bytesBits,lits,List.length_map,List.length_take,List.length_drop]
    refine .inr (.inr (.inl ?_))
    omega)
   simp only[reachBytes]at hk
   omega
end Go.Proofs.YtdhmglmccafbnaaGreatDoor
namespace Go.Proofs.YtdhmglmccafbnaaGreatDoor
open Go.ChangeShapes Go.WideShapes Go.ChangeAt Go.RowKit
set_option maxRecDepth 100000 in
theorem iZ(H:Type)(enc:TypeId×Value→H)(W:World)(u:Nat)(d:Array Value)(K L:List (DataW H))(f:List MemPlace)
  (l:∀(j:Nat) t v,Tryz.f7.params[j]? =some t→d[j]? =some v→Value.okWide Tryz.prog W .any u t v)
  (Z:DataW.Whole enc Tryz.prog Tryz.f7.params.toList Rows.svdUprightsSpec.vars false W d.toList K L f)
  (D:(DataW.weightsEach Tryz.prog (Tryz.f7.params.toList++(OpenSpec.ofChange Rows.svdUprightsSpec).bare.plain.varTypes Tryz.prog) (K++L)).all (·≤reachBytes)=true) (M:laidMetH Tryz.prog Rows.svdUprightsRow.laid W):
  Calls Tryz.prog 7 d W fun e W'=>∃v,e=.returned v∧Rows.svdUprightsSpec.post enc Tryz.prog Tryz.f7 false true false false W d v W':=by
 have hT:bT W:=tQ M
 have G:(DataW.weightsEach Tryz.prog (Tryz.f7.params.toList++(OpenSpec.ofChange Rows.svdUprightsSpec).bare.plain.varTypes Tryz.prog) (K++L)).all (·≤reachBytes)=true:=D
 have N:=Z
 obtain⟨p,q,J,hV,rfl,ae,am⟩:=Z
 have hA:DataW.TrodAll enc Tryz.prog W 0 (fun _=>true) true Tryz.f7.params.toList d.toList K p:=J
 rw[Tryz.params7]at hA l G
 obtain⟨v0,ao,d0,ap,p0,q0,Q,rfl,rfl,h0,r0⟩:=trodAll_cons hA
 obtain⟨rfl,rfl,rfl⟩:=trodAll_nil r0
 obtain rfl:d= #[v0]:=by cases d;simp_all
 obtain⟨rfl,rfl⟩:=trodVars_none hV
 have k0:=h0
 have O:∀x∈p0,x.block<W.heap.size:=by obtain⟨m,hm⟩:=k0;exact DataW.trod_lt m _ _ _ hm
 obtain⟨x0,z0,a0,c0,L0,rfl,U,V,X,Y⟩:=tT (l 0 25 v0 rfl rfl) h0 (fun n hn=>of_decide_eq_true (List.all_eq_true.1 G n (DataW.weights_mem_each (j:=0) rfl rfl n hn)))
 clear J
 refine(lD x0 z0 a0 c0 L0 W U V X Y hT).mono fun e W' ⟨he,F⟩=>?_
 subst he
 exact⟨_,rfl,_,_,_,[],_,[],N,trodAll_mk1 (shut_bool Tryz.underlying4 _),trodAll_cons_mk (Below.trod Tryz.laidOut (by kernel_rfl) (of_decide_eq_true (by kernel_rfl)) k0 F O) (trodAll_mk0),rfl,F.frame _,fun h=>by cases h⟩
noncomputable def svdUprights_world (os:Os):World:=
 {World.holding Tryz.prog os ⟨#[],#[],[]⟩with heap:=(World.holding Tryz.prog os ⟨#[],#[],[]⟩).heap.modify 1 fun
   | .cells _ t frozen=>.cells (Lib.deBruijn32tab.map fun z:Nat=>Value.int .u8 (z:Int)).toArray t frozen
   |o=>o}
theorem mr(d:Os):laidMet Tryz.prog Rows.svdUprightsRow.laid ((svdUprights_world d).forCall (fun _ _=>0) ⟨#[],#[.agg #[.int .i64 0,.int .i64 0,.slice none 0 0]],[]⟩).memory:=
 laidMet_of_run' 8 (by kernel_rfl) (by kernel_rfl)
theorem kI(f:Os){H:Type}(enc:TypeId×Value→H):∃d,DataW.whole enc Tryz.prog ((svdUprights_world f).forCall (fun _ _=>0) ⟨#[],#[.agg #[.int .i64 0,.int .i64 0,.slice none 0 0]],[]⟩).memory Tryz.f7.params.toList Rows.svdUprightsSpec.vars false #[.agg #[.int .i64 0,.int .i64 0,.slice none 0 0]].toList 8=some ([.agg [.lit (.int .i64 0),.lit (.int .i64 0),.nil]],[],d):=
 ⟨[],by kernel_rfl⟩
set_option maxRecDepth 100000 in
theorem jQ(h:Os)(d:h.Started)(H:Type)(enc:TypeId×Value→H)(F:Stop.Interp):
  ReturnsInHanded {} Tryz.checked h 7 .any ((OpenSpec.ofChange Rows.svdUprightsSpec).preRow enc Tryz.prog Tryz.f7 Rows.svdUprightsRow.domain false Rows.svdUprightsRow.laid) (((OpenSpec.ofChange Rows.svdUprightsSpec).at F).post enc Tryz.prog Tryz.f7 false true false false):=by
 obtain⟨D,K⟩:=kI h enc
 refine returnsInHanded_of_row (C:=Tryz.checked) (s:=OpenSpec.ofChange Rows.svdUprightsSpec) Tryz.own d (by kernel_rfl) Tryz.func7
  (witness_row_at (enc:=enc) (C:=Tryz.checked) false (svdUprights_world h) #[.agg #[.int .i64 0,.int .i64 0,.slice none 0 0]] rfl (by kernel_rfl) (by kernel_rfl) (by kernel_rfl)
   (OpenSpec.preRow_of_cond 8 K (by kernel_rfl) (fun k J=>by cases J) (by kernel_rfl) (mr h))) ?_
 intro W l u L M f z N _ _ G O _ _
 exact iZ H enc W l u L M f z N G O
theorem oG:(Rows.svdUprightsRow.inPlace==Tryz.pinned.checked.prog.inPlace 7)=true:=by kernel_rfl
theorem oH:(Rows.svdUprightsRow.unfollowed==Tryz.pinned.checked.prog.unfollowed 7)=true:=by kernel_rfl
theorem oI:(Rows.svdUprightsRow.recurses==Tryz.pinned.checked.prog.recurses 7)=true:=by kernel_rfl
theorem oJ:(Rows.svdUprightsRow.named==Tryz.pinned.checked.prog.varsNamed 7)=true:=by kernel_rfl
theorem oK:(Rows.svdUprightsRow.lifted==Tryz.pinned.checked.prog.liftsFinal)=true:=by kernel_rfl
theorem oL:(Tryz.pinned.checked.prog.stops==[])=true:=by kernel_rfl
theorem oN:(Tryz.pinned.checked.prog.stopKnobs==[])=true:=by kernel_rfl
theorem oO:Tryz.pinned.checked.prog.stopsHeard=true:=by kernel_rfl
theorem oP:Tryz.pinned.checked.prog.mayEnter=true:=by kernel_rfl
theorem ms:(Rows.svdUprightsRow.plainKeys==Tryz.pinned.checked.prog.plainKeys)=true:=by kernel_rfl
theorem mt:(Tryz.pinned.checked.prog.make==some Rows.svdUprightsRow.make)=true:=by kernel_rfl
theorem jR:joinedFacts Tryz.pinned.checked.prog 7 Tryz.f7 (OpenSpec.ofChange Rows.svdUprightsSpec).bare Rows.svdUprightsRow=true:=by
 simp only[joinedFacts,Bool.and_eq_true]
 repeat' apply And.intro
 all_goals first
  |with_reducible exact oG
  |with_reducible exact oH
  |with_reducible exact oI
  |with_reducible exact oJ
  |with_reducible exact oK
  |with_reducible exact oL
  |with_reducible exact oN
  |with_reducible exact oO
  |with_reducible exact oP
  |with_reducible exact ms
  |with_reducible exact mt
  |kernel_rfl
theorem lE:Rows.SvdUprightsSaid:=
 OpenClaim.holds_of_cond 7 Tryz.f7 rfl rfl rfl rfl rfl rfl rfl ⟨rfl,rfl,rfl,rfl,rfl⟩ rfl rfl rfl rfl rfl (by kernel_rfl) Tryz.func7 jR
  (of_decide_eq_true (by kernel_rfl)) (by unfold Func.isWrapper;first|(rw[if_pos (by decide+kernel)];kernel_rfl)|(rw[if_neg (by decide+kernel)];exact⟨rfl,rfl⟩))
  (fun f d H enc _ F=>by rw[OpenClaim.pre_eq_preRow];exact jQ f d H enc F)
theorem kJ(f:FuncId)(h:Func)(D:Tryz.pinned.checked.prog.funcNamed "dioptra/dioptralaw19.SvdUprights" =some f)(l:Tryz.pinned.checked.prog.funcs[f]? =some h):
  false=Tryz.pinned.checked.prog.looks []∧∀(j:Nat) t,h.params[j]? =some t→Tryz.pinned.checked.prog.wantsStandIn t=false:=by
 obtain rfl:f=7:=Option.some.inj ((show Tryz.prog.funcNamed "dioptra/dioptralaw19.SvdUprights" =some 7 by kernel_rfl).symm.trans D) |>.symm
 obtain rfl:h=Tryz.f7:=(Option.some.inj (Tryz.func7.symm.trans l)).symm
 refine⟨by kernel_rfl,fun j t z=>?_⟩
 rw[Tryz.params7]at z
 have F:t∈ [25]:=by simpa using Array.mem_of_getElem? z
 have d:([25].all fun u=>!Tryz.prog.wantsStandIn u)=true:=by kernel_rfl
 exact(show Tryz.prog.wantsStandIn t=false by simpa using List.all_eq_true.1 d t F)
theorem svdUprights_card:Rows.SvdUprightsCardSaid:=
 Claim7.holds_tied_plain_at .later [] _ _ _ _ lE (fun _ h=>by cases h) (by kernel_rfl) (fun _ h=>by cases h) svdUprights_row_tie rfl ⟨rfl,rfl⟩ (by kernel_rfl) rfl kJ (by kernel_rfl)
#print axioms svdUprights_card
end Go.Proofs.YtdhmglmccafbnaaGreatDoor
