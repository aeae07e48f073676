/- Part 45 of the texts. -/
import Derived.Test.YtnnfjeieennffaaGreatDoorPartc44
set_option maxHeartbeats 16000000
set_option maxRecDepth 20000
namespace Go.Proofs.YtnnfjeieennffaaGreatDoor
open Go.RowKit
attribute [local go_sem ↓] Go.wp_at_zero Go.wp_at_succ
theorem bH.far{w:World}{f:Option Addr}{d:Nat}{I:List Int}(h:bH w f d I){H g:Nat}(A:bD H f I)(K:g<H)(j:Nat)(u:Value):bH (w.setCell ⟨g,j,none⟩ u) f d I:=by
 refine⟨h.1,h.2.1,?_⟩
 rcases h.2.2 with e|⟨b,l,t,F,G⟩
 ·exact .inl e
 ·rcases A with e|⟨L,z,m,M⟩
  ·exact .inl e
  ·rw[t]at m
   simp only[Option.some.injEq,Addr.mk.injEq]at m
   obtain⟨rfl,rfl,_⟩:=m
   refine .inr ⟨b,l,t,by simpa using F,fun i D=>?_⟩
   rw[ah _ _ _ _ (show b≠g by omega)]
   exact G i D
structure t9 (w wr:World) (H go ga gb:Nat) (r c:Int) (ao:Option Addr) (n cap:Nat) (po:Option Addr) (pc p1 p2:Nat) (so:Option Addr) (sd:Nat) (S:List Nat) (p3 p4:Nat) (to':Option Addr) (td:Nat) (T:List Nat) (lo:Option Addr) (lc:Nat) (P:List Nat):Prop where
 g:vW w wr H go ga gb r c ao n cap po pc p1 p2 so sd S p3 p4 to' td T
 i:bH wr lo lc (az P)
 n:bD H lo (az P)
theorem t9.all{w wr:World}{H l m t:Nat}{r c:Int}{z:Option Addr}{n d:Nat}{A:Option Addr}{D F p2:Nat}{G:Option Addr}{K:Nat}{S:List Nat}{L M:Nat}{f:Option Addr}{N:Nat}{T:List Nat}{lo:Option Addr}{O:Nat}{P:List Nat}{w':World}(h:t9 w wr H l m t r c z n d A D F p2 G K S L M f N T lo O P)(Q:Below wr.heap.size wr w'):t9 w w' H l m t r c z n d A D F p2 G K S L M f N T lo O P:=
 ⟨h.g.all Q,h.i.below Q,h.n⟩
theorem t9.put{w wr:World}{H A D F:Nat}{r c:Int}{G:Option Addr}{n d:Nat}{l:Option Addr}{K L p2:Nat}{M:Option Addr}{N:Nat}{S:List Nat}{O Q:Nat}{f:Option Addr}{U:Nat}{T:List Nat}{lo:Option Addr}{V:Nat}{P:List Nat}(h:t9 w wr H A D F r c G n d l K L p2 M N S O Q f U T lo V P){j:Nat}(Y:j<n):∃g m,l=some ⟨g,0,none⟩∧wr.cell? ⟨g,j,none⟩=some (.int .u64 m)∧wr.frozen? ⟨g,j,none⟩=false∧∀z,t9 w (wr.setCell ⟨g,j,none⟩ (.int .u64 z)) H A D F r c G n d l K L p2 M N S O Q f U T lo V P:=by
 obtain⟨g,X,e2,Z,e4⟩:=h.g.copy.resolve_left (by omega)
 obtain⟨g',m,t,cz,fz,pt⟩:=h.g.put Y
 rw[X]at t
 simp only[Option.some.injEq,Addr.mk.injEq]at t
 obtain⟨rfl,_⟩:=t
 exact⟨g,m,X,cz,fz,fun z=>⟨pt z,h.i.far h.n Z j _,h.n⟩⟩
theorem fJ(r c:Int)(ao:Option Addr)(A:Nat)(I:List Int)(F p2 G H:Nat)(S T P:List Nat)(f er:Int)(w:World)(hI:ad w ao A I)(hl:I.length≤17592186043904)(bo:S.length≤36)(bp:T.length≤36)(h6:P.length≤6)(hP:∀x∈P,x≤1000000)
  (be:((f=1∨f=4)∧er=f∧F=0∧p2=0∧G=0∧H=0∧S= []∧T= []∧P= [])∨f=0)
  (C2:∀w' po pc,Below w.heap.size w w'→ad w' po pc I→Calls Tryz.prog 9 #[.agg #[.int .i64 r,.int .i64 c,.slice po I.length pc]] w' fun e l=>∃v u lo lc,e=.returned (.tuple #[v,u,.slice lo P.length lc,.int .i64 er])∧bS w'.heap.size l F p2 S v∧bS w'.heap.size l G H T u∧bD w'.heap.size lo (az P)∧bH l lo lc (az P)∧Below w'.heap.size w' l)
  (C5:∀w',Below w.heap.size w w'→Calls Tryz.prog 10 #[.agg #[.int .i64 r,.int .i64 c,.slice ao I.length A]] w' fun e l=>e=.returned (.int .i64 f)∧Below w'.heap.size w' l)
  (C7:f=0→∀w',Below w.heap.size w w'→Calls Tryz.prog 11 #[.agg #[.int .i64 r,.int .i64 c,.slice ao I.length A]] w' fun e l=>∃(qo:Option Addr) (qc:Nat) (ro:Option Addr) (rc:Nat) (ko:Option Addr) (kc:Nat) (ok:Bool),e=.returned (.agg #[.int .i64 F,.int .i64 p2,.slice qo S.length qc,.int .i64 G,.int .i64 H,.slice ro T.length rc,.slice ko P.length kc,.bool ok])∧((ok=true∧er=0)∨(ok=false∧er=2))∧ad l qo qc (az S)∧ad l ro rc (az T)∧bJ 0 l (.slice ko P.length kc) P∧Below w'.heap.size w' l)
  (CA:∀w',Below w.heap.size w w'→Calls Tryz.prog 14 #[] w' fun e l=>e=.returned (.bool true)∧Below w'.heap.size w' l):
  Calls Tryz.prog 3 #[.agg #[.int .i64 r,.int .i64 c,.slice ao I.length A]] w fun e w'=>e=.returned (.bool true)∧Below w.heap.size w w':=by
 have am:=aa be;have HP:=aa hP
 have K2:=aa C2;have K5:=aa C5;have K7:=aa C7;have KA:=aa CA
 have KS:=aa (fun w' xo xc yo yc (h1:ad w' xo xc (az S)) (h2:ad w' yo yc (az S))=>qi F p2 xo yo xc yc S w' h1 h2 (by omega))
 have KT:=aa (fun w' xo xc yo yc (h1:ad w' xo xc (az T)) (h2:ad w' yo yc (az T))=>qi G H xo yo xc yc T w' h1 h2 (by omega))
 have KI:=aa (fun w' xo xc yo yc (h1:bH w' xo xc (az P)) (h2:bH w' yo yc (az P))=>rA xo yo xc yc (az P) w' h1 h2 (by rw[al];omega))
 simp only[al]at KI
 have b0:=ac w (.cells #[.int .i64 r,.int .i64 c,.slice ao I.length A] 24)
 have s0:=an w (.cells #[.int .i64 r,.int .i64 c,.slice ao I.length A] 24)
 have x0:=aw.new w (.int .i64 r) (.int .i64 c) (.slice ao I.length A)
 have bj:=aa x0;have ax:=aa b0;have bm:=aa s0
 have K1:=aa (yW r c ao A I _ (hI.below b0) hl)
 have aj:=aa (fun bi w' po pc (o:bL bi w' (.slice po I.length pc) (df I))=>o.same hI)
 have bq:=aa (show I.length≤35184372088830 by omega)
 clear b0 s0 x0 hI hl be C2 C5 C7 CA bo bp h6 hP
 go_enter Tryz.func3,Tryz.ntmps3
 go_wp2_with fail
 refine Calls.mono (uH K1) ?_
 rintro e w1 ⟨po,pc,rfl,Y,a6⟩
 have N:=(uH ax).trans (a6.mono (uH ax).size)
 have K:=ac w1 (.cells #[.int .i64 r,.int .i64 c,.slice po I.length pc] 24)
 have Q1:=aa ((uH aj _ _ _ _ Y).below K)
 have CP:=aa (((Y.copy.base (Nat.le_refl _)).base (show w.heap.size+1≤_ by rw[uH bm];exact Nat.le_refl _)).below K)
 have BX:=aa (aw.new w1 (.int .i64 r) (.int .i64 c) (.slice po I.length pc))
 have A0:=aa (((uH bj).all a6).all K)
 have B1:=aa (N.trans (K.mono N.size))
 clear Y a6 N K K1 bj ax aj bm
 have y0:=(uH BX).c0;have y1:=(uH BX).c1;have y2:=(uH BX).c2
 go_wp2_with fail
 refine(uH K2 _ _ _ (uH B1) (uH Q1)).mono ?_
 rintro e w2 ⟨v,u,lo,lc,rfl,⟨so,sd,rfl,ns,qs⟩,⟨Z,td,rfl,nt,qt⟩,np,qp,ae⟩
 have zz:=aa (an w1 (.cells #[.int .i64 r,.int .i64 c,.slice po I.length pc] 24))
 have K:=ac w2 (.cells #[.int .i64 F,.int .i64 p2,.slice so S.length sd] 24)
 have zb:=an w2 (.cells #[.int .i64 F,.int .i64 p2,.slice so S.length sd] 24)
 have bb:=ac (w2.alloc (.cells #[.int .i64 F,.int .i64 p2,.slice so S.length sd] 24)) (.cells #[.int .i64 G,.int .i64 H,.slice Z T.length td] 24)
 have xb:=aw.new (w2.alloc (.cells #[.int .i64 F,.int .i64 p2,.slice so S.length sd] 24)) (.int .i64 G) (.int .i64 H) (.slice Z T.length td)
 rw[zb]at xb
 have O:=(uH B1).trans (ae.mono (uH B1).size)
 have Q:=O.trans (K.mono O.size)
 have d:=aa (show t9 w ((w2.alloc (.cells #[.int .i64 F,.int .i64 p2,.slice so S.length sd] 24)).alloc (.cells #[.int .i64 G,.int .i64 H,.slice Z T.length td] 24)) w1.heap.size w1.heap.size w2.heap.size (w2.heap.size+1) r c ao I.length A po pc F p2 so sd S G H Z td T lo lc P from
  ⟨⟨Q.trans (bb.mono Q.size),(((uH A0).all ae).all K).all bb,(((uH BX).all ae).all K).all bb,(((uH CP).below ae).below K).below bb,⟨(aw.new w2 _ _ _).all bb,(qs.below K).below bb,bD.least ns (by rw[uH zz];omega)⟩,⟨xb,(qt.below K).below bb,bD.least nt (by rw[uH zz];omega)⟩⟩,(qp.below K).below bb,bD.least np (by rw[uH zz];omega)⟩)
 clear y0 y1 y2 ns qs nt qt np qp ae K bb xb zb O Q zz B1 A0 BX CP Q1 K2
 have y0:=(uH d).g.own.c0;have y1:=(uH d).g.own.c1;have y2:=(uH d).g.own.c2
 generalize a7:S.length=nS at*
 generalize a9:T.length=nT at*
 generalize bc:P.length=nP at*
 go_wp2_with fail
 clear y0 y1 y2
 generalize b7:w2.heap.size+1=g4 at*
 generalize b8:w2.heap.size=g3 at*
 generalize hn:I.length=n at*
 go_loopw[8] (fun a wr=>∃j:Nat,j≤n∧a=.int .i64 j∧Hid (t9 w wr w1.heap.size w1.heap.size g3 g4 r c ao n A po pc F p2 so sd S G H Z td T lo lc P)) (fun a _=>n-(intOf a).toNat)
 case atStart=>exact⟨0,Nat.zero_le _,rfl,d⟩
 case round=>
  clear d
  obtain⟨j,hj,rfl,hX⟩:=hrel
  have t2:=(uH hX).g.own.c2
  by_cases bt:j<n
  ·have b3:(j:Int)<(n:Int):=by omega
   have b4:=uH bq
   obtain⟨g,z0,rfl,cz,fz,bn⟩:=(uH hX).put bt
   have bv:=aa (fun z=>bn z)
   clear bn hX
   go_wp2_with fail
   go_region_with fail
   all_goals
    go_wp2_with fail
    go_round
    case rel=>exact⟨j+1,by omega,by go_num,aa ((uH bv _).all (Below.refl _ _).drew)⟩
    case measure=>simp[intOf];omega
  ·have bx:n=j:=by omega
   subst bx
   have a0:=(uH hX).g.m.c0;have a1:=(uH hX).g.m.c1;have a2:=(uH hX).g.m.c2
   have d:=hX
   clear hX
   go_wp2_with fail
   refine(uH K5 _ (uH d).g.bel).mono ?_
   rintro e w5 ⟨rfl,h⟩
   clear a0 a1 a2 t2
   have bz:=ac w5 (.cells #[.int .i64 0,.int .i64 0,.slice none 0 0,.int .i64 0,.int .i64 0,.slice none 0 0,.slice none 0 0,.bool false] 34)
   have L:=aa (cg.new w5 (.int .i64 0) (.int .i64 0) (.slice none 0 0) (.int .i64 0) (.int .i64 0) (.slice none 0 0) (.slice none 0 0) (.bool false))
   have S5:=aa ((uH d).all h)
   have BZ:=aa bz
   replace d:=aa (((uH d).all h).all bz)
   clear h bz K5
   generalize b2:w5.heap.size=gw at*
   rcases uH am with⟨hf,hw⟩|rfl
   ·obtain⟨rfl,rfl,rfl,rfl,rfl,rfl,rfl,rfl⟩:=hw
    obtain rfl:nS=0:=by rw[←a7];rfl
    obtain rfl:nT=0:=by rw[←a9];rfl
    obtain rfl:nP=0:=by rw[←bc];rfl
    clear am K7 a7 a9 bc
    rcases hf with rfl|rfl
    all_goals
     have aI:=(uH d).g.s.box.c0;have a3:=(uH d).g.s.box.c1;have U:=(uH d).g.s.box.c2
     have z0:=(uH L).c0;have z1:=(uH L).c1;have z2:=(uH L).c2
     simp only[List.length_nil]at U
     go_wp2_with fail
     clear aI a3 U z0 z1 z2
     refine(uH KS _ _ _ _ _ (uH d).g.s.bits (ad.nilAt _ _ _)).mono ?_
     rintro e w8 ⟨rfl,h⟩
     replace d:=aa ((uH d).all h)
     replace L:=aa ((uH L).all h)
     clear h
     have a4:=(uH d).g.t.box.c0;have a5:=(uH d).g.t.box.c1;have V:=(uH d).g.t.box.c2
     have z3:=(uH L).c3;have z4:=(uH L).c4;have z5:=(uH L).c5
     simp only[List.length_nil]at V
     go_wp2_with fail
     clear a4 a5 V z3 z4 z5
     refine(uH KT _ _ _ _ _ (uH d).g.t.bits (ad.nilAt _ _ _)).mono ?_
     rintro e w9 ⟨rfl,h⟩
     replace d:=aa ((uH d).all h)
     replace L:=aa ((uH L).all h)
     clear h
     have z6:=(uH L).c6
     go_wp2_with fail
     clear z6
     refine(uH KI _ _ _ _ _ (uH d).i (bH.nil _ _ _)).mono ?_
     rintro e bA ⟨rfl,h⟩
     have X:=aa ((uH d).all h).g.bel
     clear h d L
     go_wp2_with fail
     refine(uH KA _ (uH X)).mono ?_
     rintro e bE ⟨rfl,h⟩
     replace X:=aa ((uH X).trans (h.mono (uH X).size))
     clear h
     go_wp2
     go_ret
     exact⟨rfl,uH X⟩
   ·have G7:=aa (uH K7 (by first|rfl|trivial))
    clear am K7
    have a0:=(uH d).g.m.c0;have a1:=(uH d).g.m.c1;have a2:=(uH d).g.m.c2
    go_wp2_with fail
    clear a0 a1 a2
    refine(uH G7 _ (uH d).g.bel).mono ?_
    rintro e w6 ⟨qo,qc,ro,rc,ko,kc,ok,rfl,b1,hq,hr,hk,h⟩
    subst b2
    have bz:=uH BZ
    have D:=(uH L).all h
    have r0:=D.c0;have r1:=D.c1;have r2:=D.c2;have r3:=D.c3;have r4:=D.c4;have r5:=D.c5;have r6:=D.c6;have r7:=D.c7
    have f0:=D.free 0;have f1:=D.free 1;have f2:=D.free 2;have f3:=D.free 3;have f4:=D.free 4;have f5:=D.free 5;have f6:=D.free 6;have f7:=D.free 7
    have M:=aa (D.put (.int .i64 F) (.int .i64 p2) (.slice qo nS qc) (.int .i64 G) (.int .i64 H) (.slice ro nT rc) (.slice ko nP kc) (.bool ok))
    have BF:=e7 (bz.trans (h.mono bz.size)) (Nat.le_refl _) (.int .i64 F) (.int .i64 p2) (.slice qo nS qc) (.int .i64 G) (.int .i64 H) (.slice ro nT rc) (.slice ko nP kc) (.bool ok)
    replace d:=aa ((uH S5).all BF)
    have PQ:=aa (jv hq D (.int .i64 F) (.int .i64 p2) (.slice qo nS qc) (.int .i64 G) (.int .i64 H) (.slice ro nT rc) (.slice ko nP kc) (.bool ok))
    have PR:=aa (jv hr D (.int .i64 F) (.int .i64 p2) (.slice qo nS qc) (.int .i64 G) (.int .i64 H) (.slice ro nT rc) (.slice ko nP kc) (.bool ok))
    have PK:=hk.putU D (.int .i64 F) (.int .i64 p2) (.slice qo nS qc) (.int .i64 G) (.int .i64 H) (.slice ro nT rc) (.slice ko nP kc) (.bool ok)
    obtain⟨b5,b6,ek,ik⟩:=PK.ints (uH HP)
    rw[bc]at ek
    simp only[Value.slice.injEq]at ek
    obtain⟨rfl,_,rfl⟩:=ek
    have IK:=aa ik
    clear hq hr hk h bz BF D PK ik S5 BZ L G7
    have aI:=(uH d).g.s.box.c0;have a3:=(uH d).g.s.box.c1;have U:=(uH d).g.s.box.c2
    rw[a7]at U
    have z0:=(uH M).c0;have z1:=(uH M).c1;have z2:=(uH M).c2;have z7:=(uH M).c7
    rcases b1 with⟨rfl,rfl⟩|⟨rfl,rfl⟩
    all_goals
     go_wp2_with fail
     clear aI a3 U z0 z1 z2 z7 r0 f0 r1 f1 r2 f2 r3 f3 r4 f4 r5 f5 r6 f6 r7 f7
     refine(uH KS _ _ _ _ _ (uH d).g.s.bits (uH PQ)).mono ?_
     rintro e w8 ⟨rfl,h⟩
     replace d:=aa ((uH d).all h)
     replace M:=aa ((uH M).all h)
     replace PR:=aa ((uH PR).below h)
     replace IK:=aa ((uH IK).below h)
     clear h PQ
     have a4:=(uH d).g.t.box.c0;have a5:=(uH d).g.t.box.c1;have V:=(uH d).g.t.box.c2
     rw[a9]at V
     have z3:=(uH M).c3;have z4:=(uH M).c4;have z5:=(uH M).c5
     go_wp2_with fail
     clear a4 a5 V z3 z4 z5
     refine(uH KT _ _ _ _ _ (uH d).g.t.bits (uH PR)).mono ?_
     rintro e w9 ⟨rfl,h⟩
     replace d:=aa ((uH d).all h)
     replace M:=aa ((uH M).all h)
     replace IK:=aa ((uH IK).below h)
     clear h PR
     have z6:=(uH M).c6
     go_wp2_with fail
     clear z6
     refine(uH KI _ _ _ _ _ (uH d).i (uH IK)).mono ?_
     rintro e bA ⟨rfl,h⟩
     have X:=aa ((uH d).all h).g.bel
     clear h d M IK
     go_wp2_with fail
     refine(uH KA _ (uH X)).mono ?_
     rintro e bE ⟨rfl,h⟩
     replace X:=aa ((uH X).trans (h.mono (uH X).size))
     clear h
     go_wp2
     go_ret
     exact⟨rfl,uH X⟩
end Go.Proofs.YtnnfjeieennffaaGreatDoor
namespace Go.Proofs.YtnnfjeieennffaaGreatDoor
open Go.RowKit
theorem e8:fO 0 [4607182418800017408]=4607182418800017408∧fO 0 [4613937818241073152]=4613937818241073152∧ap 4607182418800017408=true∧ap 4613937818241073152=true∧eX 4607182418800017408=0∧eX 4613937818241073152=1∧wR 0 0 [4607182418800017408]=mV 4607182418800017408 4607182418800017408∧wR 1 0 [4613937818241073152]=mV 4609434218613702656 4609434218613702656∧fR 4607182418800017408=4607182418800017408∧fR 4609434218613702656=4609434218613702656∧xV 4607182418800017408 0=4607182418800017408∧xV 4609434218613702656 1=4613937818241073152∧(600≤fP 4607182418800017408∧fP 4607182418800017408≤1400)∧(600≤fP 4609434218613702656∧fP 4609434218613702656≤1400)∧cO 4607182418800017408 4613937818241073152<0∧¬cO 4607182418800017408 4607182418800017408<0:=by decide+kernel
theorem ID:jn [4607182418800017408]=4607182418800017408:=by
 obtain⟨h,_,l,_,m,_,t,_,z,_,f,_,d,_⟩:=e8
 unfold jn
 rw[h,if_neg (by rw[l];decide),m,t,tf _ d.1 d.2,z,f]
theorem Df:jn [4613937818241073152]=4613937818241073152:=by
 obtain⟨_,l,_,m,_,t,_,z,_,f,_,h,_,d,_⟩:=e8
 unfold jn
 rw[l,if_neg (by rw[m];decide),t,z,tf _ d.1 d.2,f,h]
theorem Dg:eJ 1 2 [4607182418800017408,4613937818241073152] 0 0=4607182418800017408:=ID
theorem Gn:eJ 1 2 [4607182418800017408,4613937818241073152] 0 1=4613937818241073152:=Df
theorem uc(r c:Nat)(S:List Nat)(j t:Nat):oT r c S j (t+1)=if cO (eJ r c S j (oT r c S j t)) (eJ r c S j (j+t))<0 then j+t else oT r c S j t:=rfl
theorem Dh(r c:Nat)(S:List Nat)(j:Nat):oT r c S j 0=j:=rfl
theorem ue(r c:Nat)(S:List Nat)(j t:Nat):rH r c S j (t+1)=(rH r c S j t&&ap (eJ r c S j (j+t))):=rfl
theorem Di(r c:Nat)(S:List Nat)(j:Nat):rH r c S j 0=true:=rfl
theorem JS:oI 1 2 [4607182418800017408,4613937818241073152] 0=1:=by
 obtain⟨_,_,_,_,_,_,_,_,_,_,_,_,_,_,d,f⟩:=e8
 unfold oI
 rw[show 2-0=1+1 from rfl,uc,uc 1 2 _ 0 0,Dh,Nat.add_zero,Dg,if_neg f,Dg,Nat.zero_add,Gn,if_pos d]
theorem JX:vL 1 2 [4607182418800017408,4613937818241073152] 0=true:=by
 unfold vL
 rw[show 2-0=1+1 from rfl,ue,ue 1 2 _ 0 0,Di,Nat.add_zero,Nat.zero_add,Dg,Gn,e8.2.2.1,e8.2.2.2.1]
 rfl
theorem FN(r c:Nat)(S:List Nat)(h:r≤1):eQ r c S 1=FG r c S 0 (oI r c S 0):=by
 show vM r c S 0=_
 unfold vM
 rw[if_neg (by omega)]
 rfl
theorem FO(r c:Nat)(S:List Nat):zd r c S 1=oJ (List.range c) 0 (oI r c S 0):=rfl
theorem JT:us 1 2 [4607182418800017408,4613937818241073152]= [4613937818241073152,4607182418800017408]:=by
 unfold us
 rw[show min 2 1=1 from rfl,FN 1 2 _ (by decide),JS]
 rfl
theorem JY:CQ 1 2 [4607182418800017408,4613937818241073152]= [1,0]:=by
 unfold CQ
 rw[show min 2 1=1 from rfl,FO,JS]
 rfl
theorem FP(r c:Nat)(S:List Nat)(h:r≤1):Dy r c S 1=vL r c S 0:=by
 show(true&&(vL r c S 0&&(decide (r≤0+1)||_)))=_
 rw[decide_eq_true (show r≤0+1 by omega),Bool.true_or,Bool.and_true,Bool.true_and]
theorem FQ(r c:Nat)(S:List Nat)(h:fH r c=0):vN r c S=yT r:=by
 unfold vN
 rw[h]
 rfl
theorem JZ:xh 1 2 [4607182418800017408,4613937818241073152]=true:=by
 have d:(cY (yT 1)&&cY [4613937818241073152,4607182418800017408])=true:=by decide+kernel
 unfold xh
 rw[show min 2 1=1 from rfl,FP 1 2 _ (by decide),JX,JT,FQ 1 2 _ rfl,d]
 rfl
def lO(w:World)(er:Int)(e:Ending)(w':World):Prop:=∃v u lo lc,e=.returned (.tuple #[v,u,.slice lo 0 lc,.int .i64 er])∧bS w.heap.size w' 0 0 [] v∧bS w.heap.size w' 0 0 [] u∧Below w.heap.size w w'
def rB(w:World)(r c:Nat)(S:List Nat)(e:Ending)(w':World):Prop:=∃v u lo lc,e=.returned (.tuple #[v,u,.slice lo c lc,.int .i64 0])∧bS w.heap.size w' r r (vN r c S) v∧bS w.heap.size w' r c (us r c S) u∧bD w.heap.size lo (az (CQ r c S))∧bH w' lo lc (az (CQ r c S))∧Below w.heap.size w w'
theorem uf(w:World)
  (F:∀w' d f (r c:Nat) S,Below w.heap.size w w'→Mx w' d f r c S→cY S=true→xh r c S=true→Calls Tryz.prog 9 #[.agg #[.int .i64 r,.int .i64 c,.slice d S.length f]] w' (rB w' r c S)):
  ∀w',Below w.heap.size w w'→Calls Tryz.prog 14 #[] w' fun e h=>e=.returned (.bool true)∧Below w'.heap.size w' h:=by
 intro w' z
 refine vV w' (fun t d l G=>?_)
 have H:Mx t d 2 1 2 [4607182418800017408,4613937818241073152]:=⟨G,rfl,by decide,by decide⟩
 have K:cY [4607182418800017408,4613937818241073152]=true:=by
  show((true&&ap 4607182418800017408)&&ap 4613937818241073152)=true
  rw[e8.2.2.1,e8.2.2.2.1]
  rfl
 refine(F t d 2 1 2 _ (z.trans (l.mono z.size)) H K JZ).mono ?_
 rintro e U ⟨v,u,lo,L,rfl,⟨M,N,rfl,_,_⟩,⟨O,Q,rfl,_,A⟩,_,D,m⟩
 rw[JT]at A⊢
 rw[JY]at D
 exact⟨_,_,M,_,N,O,Q,lo,L,rfl,A,D,m⟩
theorem mC(r c:Int)(m:Option Addr)(d:Nat)(I:List Int)(w:World)(K:ad w m d I)(V:I.length≤17592186043904)
  (CE:∀w' t z,Below w.heap.size w w'→ad w' t z I→mP r c I≠0→Calls Tryz.prog 9 #[.agg #[.int .i64 r,.int .i64 c,.slice t I.length z]] w' (lO w' (mP r c I)))
  (CN:∀w' m d (r c:Nat) S,Below w.heap.size w w'→Mx w' m d r c S→cY S=true→xh r c S=false→Calls Tryz.prog 9 #[.agg #[.int .i64 r,.int .i64 c,.slice m S.length d]] w' (lO w' 2))
  (CY:∀w' m d (r c:Nat) S,Below w.heap.size w w'→Mx w' m d r c S→cY S=true→xh r c S=true→Calls Tryz.prog 9 #[.agg #[.int .i64 r,.int .i64 c,.slice m S.length d]] w' (rB w' r c S)):
  Calls Tryz.prog 3 #[.agg #[.int .i64 r,.int .i64 c,.slice m I.length d]] w fun e w'=>e=.returned (.bool true)∧Below w.heap.size w w':=by
 have X:=uf w CY
 have Q:=fun w' (l:Below w.heap.size w w')=>rz r c m d I w' (K.below l) (by omega)
 have O:∀(er:Int) w' e f,lO w' er e f→∃v u lo L,e=.returned (.tuple #[v,u,.slice lo ([]:List Nat).length L,.int .i64 er])∧bS w'.heap.size f 0 0 [] v∧bS w'.heap.size f 0 0 [] u∧bD w'.heap.size lo (az [])∧bH f lo L (az [])∧Below w'.heap.size w' f:=by
  rintro er w' e f ⟨v,u,lo,L,rfl,Z,h2,l⟩
  exact⟨v,u,lo,L,rfl,Z,h2,.inl rfl,bH.nil _ _ _,l⟩
 by_cases M:mP r c I=0
 ·obtain⟨Y,hf⟩:=De M
  obtain⟨p,q,rfl,rfl,N,hS⟩:=Mx.of K Y
  have G:=gC I
  have r6:=N.2.2.1
  have c6:=N.2.2.2
  rw[M]at Q
  have A:cY (df I)=true:=by
   unfold cY
   rw[ow K,G]
   exact hf
  have F:=fun w' (l:Below w.heap.size w w')=>pA p q d m (df I) w' (N.below l)
  cases hk:xh p q (df I)
  ·refine fJ p q m d I 0 0 0 0 [] [] [] 0 2 w K V (by simp) (by simp) (by simp) (by simp) (.inr rfl) (fun w' t z l D=>?_) Q (fun _ w' l=>?_) X
   ·have:=CN w' t z p q (df I) l (Mx.from D Y) A hk
    rw[G]at this
    exact this.mono (fun e f h=>O 2 w' e f h)
   ·have:=F w' l
    rw[G,hk]at this
    refine this.mono ?_
    rintro e f ⟨h,H⟩
    rcases h with⟨e,_⟩|⟨_,rfl⟩
    ·cases e
    ·exact⟨none,0,none,0,none,0,false,rfl,.inr ⟨rfl,rfl⟩,ad.nilAt _ _ _,ad.nilAt _ _ _,⟨rfl,.inl ⟨rfl,rfl⟩⟩,H⟩
  ·have lq:(vN p q (df I)).length=p*p:=dU _ _ _ _
   have lr:(us p q (df I)).length=I.length:=(fW p q (df I) N.2.1 _).trans (N.2.1.symm.trans G)
   have U:(CQ p q (df I)).length=q:=iM _ _ _ _
   refine fJ p q m d I p p p q (vN p q (df I)) (us p q (df I)) (CQ p q (df I)) 0 0 w K V (by rw[lq];exact Nat.mul_le_mul r6 r6) (by rw[lr,←G];exact N.small) (by rw[U];exact c6) (fun x D=>by have:=jw p q (df I) (show min q p≤q by omega) x D;omega) (.inr rfl) (fun w' t z l D=>?_) Q (fun _ w' l=>?_) X
   ·have:=CY w' t z p q (df I) l (Mx.from D Y) A hk
    rw[G]at this
    refine this.mono ?_
    rintro e f ⟨v,u,lo,L,rfl,Z,h2,h3,h4,h5⟩
    exact⟨v,u,lo,L,by rw[U],Z,h2,h3,h4,h5⟩
   ·have:=F w' l
    rw[G,hk]at this
    refine this.mono ?_
    rintro e f ⟨h,H⟩
    rcases h with⟨_,qo,qc,ro,rc,ko,kc,rfl,b1,b2,b3⟩|⟨e,_⟩
    ·exact⟨qo,qc,ro,rc,ko,kc,true,by rw[lq,lr,U],.inl ⟨rfl,rfl⟩,b1,b2,by rw[U];exact b3,H⟩
    ·cases e
 ·have hw:mP r c I=1∨mP r c I=4:=by
   unfold mP at M⊢
   repeat' split
   all_goals first|exact .inl rfl|exact .inr rfl|(exfalso;revert M;simp_all)
  exact fJ r c m d I 0 0 0 0 [] [] [] (mP r c I) (mP r c I) w K V (by simp) (by simp) (by simp) (by simp) (.inl ⟨hw,rfl,rfl,rfl,rfl,rfl,rfl,rfl,rfl⟩) (fun w' t z l D=>(CE w' t z l D M).mono (fun e f h=>O _ w' e f h)) Q (fun e=>absurd e M) X
attribute [local go_sem ↓] Go.wp_at_zero Go.wp_at_succ
theorem vX(Y:Option Addr)(c:Nat)(I:List Int)(w:World)(Z:ad w Y c I)(hn:I.length≤64):
  Calls Tryz.prog 172 #[.slice Y I.length c] w fun e w'=>e=.returned (.bool (mQ (aT I)))∧Below w.heap.size w w':=by
 have N:=aa Z
 obtain⟨L,h⟩:∃L:Nat→Bool,L=fun j=>mQ ((aT I).drop j):=⟨_,rfl⟩
 have L0:mQ (aT I)=L 0:=by rw[h];rfl
 have LE:∀j,I.length≤j→L j=false:=fun j z=>by
  rw[h]
  show mQ ((aT I).drop j)=false
  rw[List.drop_eq_nil_of_le (by rw[de];exact z)]
  rfl
 have LS:∀j,j<I.length→L j=if fK (aL I j)=0 then L (j+1)else fS (aL I j):=fun j z=>by
  rw[h]
  show mQ ((aT I).drop j)=_
  rw[tE (aT I) (by rw[de];exact z),oG I j z]
 rw[L0]
 obtain⟨v,U⟩:∃v,L 0=v:=⟨_,rfl⟩
 have HE:=aa LE;have HS:=aa LS
 obtain⟨n,t⟩:∃n,I.length=n:=⟨_,rfl⟩
 rw[t]at hn HE HS⊢
 rw[U]
 have HN:=aa t
 have HV:=aa U
 clear Z h L0 LE LS t U
 go_enter Tryz.func172,Tryz.ntmps172
 go_wp2_with fail
 go_loopw[7] (fun i wr=>∃j:Nat,j≤n∧i=.int .i64 j∧Hid (L j=v)∧Hid (Below w.heap.size w wr)) (fun i _=>n-(intOf i).toNat)
 case atStart=>exact⟨0,Nat.zero_le _,rfl,HV,Below.refl _ _⟩
 case round=>
  obtain⟨j,z,rfl,h,l⟩:=hrel
  by_cases A:j<n
  ·have O:(j:Int)<(n:Int):=by omega
   obtain⟨b,aj,V,hb,hc⟩:=((uH N).below l.out).ne (by rw[uH HN];omega)
   have f:=aa (hc j (by rw[uH HN];exact A))
   have D:=aa (fun w'=>cF (aL I j) w' ((uH N).lt j))
   have H:=aa (fun w'=>d6 (aL I j) w' ((uH N).lt j))
   have K:=aa (uH HS j A)
   subst V
   clear hc
   by_cases F:fK (aL I j)=0
   ·have M:=aa (show L (j+1)=v from by have:=uH K;rw[uH h,if_pos F]at this;exact this.symm)
    rw[F]at D
    clear K F H
    generalize aL I j=x at*
    have m:=uH f
    go_wp2_with fail
    refine(uH D _).mono ?_
    rintro e X ⟨rfl,d⟩
    have G:Hid (Below w.heap.size w X):=l.out.trans (d.mono l.out.size)
    clear D d f m l
    go_wp2_with fail
    go_round
    case rel=>exact⟨j+1,by omega,by go_num,M,G⟩
    case measure=>simp[intOf];omega
   ·have M:fS (aL I j)=v:=by have:=uH K;rw[uH h,if_neg F]at this;exact this.symm
    have ae:(fK (aL I j)==0)=false:=by rw[beq_eq_false_iff_ne];exact F
    rw[M]at H
    clear K M
    generalize fK (aL I j)=kd at*
    generalize aL I j=x at*
    have m:=uH f
    go_wp2_with fail
    refine(uH D _).mono ?_
    rintro e X ⟨rfl,d⟩
    have G:Hid (Below w.heap.size w X):=l.out.trans (d.mono l.out.size)
    clear D d f m l
    go_wp2_with fail
    refine(uH H _).mono ?_
    rintro e w3 ⟨rfl,d⟩
    have B3:Hid (Below w.heap.size w w3):=G.out.trans (d.mono G.out.size)
    clear H d G
    go_wp2_with fail
    exact bodyPost_ret (v:=.bool v) (by simp[results,Tryz.results172,go_sem]) rfl ⟨rfl,B3.out⟩
  ·have Q:v=false:=by have:=uH HE j (by omega);rw[uH h]at this;exact this
   subst Q
   have O:(n:Int)≤(j:Int):=by omega
   go_wp2_with fail
   exact bodyPost_ret (v:=.bool false) (by simp[results,Tryz.results172,go_sem]) rfl ⟨rfl,l.out⟩
theorem Dj(D:Option Addr)(n c m o:Nat)(s:Bool)(w:World)(h:(s=true∧o=m)∨(s=false∧o=fN m))(H:m<18446744073709551616)
  (K:Calls Tryz.prog 120 #[.slice D n c] w fun e t=>e=.returned (.tuple #[.int .u64 (m:Nat),.int .i64 0])∧Below w.heap.size w t)
  (L:∀w',Below w.heap.size w w'→Calls Tryz.prog 172 #[.slice D n c] w' fun e t=>e=.returned (.bool s)∧Below w'.heap.size w' t):
  Calls Tryz.prog 148 #[.slice D n c] w fun e w'=>e=.returned (.int .u64 (o:Nat))∧Below w.heap.size w w':=by
 have z:=aa K;have A:=aa L
 have F:=aa (fun w'=>gg m w' H)
 clear K L H
 rcases h with⟨rfl,rfl⟩|⟨rfl,rfl⟩
 ·clear F
  go_enter Tryz.func148,Tryz.ntmps148
  go_wp2_with fail
  refine Calls.mono (uH z) ?_
  rintro e M ⟨rfl,d⟩
  have l:=aa d
  clear z d
  go_wp2_with fail
  refine(uH A _ (uH l)).mono ?_
  rintro e N ⟨rfl,f⟩
  have G:=aa ((uH l).trans (f.mono (uH l).size))
  clear A f l
  go_wp2
  go_ret
  exact⟨rfl,uH G⟩
 ·generalize fN m=o at*
  go_enter Tryz.func148,Tryz.ntmps148
  go_wp2_with fail
  refine Calls.mono (uH z) ?_
  rintro e M ⟨rfl,d⟩
  have l:=aa d
  clear z d
  go_wp2_with fail
  refine(uH A _ (uH l)).mono ?_
  rintro e N ⟨rfl,f⟩
  have G:=aa ((uH l).trans (f.mono (uH l).size))
  clear A f l
  go_wp2_with fail
  refine(uH F _).mono ?_
  rintro e O ⟨rfl,rfl⟩
  clear F
  go_wp2
  go_ret
  exact⟨rfl,uH G⟩
theorem qm(d:Option Addr)(c:Nat)(I:List Int)(w:World)(f:ad w d c I)(h:I.length≤64)(m:cC w):
  Calls Tryz.prog 148 #[.slice d I.length c] w fun e w'=>e=.returned (.int .u64 ((if mQ (aT I)=true then jn (aT I)else fN (jn (aT I)):Nat):Nat))∧Below w.heap.size w w':=by
 have l:=tq d c I w f h m
 rw[iJ]at l
 refine Dj d I.length c (jn (aT I)) _ (mQ (aT I)) w ?_ (lL _) l (fun w' t=>vX d c I w' (f.below t) h)
 cases mQ (aT I)
 ·exact .inr ⟨rfl,if_neg (by decide)⟩
 ·exact .inl ⟨rfl,if_pos rfl⟩
theorem oP(x:Nat)(w:World):
  Calls Tryz.prog 147 #[.int .u64 x] w fun e w'=>e=.returned (.int .u64 (0:Nat))∧Below w.heap.size w w':=by
 go_enter Tryz.func147,Tryz.ntmps147
 go_wp2
 go_ret
 exact⟨rfl,Below.refl _ _⟩
theorem vY(x d g:Nat)(w:World)(h:x<18446744073709551616)(l:d<18446744073709551616)(t:w.cell? ⟨g,0,none⟩=some (.int .u64 (d:Nat)))(m:cC w):
  Calls Tryz.prog 150 #[.int .u64 x,.pointer (some ⟨g,0,none⟩)] w fun e w'=>e=.returned (.int .u64 (dV x d:Nat))∧Below w.heap.size w w':=by
 have K:=aa (tI x d w h l m)
 generalize dV x d=o at*
 clear h l m
 go_enter Tryz.func150,Tryz.ntmps150
 go_wp2_with fail
 refine Calls.mono (uH K) ?_
 rintro e z ⟨rfl,f⟩
 clear K
 go_wp2
 go_ret
 exact⟨rfl,f⟩
def FR(f:Nat→Nat)(k:Nat):List Nat:=4607182418800017408::kH f k
theorem xm(f:Nat→Nat)(k:Nat):(FR f k).length=k+1:=by
 show(kH f k).length+1=_
 rw[iG]
theorem Dk(f:Nat→Nat)(k:Nat):FR f (k+1)=FR f k++[f k]:=by
 show 4607182418800017408::kH f (k+1)=(4607182418800017408::kH f k)++[f k]
 rw[kI]
 rfl
theorem j3(fn:Nat)(A:Array Value)(ao:Option Addr)(c:Nat)(J:List Int)(f:Nat→Nat)(w:World)
  (a4:∀D w,(callFunc fn D).run Tryz.prog w=.ok (.enter fn D) w) (hJ:ad w ao c J) (hn:J.length≤64) (hf:∀k,k<J.length→f k<18446744073709551616)
  (t:∀w' k,Below w.heap.size w w'→k<J.length→Calls Tryz.prog fn (#[.int .u64 (aL J k:Nat)]++A) w' fun e aj=>e=.returned (.int .u64 (f k:Nat))∧Below w'.heap.size w' aj):
  Calls Tryz.prog 146 #[.slice ao J.length c,.func (.func fn) #[] A] w fun e w'=>∃bo d,e=.returned (.slice bo (J.length+1:Nat) d)∧bD w.heap.size bo (az (FR f J.length))∧ad w' bo d (az (FR f J.length))∧Below w.heap.size w w':=by
 obtain⟨i0,aI,a0,a1,a2⟩:=info_parts kG
 have HS:=aa t;have HF:=aa hf;have HJ:=aa hJ
 obtain⟨n,Q⟩:∃n,J.length=n:=⟨_,rfl⟩
 rw[Q]at hn HS HF⊢
 have HN:=aa Q
 obtain⟨m,hm⟩:∃m,n+1=m:=⟨_,rfl⟩
 have a5:(1:Int)+(n:Int)=(m:Int):=by omega
 obtain⟨w1,Z,G,ae⟩:=run_make_own (P:=Tryz.prog) w w.heap.size 22 31 i0 (.int .u64 0) 1 Tryz.underlying22 aI a0 a1 .i64 .i64 m (by rw[a2];omega) (by unfold maxLen;omega) (by simp)
 have B1:Below w.heap.size w w1:=(Below.refl w.heap.size w).grown ae (by simp) (fun g hg=>by cases hg)
 have O1:bL w.heap.size w1 (.slice (some ⟨w.heap.size,0,none⟩) 0 m) []:=⟨by simpa using G,by intro x hx;cases hx⟩
 generalize Value.slice (some ⟨w.heap.size,0,none⟩) 0 m=v1 at Z O1
 obtain⟨v2,w2,H,l,K,_,_⟩:=O1.push 4607182418800017408 (by decide) (by simp) B1.size 22
 have z:=aa (show(Builtin.append_ #[22,22] 22 #[v1,.slice (some ⟨w1.heap.size,0,none⟩) 1 1]).run Tryz.prog (w1.alloc (.cells #[.int .u64 4607182418800017408] 31))=.ok v2 w2 from H)
 have O2:=aa (show bL w.heap.size w2 v2 (FR f 0)from l)
 have V:=aa (B1.trans K)
 clear G ae O1 B1 H l K t hf hJ Q
 go_enter Tryz.func146,Tryz.ntmps146
 go_wp2_with(at_builtin;refine aW _ rfl _ _ 22 rfl _ _ _ _ rfl rfl (uH z) ?_;clear z)
 clear Z
 go_loopw[5,17] (fun v i wr=>∃k:Nat,k≤n∧i=.int .i64 k∧Hid (bL w.heap.size wr v (FR f k))∧Hid (Below w.heap.size w wr)) (fun _ i _=>n-(intOf i).toNat)
 case atStart=>exact⟨0,Nat.zero_le _,rfl,O2,V⟩
 case round=>
  clear O2 V
  obtain⟨k,hk,rfl,hO,X⟩:=hrel
  by_cases O:k<n
  ·have a6:(k:Int)<(n:Int):=by omega
   obtain⟨b,a7,a3,hb,hc⟩:=((uH HJ).below X.out).ne (by rw[uH HN];omega)
   have am:=hc k (by rw[uH HN];exact O)
   have C:=aa (fun w' h=>uH HS w' k h O)
   have ho:=aa (uH HF k O)
   have eo:=aa (show f k=f k from rfl)
   have F:=aa (show(FR f k).length≤1000000 from by rw[xm];omega)
   subst a3
   clear hc
   obtain⟨o,eo⟩:∃o,f k=o:=⟨_,rfl⟩
   rw[eo]at C ho
   have eV:=aa eo
   clear eo
   generalize aL J k=x at*
   go_wp2_with fail
   refine(uH C _ X.out).mono ?_
   rintro e w2 ⟨rfl,U⟩
   have l:=(uH hO).below U
   have V:=X.out.trans (U.mono X.out.size)
   obtain⟨v3,w3,L,M,N,_,_⟩:=l.push o (uH ho) (uH F) V.size 22
   have z:=aa L
   have O3:=aa (show bL w.heap.size w3 v3 (FR f (k+1))from by
    rw[Dk,uH eV];exact M)
   have B3:=aa (V.trans N)
   clear U C hO X l V L M N ho eV F am
   go_wp2_with(at_builtin;refine aW _ rfl _ _ 22 rfl _ _ _ _ rfl rfl (uH z) ?_;clear z)
   go_round
   case rel=>exact⟨k+1,by omega,by go_num,O3,B3⟩
   case measure=>simp[intOf];omega
  ·have ax:k=n:=by omega
   subst ax
   obtain⟨b1,d1,e1,q1⟩:=(uH hO).bits
   rw[xm,hm]at e1
   subst e1
   have Y:=aa (uH hO).newB
   have Q1:=aa q1
   clear q1 hO
   go_wp2_with fail
   exact bodyPost_ret (v:=.slice b1 m d1) (by simp[results,Tryz.results146,go_sem]) rfl ⟨b1,d1,by rw[hm],uH Y,uH Q1,X.out⟩
theorem zm(l:Option Addr)(n c:Nat)(w:World)(A:1≤n)(D:n≤64)
  (m:Calls Tryz.prog 33 #[.slice l n c] w fun e d=>e=.returned (.bool false)∧Below w.heap.size w d):
  Calls Tryz.prog 121 #[.slice l n c] w fun e w'=>e=.returned (.tuple #[.slice none 0 0,.int .u64 0,.int .u64 0,.int .i64 4])∧Below w.heap.size w w':=by
 have t:=aa m
 have z:(n:Int)≤64:=by omega
 have f:¬(n:Int)=0:=by omega
 have F:((n:Int)==0)=false:=by rw[beq_eq_false_iff_ne];exact f
 clear m
 go_enter Tryz.func121,Tryz.ntmps121
 go_wp2_with fail
 refine Calls.mono (uH t) ?_
 rintro e G ⟨rfl,h⟩
 clear t
 go_wp2
 exact bodyPost_ret (v:=.tuple #[.slice none 0 0,.int .u64 0,.int .u64 0,.int .i64 4]) (by simp[results,Tryz.results121,go_sem]) rfl ⟨rfl,h⟩
theorem zn(w:World)(d:Nat):(w.alloc (.cells #[.int .u64 (d:Nat)] 31)).cell? ⟨w.heap.size,0,none⟩=some (.int .u64 (d:Nat)):=by
 rw[cell_of_row _ w.heap.size 0 _ _ _ (heap_alloc_new w (.cells #[.int .u64 (d:Nat)] 31))]
 rfl
theorem qn(w:World)(f d:Nat)(h:f<18446744073709551616)(z:d<18446744073709551616):
  ad ((w.alloc (.cells #[.int .u64 (d:Nat)] 31)).alloc (.cells #[.int .u64 (f:Nat),.int .u64 (d:Nat)] 31)) (some ⟨w.heap.size+1,0,none⟩) 2 [(f:Int),(d:Int)]∧Below w.heap.size w ((w.alloc (.cells #[.int .u64 (d:Nat)] 31)).alloc (.cells #[.int .u64 (f:Nat),.int .u64 (d:Nat)] 31))∧((w.alloc (.cells #[.int .u64 (d:Nat)] 31)).alloc (.cells #[.int .u64 (f:Nat),.int .u64 (d:Nat)] 31)).cell? ⟨w.heap.size,0,none⟩=some (.int .u64 (d:Nat)):=by
 have l:=t8 (w.alloc (.cells #[.int .u64 (d:Nat)] 31)) f d h z
 rw[an]at l
 have m:=ac w (.cells #[.int .u64 (d:Nat)] 31)
 have t:=ac (w.alloc (.cells #[.int .u64 (d:Nat)] 31)) (.cells #[.int .u64 (f:Nat),.int .u64 (d:Nat)] 31)
 exact⟨l,m.trans (t.mono m.size),ai (zn w d) t⟩
theorem ug(b f c a:Nat)(w:World)(hc:1≤c)
  (F:w.cell? ⟨b,f,none⟩=some (.int .u64 (a:Nat)))
  (G:Calls Tryz.prog 33 #[.slice (some ⟨b,f,none⟩) 1 c] w fun e d=>e=.returned (.bool true)∧Below w.heap.size w d)
  (H:∀w',Below w.heap.size w w'→Calls Tryz.prog 143 #[.slice (some ⟨b,f,none⟩) 0 0] w' fun e d=>e=.returned (.int .u64 (0:Nat))∧Below w'.heap.size w' d)
  (S:List Nat)
  (K:∀w',Below w.heap.size w w'→Calls Tryz.prog 146 #[.slice (some ⟨b,f,none⟩) 0 0,.func (.func 147) #[] #[]] w' fun e d=>∃h l,e=.returned (.slice h 1 l)∧bD w'.heap.size h (az S)∧ad d h l (az S)∧Below w'.heap.size w' d):
  Calls Tryz.prog 121 #[.slice (some ⟨b,f,none⟩) 1 c] w fun e w'=>∃h l,e=.returned (.tuple #[.slice h 1 l,.int .u64 0,.int .u64 (a:Nat),.int .i64 0])∧bD w.heap.size h (az S)∧ad w' h l (az S)∧Below w.heap.size w w':=by
 have L:=aa G;have M:=aa H;have N:=aa K
 have V:(1:Int)≤(c:Int):=by omega
 clear G H K
 go_enter Tryz.func121,Tryz.ntmps121
 go_wp2_with fail
 refine Calls.mono (uH L) ?_
 rintro e w1 ⟨rfl,m⟩
 have X:=ai F m
 have O:=aa m
 clear L F m
 go_wp2_with fail
 go_quiet (fail)
 clear X
 go_wp2_with fail
 have D:=aa (below_drewN (uH O) nq)
 clear O
 refine(uH M _ (uH D)).mono ?_
 rintro e w2 ⟨rfl,z⟩
 have t:=aa ((uH D).trans (z.mono (uH D).size))
 clear M D z
 go_wp2_with fail
 refine(uH N _ (uH t)).mono ?_
 rintro e w3 ⟨h,l,rfl,Q,U,A⟩
 have Y:=aa ((uH t).trans (A.mono (uH t).size))
 have Z:=aa (bD.least Q (uH t).size)
 have HS:=aa U
 clear N t A Q U
 go_wp2
 exact bodyPost_ret (v:=.tuple #[.slice h 1 l,.int .u64 0,.int .u64 (a:Nat),.int .i64 0]) (by simp[results,Tryz.results121,go_sem]) rfl ⟨h,l,rfl,uH Z,uH HS,uH Y⟩
theorem vZ(b f n c a:Nat)(w:World)(h1:2≤n)(h2:n≤64)(hc:n≤c)
  (G:w.cell? ⟨b,f,none⟩=some (.int .u64 (a:Nat)))
  (H:Calls Tryz.prog 33 #[.slice (some ⟨b,f,none⟩) n c] w fun e d=>e=.returned (.bool true)∧Below w.heap.size w d)
  (K:∀w',Below w.heap.size w w'→Calls Tryz.prog 143 #[.slice (some ⟨b,f+1,none⟩) (n-1) (n-1)] w' fun e d=>e=.returned (.int .u64 (0:Nat))∧Below w'.heap.size w' d)
  (S:List Nat)
  (L:∀w',Below w.heap.size w w'→Calls Tryz.prog 146 #[.slice (some ⟨b,f+1,none⟩) (n-1) (n-1),.func (.func 147) #[] #[]] w' fun e d=>∃h l,e=.returned (.slice h n l)∧bD w'.heap.size h (az S)∧ad d h l (az S)∧Below w'.heap.size w' d):
  Calls Tryz.prog 121 #[.slice (some ⟨b,f,none⟩) n c] w fun e w'=>∃h l,e=.returned (.tuple #[.slice h n l,.int .u64 0,.int .u64 (a:Nat),.int .i64 0])∧bD w.heap.size h (az S)∧ad w' h l (az S)∧Below w.heap.size w w':=by
 have M:=aa H;have N:=aa K;have O:=aa L
 have X:(n:Int)≤64:=by omega
 have Y:(2:Int)≤(n:Int):=by omega
 have Z:(n:Int)≤(c:Int):=by omega
 have F:¬(n:Int)=0:=by omega
 have e0:((n:Int)==0)=false:=by rw[beq_eq_false_iff_ne];exact F
 have e1:decide ((64:Int)<(n:Int))=false:=decide_eq_false (by omega)
 clear H K L
 go_enter Tryz.func121,Tryz.ntmps121
 go_wp2_with fail
 refine Calls.mono (uH M) ?_
 rintro e w1 ⟨rfl,m⟩
 have c0:=ai G m
 have Q:=aa m
 clear M G m
 go_wp2_with fail
 go_quiet (fail)
 clear c0
 go_wp2_with fail
 have D:=aa (below_drewN (uH Q) nq)
 clear Q
 refine(uH N _ (uH D)).mono ?_
 rintro e w2 ⟨rfl,z⟩
 have t:=aa ((uH D).trans (z.mono (uH D).size))
 clear N D z
 go_wp2_with fail
 refine(uH O _ (uH t)).mono ?_
 rintro e w3 ⟨h,l,rfl,U,V,A⟩
 have B4:=aa ((uH t).trans (A.mono (uH t).size))
 have HN:=aa (bD.least U (uH t).size)
 have HS:=aa V
 clear O t A U V
 go_wp2
 exact bodyPost_ret (v:=.tuple #[.slice h n l,.int .u64 0,.int .u64 (a:Nat),.int .i64 0]) (by simp[results,Tryz.results121,go_sem]) rfl ⟨h,l,rfl,uH HN,uH HS,uH B4⟩
theorem uh(b t n c a m A d:Nat)(w:World)(h1:2≤n)(h2:n≤64)(hc:n≤c)(hm:¬m=0)(D:A<18446744073709551616)(O:d<18446744073709551616)
  (Q:w.cell? ⟨b,t,none⟩=some (.int .u64 (a:Nat)))
  (U:Calls Tryz.prog 33 #[.slice (some ⟨b,t,none⟩) n c] w fun e h=>e=.returned (.bool true)∧Below w.heap.size w h)
  (V:∀w',Below w.heap.size w w'→Calls Tryz.prog 143 #[.slice (some ⟨b,t+1,none⟩) (n-1) (n-1)] w' fun e h=>e=.returned (.int .u64 (m:Nat))∧Below w'.heap.size w' h)
  (X:∀w',Below w.heap.size w w'→Calls Tryz.prog 148 #[.slice (some ⟨b,t,none⟩) n c] w' fun e h=>e=.returned (.int .u64 (A:Nat))∧Below w'.heap.size w' h)
  (Y:∀w',Below w.heap.size w w'→Calls Tryz.prog 149 #[.int .u64 a,.int .u64 A] w' fun e h=>e=.returned (.int .u64 (d:Nat))∧Below w'.heap.size w' h)
  (Z:∀w' ao,Below w.heap.size w w'→ad w' ao 2 [(A:Int),(d:Int)]→Calls Tryz.prog 33 #[.slice ao 2 2] w' fun e h=>e=.returned (.bool false)∧Below w'.heap.size w' h):
  Calls Tryz.prog 121 #[.slice (some ⟨b,t,none⟩) n c] w fun e w'=>e=.returned (.tuple #[.slice none 0 0,.int .u64 0,.int .u64 0,.int .i64 2])∧Below w.heap.size w w':=by
 have K1:=aa U;have K2:=aa V;have K4:=aa X;have K5:=aa Y;have K6:=aa Z
 have ae:(n:Int)≤64:=by omega
 have aj:(2:Int)≤(n:Int):=by omega
 have am:(n:Int)≤(c:Int):=by omega
 have M:¬(n:Int)=0:=by omega
 have e0:((n:Int)==0)=false:=by rw[beq_eq_false_iff_ne];exact M
 have e1:decide ((64:Int)<(n:Int))=false:=decide_eq_false (by omega)
 have em:((m:Int)==0)=false:=by rw[beq_eq_false_iff_ne];omega
 have F:=aa D;have HD:=aa O
 clear D O
 clear U V X Y Z
 go_enter Tryz.func121,Tryz.ntmps121
 go_wp2_with fail
 refine Calls.mono (uH K1) ?_
 rintro e w1 ⟨rfl,l⟩
 have c0:=ai Q l
 have B1:=aa l
 clear K1 Q l
 go_wp2_with fail
 go_quiet (fail)
 clear c0
 go_wp2_with fail
 have G:=aa (below_drewN (uH B1) nq)
 clear B1
 refine(uH K2 _ (uH G)).mono ?_
 rintro e w2 ⟨rfl,z⟩
 have H:=aa ((uH G).trans (z.mono (uH G).size))
 clear K2 G z
 go_wp2_with fail
 refine(uH K4 _ (uH H)).mono ?_
 rintro e w3 ⟨rfl,f⟩
 have K:=aa ((uH H).trans (f.mono (uH H).size))
 clear K4 H f
 go_wp2_with fail
 refine(uH K5 _ (uH K)).mono ?_
 rintro e w4 ⟨rfl,f⟩
 have N:=aa ((uH K).trans (f.mono (uH K).size))
 clear K5 K f
 go_wp2_with fail
 obtain⟨l,z,f⟩:=qn w4 A d (uH F) (uH HD)
 have L:=aa ((uH N).trans (z.mono (uH N).size))
 have CB:=aa f
 refine(uH K6 _ _ (uH L) l).mono ?_
 clear l z f
 rintro e w5 ⟨rfl,f⟩
 have B7:=aa ((uH L).trans (f.mono (uH L).size))
 have CD:=aa (ai (uH CB) f)
 clear K6 N L CB f F HD
 go_wp2
 exact bodyPost_ret (v:=.tuple #[.slice none 0 0,.int .u64 0,.int .u64 0,.int .i64 2]) (by simp[results,Tryz.results121,go_sem]) rfl ⟨rfl,uH B7⟩
theorem Dl(b l n c a m F d u t:Nat)(w:World)(h1:2≤n)(h2:n≤64)(hc:n≤c)(hm:¬m=0)(H:F<18446744073709551616)(hd:d<18446744073709551616)
  (hx:w.cell? ⟨b,l,none⟩=some (.int .u64 (a:Nat)))
  (C1:Calls Tryz.prog 33 #[.slice (some ⟨b,l,none⟩) n c] w fun e h=>e=.returned (.bool true)∧Below w.heap.size w h)
  (C2:∀w',Below w.heap.size w w'→Calls Tryz.prog 143 #[.slice (some ⟨b,l+1,none⟩) (n-1) (n-1)] w' fun e h=>e=.returned (.int .u64 (m:Nat))∧Below w'.heap.size w' h)
  (C4:∀w',Below w.heap.size w w'→Calls Tryz.prog 148 #[.slice (some ⟨b,l,none⟩) n c] w' fun e h=>e=.returned (.int .u64 (F:Nat))∧Below w'.heap.size w' h)
  (C5:∀w',Below w.heap.size w w'→Calls Tryz.prog 149 #[.int .u64 a,.int .u64 F] w' fun e h=>e=.returned (.int .u64 (d:Nat))∧Below w'.heap.size w' h)
  (C6:∀w' ao,Below w.heap.size w w'→ad w' ao 2 [(F:Int),(d:Int)]→Calls Tryz.prog 33 #[.slice ao 2 2] w' fun e h=>e=.returned (.bool true)∧Below w'.heap.size w' h)
  (S:List Nat)
  (C7:∀w' g,Below w.heap.size w w'→w'.cell? ⟨g,0,none⟩=some (.int .u64 (d:Nat))→Calls Tryz.prog 146 #[.slice (some ⟨b,l+1,none⟩) (n-1) (n-1),.func (.func 150) #[] #[.pointer (some ⟨g,0,none⟩)]] w' fun e h=>∃D G,e=.returned (.slice D n G)∧bD w'.heap.size D (az S)∧ad h D G (az S)∧Below w'.heap.size w' h)
  (C8:∀w',Below w.heap.size w w'→Calls Tryz.prog 149 #[.int .u64 F,.int .u64 a] w' fun e h=>e=.returned (.int .u64 (u:Nat))∧Below w'.heap.size w' h)
  (C9:∀w',Below w.heap.size w w'→Calls Tryz.prog 151 #[.int .u64 u,.int .u64 F] w' fun e h=>e=.returned (.int .u64 (t:Nat))∧Below w'.heap.size w' h):
  Calls Tryz.prog 121 #[.slice (some ⟨b,l,none⟩) n c] w fun e w'=>∃D G,e=.returned (.tuple #[.slice D n G,.int .u64 (t:Nat),.int .u64 (F:Nat),.int .i64 0])∧bD w.heap.size D (az S)∧ad w' D G (az S)∧Below w.heap.size w w':=by
 have K1:=aa C1;have K2:=aa C2;have K4:=aa C4;have K5:=aa C5;have K6:=aa C6;have K7:=aa C7;have K8:=aa C8;have K9:=aa C9
 have ae:(n:Int)≤64:=by omega
 have aj:(2:Int)≤(n:Int):=by omega
 have am:(n:Int)≤(c:Int):=by omega
 have Y:¬(n:Int)=0:=by omega
 have e0:((n:Int)==0)=false:=by rw[beq_eq_false_iff_ne];exact Y
 have e1:decide ((64:Int)<(n:Int))=false:=decide_eq_false (by omega)
 have em:((m:Int)==0)=false:=by rw[beq_eq_false_iff_ne];omega
 have K:=aa H;have HD:=aa hd
 clear H hd
 clear C1 C2 C4 C5 C6 C7 C8 C9
 go_enter Tryz.func121,Tryz.ntmps121
 go_wp2_with fail
 refine Calls.mono (uH K1) ?_
 rintro e w1 ⟨rfl,z⟩
 have c0:=ai hx z
 have B1:=aa z
 clear K1 hx z
 go_wp2_with fail
 go_quiet (fail)
 clear c0
 go_wp2_with fail
 have N:=aa (below_drewN (uH B1) nq)
 clear B1
 refine(uH K2 _ (uH N)).mono ?_
 rintro e w2 ⟨rfl,A⟩
 have O:=aa ((uH N).trans (A.mono (uH N).size))
 clear K2 N A
 go_wp2_with fail
 refine(uH K4 _ (uH O)).mono ?_
 rintro e w3 ⟨rfl,f⟩
 have Q:=aa ((uH O).trans (f.mono (uH O).size))
 clear K4 O f
 go_wp2_with fail
 refine(uH K5 _ (uH Q)).mono ?_
 rintro e w4 ⟨rfl,f⟩
 have Z:=aa ((uH Q).trans (f.mono (uH Q).size))
 clear K5 Q f
 go_wp2_with fail
 obtain⟨z,A,f⟩:=qn w4 F d (uH K) (uH HD)
 have U:=aa ((uH Z).trans (A.mono (uH Z).size))
 have CB:=aa f
 refine(uH K6 _ _ (uH U) z).mono ?_
 clear z A f
 rintro e w5 ⟨rfl,f⟩
 have L:=aa ((uH U).trans (f.mono (uH U).size))
 have CD:=aa (ai (uH CB) f)
 clear K6 Z U CB f K HD
 go_wp2_with fail
 refine(uH K7 _ _ (uH L) (uH CD)).mono ?_
 rintro e w6 ⟨D,G,rfl,hn,hs,f⟩
 have V:=aa ((uH L).trans (f.mono (uH L).size))
 have HN:=aa (bD.least hn (uH L).size)
 have M:=aa hs
 clear K7 L f hn hs CD
 go_wp2_with fail
 refine(uH K8 _ (uH V)).mono ?_
 rintro e w7 ⟨rfl,f⟩
 have X:=aa ((uH V).trans (f.mono (uH V).size))
 replace M:=aa ((uH M).below f)
 clear K8 V f
 go_wp2_with fail
 refine(uH K9 _ (uH X)).mono ?_
 rintro e w8 ⟨rfl,f⟩
 have BA:=aa ((uH X).trans (f.mono (uH X).size))
 replace M:=aa ((uH M).below f)
 clear K9 X f
 go_wp2
 exact bodyPost_ret (v:=.tuple #[.slice D n G,.int .u64 (t:Nat),.int .u64 (F:Nat),.int .i64 0]) (by simp[results,Tryz.results121,go_sem]) rfl ⟨D,G,rfl,uH HN,uH M,uH BA⟩
end Go.Proofs.YtnnfjeieennffaaGreatDoor
namespace Go.Proofs.YtnnfjeieennffaaGreatDoor
open Go.RowKit
theorem v4{f:List Nat}(h:∀x∈f,ap x=true):fO 0 f=0↔jy f=true:=by
 obtain⟨z,A,m,d⟩:=re f 0 (by decide) h
 constructor
 ·intro D
  exact List.all_eq_true.2 (fun x l=>decide_eq_true ((aS x).2 (by have:=m x l;omega)))
 ·intro t
  rcases d with d|⟨x,l,d⟩
  ·exact d
  ·rw[←d]
   exact(aS x).1 (Cr t x l)
theorem oQ(I:List Int)(k:Nat):aT (I.drop k)=(aT I).drop k:=by
 unfold aT
 rw[List.map_drop]
theorem lP{w:World}{b d c:Nat}{I:List Int}(h:ad w (some ⟨b,d,none⟩) c I)(F:2≤I.length):ad w (some ⟨b,d+1,none⟩) (I.length-1) (I.drop 1):=by
 obtain⟨G,l,e,A,D⟩:=h.ne (by omega)
 simp only[Option.some.injEq,Addr.mk.injEq]at e
 obtain⟨rfl,rfl,_⟩:=e
 refine⟨by rw[List.length_drop];omega,fun x m=>h.2.1 x (List.mem_of_mem_drop m),.inr ⟨b,d+1,rfl,A,fun i t=>?_⟩⟩
 have f:1+i<I.length:=by rw[List.length_drop]at t;omega
 have z:=D (1+i) f
 rw[List.getElem?_drop,show d+1+i=d+(1+i) by omega,z,(h.wf (1+i)).1]
theorem Dm(I:List Int)(j:Nat):aL (I.drop 1) j=aL I (j+1):=by
 unfold aL
 rw[List.getElem?_drop,Nat.add_comm 1 j]
theorem oR{I:List Int}(h:gA I I.length=true):∀x∈(aT I).drop 1,ap x=true:=fun x d=>Fq I (fun x=>ap x=true) ((mW _).1 h) x (List.mem_of_mem_drop d)
theorem v7(D:Option Addr)(c:Nat)(I:List Int)(w:World)(t:ad w D c I)(U:1≤I.length)(L:I.length≤64)(F:gA I I.length=true)(M:jy ((aT I).drop 1)=true):
  Calls Tryz.prog 121 #[.slice D I.length c] w fun e w'=>∃A G,e=.returned (.tuple #[.slice A I.length G,.int .u64 0,.int .u64 (aL I 0:Nat),.int .i64 0])∧bD w.heap.size A (az (oU (fun _=>0) I.length))∧ad w' A G (az (oU (fun _=>0) I.length))∧Below w.heap.size w w':=by
 obtain⟨b,m,rfl,V,Q⟩:=t.ne (by omega)
 have H:=Q 0 (by omega)
 have z:=cL _ c I w t (by omega)
 rw[F]at z
 have K:∀d w,(callFunc 147 d).run Tryz.prog w=.ok (.enter 147 d) w:=fun _ _=>by kernel_rfl
 have l:=t.1
 rcases Nat.lt_or_ge 1 I.length with g|g
 ·have R:=fun w' (h:Below w.heap.size w w')=>lP (t.below h) g
  have e:((I.drop 1).length:Nat)=I.length-1:=by rw[List.length_drop]
  refine vZ b m I.length c (aL I 0) w g L l H z (fun w' h=>?_) (oU (fun _=>0) I.length) (fun w' h=>?_)
  ·have B:=eE _ _ (I.drop 1) w' (R w' h) (by omega)
   rw[mO,oQ,(v4 (oR F)).2 M,e]at B
   exact B
  ·have O:=j3 147 #[] _ _ (I.drop 1) (fun _=>0) w' K (R w' h) (by omega) (fun _ _=>by show 0<18446744073709551616;decide) (fun f k _ _=>oP _ f)
   rw[e,show I.length-1+1=I.length by omega]at O
   exact O
 ·have N:I.length=1:=by omega
  rw[N]at l z⊢
  refine ug b m c (aL I 0) w l H z (fun w' h=>eE _ _ [] w' (ad.nilAt _ _ _) (by simp)) (oU (fun _=>0) 1) (fun w' h=>?_)
  exact j3 147 #[] _ _ [] (fun _=>0) w' K (ad.nilAt _ _ _) (by simp) (fun _ _=>by show 0<18446744073709551616;decide) (fun f k _ _=>oP _ f)
theorem xn{I:List Int}(d:jy ((aT I).drop 1)=false):2≤I.length:=by
 rcases Nat.lt_or_ge I.length 2 with g|g
 ·rw[List.drop_eq_nil_of_le (by rw[de];omega)]at d
  cases d
 ·exact g
theorem Dn(f:Option Addr)(c:Nat)(I:List Int)(w:World)(d:ad w f c I)(l:I.length≤64)(z:gA I I.length=true)(m:jy ((aT I).drop 1)=false)(H:(ap (gK (aL I 0) ((aT I).drop 1))&&ap (jZ (aL I 0) ((aT I).drop 1)))=false)(A:cC w):
  Calls Tryz.prog 121 #[.slice f I.length c] w fun e w'=>e=.returned (.tuple #[.slice none 0 0,.int .u64 0,.int .u64 0,.int .i64 2])∧Below w.heap.size w w':=by
 have g:=xn m
 obtain⟨b,t,rfl,O,N⟩:=d.ne (by omega)
 have L:=N 0 (by omega)
 have D:=cL _ c I w d (by omega)
 rw[z]at D
 have R:=fun w' (h:Below w.heap.size w w')=>lP (d.below h) g
 have e:((I.drop 1).length:Nat)=I.length-1:=by rw[List.length_drop]
 have G:=d.lt 0
 have M:(if mQ (aT I)=true then jn (aT I)else fN (jn (aT I)))=gK (aL I 0) ((aT I).drop 1):=by
  unfold gK
  rw[←gG (by omega)]
 refine uh b t I.length c (aL I 0) (fO 0 ((aT I).drop 1)) (gK (aL I 0) ((aT I).drop 1)) (jZ (aL I 0) ((aT I).drop 1)) w g l d.1 (fun K=>by rw[(v4 (oR z)).1 K]at m;cases m) (gF _ _) (oF _ _ G) L D (fun w' h=>?_) (fun w' h=>?_) (fun w' h=>kP _ _ w' G (gF _ _) (A.all h)) (fun w' f h l=>?_)
 ·have B:=eE _ _ (I.drop 1) w' (R w' h) (by omega)
  rw[mO,oQ,e]at B
  exact B
 ·have B:=qm _ c I w' (d.below h) l (A.all h)
  rw[M]at B
  exact B
 ·have F:=cL f 2 _ w' l (by simp)
  rw[show gA [((gK (aL I 0) ((aT I).drop 1):Nat):Int),((jZ (aL I 0) ((aT I).drop 1):Nat):Int)] [((gK (aL I 0) ((aT I).drop 1):Nat):Int),((jZ (aL I 0) ((aT I).drop 1):Nat):Int)].length=false from(show gA [((gK (aL I 0) ((aT I).drop 1):Nat):Int),((jZ (aL I 0) ((aT I).drop 1):Nat):Int)] 2=_ from by show((true&&ap (gK (aL I 0) ((aT I).drop 1)))&&ap (jZ (aL I 0) ((aT I).drop 1)))=_;rw[Bool.true_and,H])]at F
  exact F
theorem zo(t:Option Addr)(c:Nat)(I:List Int)(w:World)(f:ad w t c I)(z:I.length≤64)(L:gA I I.length=true)(A:jy ((aT I).drop 1)=false)(U:(ap (gK (aL I 0) ((aT I).drop 1))&&ap (jZ (aL I 0) ((aT I).drop 1)))=true)(l:cC w):
  Calls Tryz.prog 121 #[.slice t I.length c] w fun e w'=>∃H N,e=.returned (.tuple #[.slice H I.length N,.int .u64 (dV (aV (gK (aL I 0) ((aT I).drop 1)) (fN (aL I 0))) (gK (aL I 0) ((aT I).drop 1)):Nat),.int .u64 (gK (aL I 0) ((aT I).drop 1):Nat),.int .i64 0])∧bD w.heap.size H (az (oU (fun j=>dV (aL I (j+1)) (jZ (aL I 0) ((aT I).drop 1))) I.length))∧ad w' H N (az (oU (fun j=>dV (aL I (j+1)) (jZ (aL I 0) ((aT I).drop 1))) I.length))∧Below w.heap.size w w':=by
 have g:=xn A
 obtain⟨b,K,rfl,G,hc⟩:=f.ne (by omega)
 have Z:=hc 0 (by omega)
 have Q:=cL _ c I w f (by omega)
 rw[L]at Q
 have R:=fun w' (h:Below w.heap.size w w')=>lP (f.below h) g
 have e:((I.drop 1).length:Nat)=I.length-1:=by rw[List.length_drop]
 have m:=f.lt 0
 have eB:(if mQ (aT I)=true then jn (aT I)else fN (jn (aT I)))=gK (aL I 0) ((aT I).drop 1):=by
  unfold gK
  rw[←gG (by omega)]
 have cf:∀d w,(callFunc 150 d).run Tryz.prog w=.ok (.enter 150 d) w:=fun _ _=>by kernel_rfl
 refine Dl b K I.length c (aL I 0) (fO 0 ((aT I).drop 1)) (gK (aL I 0) ((aT I).drop 1)) (jZ (aL I 0) ((aT I).drop 1)) (aV (gK (aL I 0) ((aT I).drop 1)) (fN (aL I 0))) _ w g z f.1 (fun V=>by rw[(v4 (oR L)).1 V]at A;cases A) (gF _ _) (oF _ _ m) Z Q (fun w' h=>?_) (fun w' h=>?_) (fun w' h=>kP _ _ w' m (gF _ _) (l.all h)) (fun w' t h z=>?_) (oU (fun j=>dV (aL I (j+1)) (jZ (aL I 0) ((aT I).drop 1))) I.length) (fun w' M h X=>?_) (fun w' h=>kP _ _ w' (gF _ _) m (l.all h)) (fun w' h=>tI _ _ w' (nI _ _ (gF _ _) (kh _ m)) (gF _ _) (l.all h))
 ·have B:=eE _ _ (I.drop 1) w' (R w' h) (by omega)
  rw[mO,oQ,e]at B
  exact B
 ·have B:=qm _ c I w' (f.below h) z (l.all h)
  rw[eB]at B
  exact B
 ·have F:=cL t 2 _ w' z (by simp)
  rw[show gA [((gK (aL I 0) ((aT I).drop 1):Nat):Int),((jZ (aL I 0) ((aT I).drop 1):Nat):Int)] [((gK (aL I 0) ((aT I).drop 1):Nat):Int),((jZ (aL I 0) ((aT I).drop 1):Nat):Int)].length=true from(show gA [((gK (aL I 0) ((aT I).drop 1):Nat):Int),((jZ (aL I 0) ((aT I).drop 1):Nat):Int)] 2=_ from by show((true&&ap (gK (aL I 0) ((aT I).drop 1)))&&ap (jZ (aL I 0) ((aT I).drop 1)))=_;rw[Bool.true_and,U])]at F
  exact F
 ·have O:=j3 150 #[.pointer (some ⟨M,0,none⟩)] _ _ (I.drop 1) (fun j=>dV (aL I (j+1)) (jZ (aL I 0) ((aT I).drop 1))) w' cf (R w' h) (by omega) (fun _ _=>wE _ _) (fun D k G Y=>by
   rw[Dm]
   exact vY _ _ M D (f.lt _) (oF _ _ m) (ai X G) ((l.all h).all G))
  rw[e,show I.length-1+1=I.length by omega]at O
  exact O
theorem Do(f:Option Addr)(c:Nat)(I:List Int)(w:World)(m:ad w f c I)(h:1≤I.length)(t:I.length≤64)(z:gA I I.length=true)(A:yV (aT I)=true)(K:cC w):
  Calls Tryz.prog 121 #[.slice f I.length c] w fun e d=>∃l D,e=.returned (.tuple #[.slice l I.length D,.int .u64 (mq (aT I):Nat),.int .u64 (Cp (aT I):Nat),.int .i64 0])∧bD w.heap.size l (az (jI (aT I)))∧ad d l D (az (jI (aT I)))∧Below w.heap.size w d:=by
 obtain⟨F,G,H⟩:=kQ h
 cases hn:jy ((aT I).drop 1)
 ·rw[hn,Bool.false_or]at H
  rw[H]at A
  rw[F,G,hn,if_neg (by decide),if_neg (by decide),rn h (fun x=>dV x (jZ (aL I 0) ((aT I).drop 1))) (fun x=>by rw[hn,if_neg (by decide)])]
  exact zo f c I w m t z hn A K
 ·rw[F,G,hn,if_pos rfl,if_pos rfl,rn h (fun _=>0) (fun x=>by rw[hn,if_pos rfl])]
  exact v7 f c I w m h t z hn
theorem v8(f:Option Addr)(c:Nat)(I:List Int)(w:World)(m:ad w f c I)(t:1≤I.length)(z:I.length≤64)(A:gA I I.length=true)(D:yV (aT I)=false)(F:cC w):
  Calls Tryz.prog 121 #[.slice f I.length c] w fun e h=>∃G H,e=.returned (.tuple #[.slice G 0 H,.int .u64 0,.int .u64 0,.int .i64 2])∧Below w.heap.size w h:=by
 obtain⟨_,_,l⟩:=kQ t
 rw[D]at l
 have d:=l.symm
 rw[Bool.or_eq_false_iff]at d
 refine(Dn f c I w m z A d.1 d.2 F).mono ?_
 rintro e w' ⟨rfl,K⟩
 exact⟨_,_,rfl,K⟩
theorem zp(d:Option Addr)(c:Nat)(I:List Int)(w:World)(l:ad w d c I)(m:1≤I.length)(t:I.length≤64)(z:gA I I.length=false):
  Calls Tryz.prog 121 #[.slice d I.length c] w fun e f=>∃A D,e=.returned (.tuple #[.slice A 0 D,.int .u64 0,.int .u64 0,.int .i64 4])∧Below w.heap.size w f:=by
 have h:=cL d c I w l (by omega)
 rw[z]at h
 refine(zm d I.length c w m t h).mono ?_
 rintro e w' ⟨rfl,F⟩
 exact⟨_,_,rfl,F⟩
end Go.Proofs.YtnnfjeieennffaaGreatDoor
