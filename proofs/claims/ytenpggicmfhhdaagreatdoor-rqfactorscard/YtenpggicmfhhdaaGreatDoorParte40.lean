/- Part 40 of the texts. -/
import Derived.Test.YtenpggicmfhhdaaGreatDoorParte39
set_option maxHeartbeats 8000000
set_option maxRecDepth 20000
namespace Go.Proofs.YtenpggicmfhhdaaGreatDoor
open Go.RowKit
attribute [local go_sem ↓] Go.wp_at_zero Go.wp_at_succ
structure tU (w wr:World) (r c n:Nat) (mo:Option Addr) (mc:Nat) (T:List Nat):Prop where
 bel:Below w.heap.size w wr
 box:au wr w.heap.size (.int .i64 r) (.int .i64 c) (.slice mo n mc)
 res:au wr (w.heap.size+1) (.int .i64 0) (.int .i64 0) (.slice none 0 0)
 bits:ab wr mo mc (ar T)
theorem tU.all{w wr f:World}{r c n:Nat}{l:Option Addr}{m:Nat}{T:List Nat}(h:tU w wr r c n l m T)(d:Below wr.heap.size wr f):tU w f r c n l m T:=
 ⟨h.bel.trans (d.mono h.bel.size),h.box.all d,h.res.all d,h.bits.below d⟩
theorem tU.put{w wr:World}{r c n:Nat}{m:Option Addr}{t:Nat}{T:List Nat}(h:tU w wr r c n m t T){d:Option Addr}{f:Nat}{U:List Nat}(y:ab wr d f (ar U)):
  tU w (((wr.setCell ⟨w.heap.size,0,none⟩ (.int .i64 r)).setCell ⟨w.heap.size,1,none⟩ (.int .i64 c)).setCell ⟨w.heap.size,2,none⟩ (.slice d n f)) r c n d f U:=
 have l:w.heap.size+1≠w.heap.size:=by omega
 ⟨al h.bel (Nat.le_refl _) _ _ _,h.box.put _ _ _,((h.res.other (p:=⟨w.heap.size,0,none⟩) l _).other (p:=⟨w.heap.size,1,none⟩) l _).other (p:=⟨w.heap.size,2,none⟩) l _,y.putM h.box _ _ _⟩
theorem Gn(r c n f:Nat)(D:Option Addr)(l h:Bool)(S T U:List Nat)(w:World)(hS:ab w D f (ar S))(l0:S.length=n)(l1:T.length=n)(l2:U.length=n)(hr:l=false→T=S)(hc:h=false→U=T)
  (C1:l=true→∀t,Below w.heap.size w t→Calls Tryz.prog 22 #[.agg #[.int .i64 r,.int .i64 c,.slice D n f]] t fun e y=>∃v,e=.returned v∧az 0 y r c T v∧Below t.heap.size t y)
  (C2:h=true→∀t po pc,ab t po pc (ar T)→Calls Tryz.prog 23 #[.agg #[.int .i64 r,.int .i64 c,.slice po n pc]] t fun e y=>∃v,e=.returned v∧az 0 y r c U v∧Below t.heap.size t y):
  Calls Tryz.prog 11 #[.agg #[.int .i64 r,.int .i64 c,.slice D n f],.bool l,.bool h] w fun e t=>∃v,e=.returned v∧az 0 t r c U v∧Below w.heap.size w t:=by
 have d:=aa (show tU w ((w.alloc (.cells #[.int .i64 r,.int .i64 c,.slice D n f] 24)).alloc (.cells #[.int .i64 0,.int .i64 0,.slice none 0 0] 24)) r c n D f S from by
  obtain⟨hB,hA,hR⟩:=f8 w (.int .i64 r) (.int .i64 c) (.slice D n f) (.int .i64 0) (.int .i64 0) (.slice none 0 0) _ (Below.refl _ _)
  exact⟨hB,hA,hR,hS.below hB⟩)
 have HS:=aa hS;have L0:=aa l0;have L1:=aa l1;have L2:=aa l2;have HR:=aa hr;have I:=aa hc
 have K1:=aa C1;have K:=aa C2
 clear hS l0 l1 l2 hr hc C1 C2
 cases l
 ·obtain rfl:=uH HR rfl
  cases h
  ·obtain rfl:=uH I rfl
   clear K1 K HR I
   obtain⟨hB,hA,hR⟩:=f8 w (.int .i64 r) (.int .i64 c) (.slice D n f) (.int .i64 r) (.int .i64 c) (.slice D n f) _ (Below.refl _ _)
   have G:=hR.c0;have z1:=hR.c1;have z2:=hR.c2
   have Q:=aa ((uH HS).below hB)
   have H:=aa hB
   clear hB hA hR d HS
   go_enter Tryz.func11,Tryz.ntmps11
   go_wp2_with fail
   refine bodyPost_ret (v:=.agg #[.int .i64 r,.int .i64 c,.slice D n f]) (by simp[results,Tryz.results11,go_sem,G,z1,z2]) rfl ⟨_,rfl,?_,uH H⟩
   have:=az.any (r:=r) (c:=c) (uH Q)
   rw[uH L0]at this
   exact this
  ·have G2:=aa (uH K rfl)
   clear K1 K HR I HS
   have L:=(uH d).box.c0;have M:=(uH d).box.c1;have N:=(uH d).box.c2
   have O:=(uH d).res.c0;have V:=(uH d).res.c1;have Y:=(uH d).res.c2
   have Z:=(uH d).res.free 0;have g1:=(uH d).res.free 1;have g2:=(uH d).res.free 2
   go_enter Tryz.func11,Tryz.ntmps11
   go_wp2_with fail
   clear L M N O V Y Z g1 g2
   refine(uH G2 _ _ _ (uH d).bits).mono ?_
   rintro e w2 ⟨v,rfl,⟨p2,F,rfl,_,z⟩,A⟩
   replace d:=aa ((uH d).all A)
   have X:=(uH d).box
   have s0:=X.c0;have s1:=X.c1;have s2:=X.c2;have f0:=X.free 0;have f1:=X.free 1;have f2:=X.free 2
   replace d:=aa ((uH d).put (n:=n) z)
   rw[uH L2]
   clear A z X
   have L:=(uH d).box.c0;have M:=(uH d).box.c1;have N:=(uH d).box.c2
   have O:=(uH d).res.c0;have V:=(uH d).res.c1;have Y:=(uH d).res.c2
   have Z:=(uH d).res.free 0;have g1:=(uH d).res.free 1;have g2:=(uH d).res.free 2
   have m:=(uH d).res.put (.int .i64 r) (.int .i64 c) (.slice p2 n F)
   have G:=m.c0;have z1:=m.c1;have z2:=m.c2
   have Q:=aa (ab.putM (uH d).bits (uH d).res (.int .i64 r) (.int .i64 c) (.slice p2 n F))
   have H:=aa (al (uH d).bel (b:=w.heap.size+1) (by omega) (.int .i64 r) (.int .i64 c) (.slice p2 n F))
   clear m d
   go_wp2_with fail
   refine bodyPost_ret (v:=.agg #[.int .i64 r,.int .i64 c,.slice p2 n F]) (by simp[results,Tryz.results11,go_sem,G,z1,z2]) rfl ⟨_,rfl,?_,uH H⟩
   have:=az.any (r:=r) (c:=c) (uH Q)
   rw[uH L2]at this
   exact this
 ·have G1:=aa (uH K1 rfl)
  clear HS
  cases h
  ·obtain rfl:=uH I rfl
   clear K1 K HR I
   go_enter Tryz.func11,Tryz.ntmps11
   go_wp2_with fail
   refine(uH G1 _ (uH d).bel).mono ?_
   rintro e w1 ⟨v,rfl,⟨p1,c1,rfl,_,z⟩,A⟩
   replace d:=aa ((uH d).all A)
   have X:=(uH d).box
   have s0:=X.c0;have s1:=X.c1;have s2:=X.c2;have f0:=X.free 0;have f1:=X.free 1;have f2:=X.free 2
   replace d:=aa ((uH d).put (n:=n) z)
   rw[uH L1]
   clear A z X
   have L:=(uH d).box.c0;have M:=(uH d).box.c1;have N:=(uH d).box.c2
   have O:=(uH d).res.c0;have V:=(uH d).res.c1;have Y:=(uH d).res.c2
   have Z:=(uH d).res.free 0;have g1:=(uH d).res.free 1;have g2:=(uH d).res.free 2
   have m:=(uH d).res.put (.int .i64 r) (.int .i64 c) (.slice p1 n c1)
   have G:=m.c0;have z1:=m.c1;have z2:=m.c2
   have Q:=aa (ab.putM (uH d).bits (uH d).res (.int .i64 r) (.int .i64 c) (.slice p1 n c1))
   have H:=aa (al (uH d).bel (b:=w.heap.size+1) (by omega) (.int .i64 r) (.int .i64 c) (.slice p1 n c1))
   clear m d
   go_wp2_with fail
   refine bodyPost_ret (v:=.agg #[.int .i64 r,.int .i64 c,.slice p1 n c1]) (by simp[results,Tryz.results11,go_sem,G,z1,z2]) rfl ⟨_,rfl,?_,uH H⟩
   have:=az.any (r:=r) (c:=c) (uH Q)
   rw[uH L1]at this
   exact this
  ·have G2:=aa (uH K rfl)
   clear K1 K HR I
   go_enter Tryz.func11,Tryz.ntmps11
   go_wp2_with fail
   refine(uH G1 _ (uH d).bel).mono ?_
   rintro e w1 ⟨v,rfl,⟨p1,c1,rfl,_,z⟩,A⟩
   replace d:=aa ((uH d).all A)
   have X:=(uH d).box
   have s0:=X.c0;have s1:=X.c1;have s2:=X.c2;have f0:=X.free 0;have f1:=X.free 1;have f2:=X.free 2
   replace d:=aa ((uH d).put (n:=n) z)
   rw[uH L1]
   clear A z X
   have L:=(uH d).box.c0;have M:=(uH d).box.c1;have N:=(uH d).box.c2
   have O:=(uH d).res.c0;have V:=(uH d).res.c1;have Y:=(uH d).res.c2
   have Z:=(uH d).res.free 0;have g1:=(uH d).res.free 1;have g2:=(uH d).res.free 2
   clear O V Y Z g1 g2
   go_wp2_with fail
   clear L M N s0 s1 s2 f0 f1 f2
   refine(uH G2 _ _ _ (uH d).bits).mono ?_
   rintro e w2 ⟨v,rfl,⟨p2,F,rfl,_,z⟩,A⟩
   replace d:=aa ((uH d).all A)
   have X:=(uH d).box
   have s0:=X.c0;have s1:=X.c1;have s2:=X.c2;have f0:=X.free 0;have f1:=X.free 1;have f2:=X.free 2
   replace d:=aa ((uH d).put (n:=n) z)
   rw[uH L2]
   clear A z X
   have L:=(uH d).box.c0;have M:=(uH d).box.c1;have N:=(uH d).box.c2
   have O:=(uH d).res.c0;have V:=(uH d).res.c1;have Y:=(uH d).res.c2
   have Z:=(uH d).res.free 0;have g1:=(uH d).res.free 1;have g2:=(uH d).res.free 2
   have m:=(uH d).res.put (.int .i64 r) (.int .i64 c) (.slice p2 n F)
   have G:=m.c0;have z1:=m.c1;have z2:=m.c2
   have Q:=aa (ab.putM (uH d).bits (uH d).res (.int .i64 r) (.int .i64 c) (.slice p2 n F))
   have H:=aa (al (uH d).bel (b:=w.heap.size+1) (by omega) (.int .i64 r) (.int .i64 c) (.slice p2 n F))
   clear m d
   go_wp2_with fail
   refine bodyPost_ret (v:=.agg #[.int .i64 r,.int .i64 c,.slice p2 n F]) (by simp[results,Tryz.results11,go_sem,G,z1,z2]) rfl ⟨_,rfl,?_,uH H⟩
   have:=az.any (r:=r) (c:=c) (uH Q)
   rw[uH L2]at this
   exact this
def GM(r c:Nat)(rows cols:Bool)(S:List Nat):List Nat:=if cols=true then DF r c (if rows=true then eY r c S else S)else if rows=true then eY r c S else S
def gy(w':World)(ok:Bool)(p1 p2 p3 p4 nq nr:Nat)(Q R:List Nat)(e:Ending):Prop:=
 (ok=true∧∃qo qc ro rc,e=.returned (.agg #[.int .i64 p1,.int .i64 p2,.slice qo nq qc,.int .i64 p3,.int .i64 p4,.slice ro nr rc,.bool true])∧ab w' qo qc (ar Q)∧ab w' ro rc (ar R))∨
 (ok=false∧e=.returned (.agg #[.int .i64 0,.int .i64 0,.slice none 0 0,.int .i64 0,.int .i64 0,.slice none 0 0,.bool false]))
theorem az.told{w:World}{r c:Nat}{S:List Nat}{v:Value}(h:az 0 w r c S v):∃d f,v=.agg #[.int .i64 r,.int .i64 c,.slice d S.length f]∧ab w d f (ar S):=by
 obtain⟨d,f,e,_,l⟩:=h
 exact⟨d,f,e,l⟩
theorem Fx(r c n n1 nq nr mq mr L:Nat)(ao:Option Addr)(T Q R LQ LR:List Nat)(ok:Bool)(w:World)(lT:T.length=n1)
  (C1:∀f,Below w.heap.size w f→Calls Tryz.prog 28 #[.agg #[.int .i64 r,.int .i64 c,.slice ao n L]] f fun e l=>∃v,e=.returned v∧az 0 l c r T v∧Below f.heap.size f l)
  (C2:∀f po pc,ab f po pc (ar T)→Calls Tryz.prog 27 #[.agg #[.int .i64 c,.int .i64 r,.slice po n1 pc]] f fun e l=>gy l ok c c c r nq nr Q R e∧Below f.heap.size f l)
  (C3:∀f V X,ab f V X (ar R)→Calls Tryz.prog 28 #[.agg #[.int .i64 c,.int .i64 r,.slice V nr X]] f fun e l=>∃po pc,e=.returned (.agg #[.int .i64 r,.int .i64 c,.slice po mr pc])∧ab l po pc (ar LR)∧Below f.heap.size f l)
  (C4:∀f Y Z,ab f Y Z (ar Q)→Calls Tryz.prog 28 #[.agg #[.int .i64 c,.int .i64 c,.slice Y nq Z]] f fun e l=>∃po pc,e=.returned (.agg #[.int .i64 c,.int .i64 c,.slice po mq pc])∧ab l po pc (ar LQ)∧Below f.heap.size f l):
  Calls Tryz.prog 15 #[.agg #[.int .i64 r,.int .i64 c,.slice ao n L]] w fun e f=>gy f ok c c r c mq mr LQ LR e∧Below w.heap.size w f:=by
 obtain⟨hB,hA,hX⟩:=ni w r c n L ao
 have HB:=aa hB;have HA:=aa hA;have HX:=aa hX;have LT:=aa lT
 have K1:=aa C1;have K2:=aa C2;have K3:=aa C3;have K4:=aa C4
 clear hB hA hX lT C1 C2 C3 C4
 go_enter Tryz.func15,Tryz.ntmps15
 go_wp2_with fail
 refine(uH K1 _ (uH HB)).mono ?_
 rintro e w0 ⟨v,rfl,⟨po,pc,rfl,_,q1⟩,y⟩
 replace HB:=aa ((uH HB).trans (y.mono (uH HB).size))
 replace HA:=aa ((uH HA).all y);replace HX:=aa ((uH HX).all y)
 have G2:=aa (uH K2 _ _ _ q1)
 rw[uH LT]
 clear y q1 K1 K2 LT
 go_wp2_with fail
 refine(uH G2).mono ?_
 rintro e w1 ⟨aI,y⟩
 have M:=(uH HB).trans (y.mono (uH HB).size)
 have ae:=(uH HA).all y
 have O:=(uH HX).all y
 clear G2 HB HA HX y
 rcases aI with⟨rfl,Y,Z,V,X,rfl,bq,br⟩|⟨rfl,rfl⟩
 ·have U:=ac w1 (.cells #[.int .i64 c,.int .i64 c,.slice Y nq Z,.int .i64 c,.int .i64 r,.slice V nr X,.bool true] 40)
  have m:=aa (show kL w (w1.alloc (.cells #[.int .i64 c,.int .i64 c,.slice Y nq Z,.int .i64 c,.int .i64 r,.slice V nr X,.bool true] 40)) w1.heap.size r c n L ao (c:Nat) (c:Nat) (.slice Y nq Z) (c:Nat) (r:Nat) (.slice V nr X) true from⟨M.trans (U.mono M.size),ae.all U,O.all U,bw.new w1 _ _ _ _ _ _ _⟩)
  have BQ:=aa (bq.below U);have BR:=aa (br.below U)
  have HG:=aa (show w.heap.size+1<w1.heap.size from O.lt)
  clear U M ae O bq br
  have t6:=(uH m).t.c6
  go_wp2_with fail
  clear t6
  generalize w1.heap.size=g at*
  refine ap (fun W=>kL w W g r c n L ao (c:Nat) (c:Nat) (.slice Y nq Z) (c:Nat) (r:Nat) (.slice V nr X) true∧ab W Y Z (ar Q)∧ab W V X (ar R)) ⟨uH m,uH BQ,uH BR⟩ ?_
  clear m BQ BR
  rintro W ⟨st,bq,br⟩
  have hd:=(Below.refl W.heap.size W).drew
  have m:=aa (st.all hd);have BQ:=aa (bq.below hd);have BR:=aa (br.below hd)
  clear st bq br hd
  refine wp_region_held_drew (S:=(fun f=>(f.cell? ⟨w.heap.size,0,none⟩=some (.int .i64 (r:Nat))∧f.cell? ⟨w.heap.size,1,none⟩=some (.int .i64 (c:Nat)))∧(f.cell? ⟨g,0,none⟩=some (.int .i64 (c:Nat))∧f.cell? ⟨g,1,none⟩=some (.int .i64 (c:Nat))∧f.cell? ⟨g,2,none⟩=some (.slice Y nq Z)∧f.cell? ⟨g,3,none⟩=some (.int .i64 (c:Nat))∧f.cell? ⟨g,4,none⟩=some (.int .i64 (r:Nat))∧f.cell? ⟨g,5,none⟩=some (.slice V nr X)))) (by kernel_rfl) ?_ (fun z=>?_)
  ·exact(uH m).held
  refine wpAnyH_take (i:=0) (oi:={dst:=some 11,op:=Op.fieldAddr 40 (Operand.tmp 3) 1,type:=0,pos:= "ref.go:41",after:=#[],guard:=none}) (v:=(Value.pointer (some ⟨g,3,none⟩))) rfl (by kernel_rfl) (by kernel_rfl) (by kernel_rfl) (fun _ _ _ h=>h) (Or.inl ⟨by rfl,?_⟩) (by assumption) ?_
  ·(intro w D;(try dsimp only at D);go_simp)
  simp only[Act.put,List.setIfInBounds_toArray,List.set_cons_zero,List.set_cons_succ]
  refine wpAnyH_take (i:=1) (oi:={dst:=some 12,op:=Op.load 24 (Operand.tmp 11),type:=24,pos:= "ref.go:41",after:=#[{on:=0,ground:=Ground.data}],guard:=none}) (v:=(Value.agg #[.int .i64 (c:Nat),.int .i64 (r:Nat),.slice V nr X])) rfl (by kernel_rfl) (by kernel_rfl) (by kernel_rfl) (fun _ _ _ h=>h) (Or.inl ⟨by rfl,?_⟩) (by assumption) ?_
  ·(intro w D;(try dsimp only at D);go_simp)
  simp only[Act.put,List.setIfInBounds_toArray,List.set_cons_zero,List.set_cons_succ]
  refine wpAnyH_take (i:=3) (oi:={dst:=some 14,op:=Op.fieldAddr 40 (Operand.tmp 3) 0,type:=0,pos:= "ref.go:41",after:=#[],guard:=none}) (v:=(Value.pointer (some ⟨g,0,none⟩))) rfl (by kernel_rfl) (by kernel_rfl) (by kernel_rfl) (fun _ _ _ h=>h) (Or.inl ⟨by rfl,?_⟩) (by assumption) ?_
  ·(intro w D;(try dsimp only at D);go_simp)
  simp only[Act.put,List.setIfInBounds_toArray,List.set_cons_zero,List.set_cons_succ]
  refine wpAnyH_take (i:=4) (oi:={dst:=some 15,op:=Op.load 24 (Operand.tmp 14),type:=24,pos:= "ref.go:41",after:=#[{on:=3,ground:=Ground.data}],guard:=none}) (v:=(Value.agg #[.int .i64 (c:Nat),.int .i64 (c:Nat),.slice Y nq Z])) rfl (by kernel_rfl) (by kernel_rfl) (by kernel_rfl) (fun _ _ _ h=>h) (Or.inl ⟨by rfl,?_⟩) (by assumption) ?_
  ·(intro w D;(try dsimp only at D);go_simp)
  simp only[Act.put,List.setIfInBounds_toArray,List.set_cons_zero,List.set_cons_succ]
  refine wpAnyH_ready (rs:=[2]) (by kernel_rfl) (by simp) ?_
  refine AllReadyH.cons (o:={dst:=some 13,op:=Op.call {callee:=Callee.value (Operand.func 28),args:=#[Operand.tmp 12],argTypes:=#[24]},type:=24,pos:= "ref.go:41",after:=#[{on:=1,ground:=Ground.data}],guard:=none}) rfl (fun K N=>?_) AllReadyH.nil
  go_simp
  refine(uH K3 _ _ _ (uH BR)).mono ?_
  rintro e w4 ⟨F,G,rfl,hq,y⟩
  have aj:=aa hq
  replace m:=aa ((uH m).all y)
  replace BQ:=aa ((uH BQ).below y)
  replace BR:=aa ((uH BR).below y)
  clear y hq
  go_wp2_with fail
  refine N.out _ _ ?_ (fun z=>?_)
  ·exact(uH m).held
  clear N K
  refine wpAnyH_ready (rs:=[5]) (by kernel_rfl) (by simp) ?_
  refine AllReadyH.cons (o:={dst:=some 16,op:=Op.call {callee:=Callee.value (Operand.func 28),args:=#[Operand.tmp 15],argTypes:=#[24]},type:=24,pos:= "ref.go:41",after:=#[{on:=4,ground:=Ground.data},{on:=2,ground:=Ground.chain}],guard:=none}) rfl (fun K N=>?_) AllReadyH.nil
  go_simp
  refine(uH K4 _ _ _ (uH BQ)).mono ?_
  rintro e w7 ⟨H,I,rfl,hq,y⟩
  have av:=aa hq
  replace aj:=aa ((uH aj).below y)
  replace m:=aa ((uH m).all y)
  replace BQ:=aa ((uH BQ).below y)
  replace BR:=aa ((uH BR).below y)
  clear y hq
  have d:=(uH m).res
  have r0:=d.c0;have r1:=d.c1;have r2:=d.c2;have r3:=d.c3;have r4:=d.c4;have r5:=d.c5;have r6:=d.c6
  have f0:=d.free 0;have f1:=d.free 1;have f2:=d.free 2;have f3:=d.free 3;have f4:=d.free 4;have f5:=d.free 5;have f6:=d.free 6
  have A:=d.put (.int .i64 (c:Nat)) (.int .i64 (c:Nat)) (.slice H mq I) (.int .i64 (r:Nat)) (.int .i64 (c:Nat)) (.slice F mr G) (.bool true)
  have z0:=A.c0;have z1:=A.c1;have z2:=A.c2;have z3:=A.c3;have z4:=A.c4;have z5:=A.c5;have z6:=A.c6
  have BP:=aa (cq (uH m).bel (g:=w.heap.size+1) (by omega) (.int .i64 (c:Nat)) (.int .i64 (c:Nat)) (.slice H mq I) (.int .i64 (r:Nat)) (.int .i64 (c:Nat)) (.slice F mr G) (.bool true))
  have PQ:=aa (bg (uH av) d (.int .i64 (c:Nat)) (.int .i64 (c:Nat)) (.slice H mq I) (.int .i64 (r:Nat)) (.int .i64 (c:Nat)) (.slice F mr G) (.bool true))
  have PR:=aa (bg (uH aj) d (.int .i64 (c:Nat)) (.int .i64 (c:Nat)) (.slice H mq I) (.int .i64 (r:Nat)) (.int .i64 (c:Nat)) (.slice F mr G) (.bool true))
  have am:=aa (uH m).held
  have ax:=aa ((uH m).put (uH HG) (.int .i64 (c:Nat)) (.int .i64 (c:Nat)) (.slice H mq I) (.int .i64 (r:Nat)) (.int .i64 (c:Nat)) (.slice F mr G) (.bool true))
  clear d A m av aj
  go_wp2_with fail
  refine N.out _ _ ?_ (fun z=>?_)
  ·exact uH am
  clear N K
  refine wpAnyH_ready (rs:=[6]) (by kernel_rfl) (by simp) ?_
  refine AllReadyH.cons (o:={dst:=some 17,op:=Op.build 40 #[(1,Operand.tmp 13),(0,Operand.tmp 16),(2,Operand.const (Value.bool true))],type:=40,pos:= "ref.go:41",after:=#[{on:=2,ground:=Ground.data},{on:=5,ground:=Ground.data}],guard:=none}) rfl (fun K N=>?_) AllReadyH.nil
  go_simp
  refine N.out _ _ ?_ (fun z=>?_)
  ·exact uH am
  clear N K
  refine wpAnyH_ready (rs:=[7]) (by kernel_rfl) (by simp) ?_
  refine AllReadyH.cons (o:={dst:=none,op:=Op.store 40 (Operand.tmp 2) (Operand.tmp 17),type:=0,pos:= "ref.go:41",after:=#[{on:=6,ground:=Ground.data},{on:=5,ground:=Ground.chain},{on:=0,ground:=Ground.phase},{on:=1,ground:=Ground.phase},{on:=2,ground:=Ground.phase},{on:=3,ground:=Ground.phase},{on:=4,ground:=Ground.phase},{on:=5,ground:=Ground.phase},{on:=6,ground:=Ground.phase}],guard:=none}) rfl (fun K N=>?_) AllReadyH.nil
  go_simp
  refine N.out _ _ ?_ (fun z=>?_)
  ·exact uH ax
  clear N K
  refine wpAnyH_done (by kernel_rfl) ?_ _
  clear r0 r1 r2 r3 r4 r5 r6 f0 f1 f2 f3 f4 f5 f6 am ax
  go_wp2_with fail
  exact bodyPost_ret (v:=.agg #[.int .i64 (c:Nat),.int .i64 (c:Nat),.slice H mq I,.int .i64 (r:Nat),.int .i64 (c:Nat),.slice F mr G,.bool true]) (by simp[results,Tryz.results15,go_sem,z0,z1,z2,z3,z4,z5,z6]) rfl ⟨.inl ⟨rfl,H,I,F,G,rfl,uH PQ,uH PR⟩,uH BP⟩
 ·have U:=ac w1 (.cells #[.int .i64 0,.int .i64 0,.slice none 0 0,.int .i64 0,.int .i64 0,.slice none 0 0,.bool false] 40)
  have m:=aa (show kL w (w1.alloc (.cells #[.int .i64 0,.int .i64 0,.slice none 0 0,.int .i64 0,.int .i64 0,.slice none 0 0,.bool false] 40)) w1.heap.size r c n L ao 0 0 (.slice none 0 0) 0 0 (.slice none 0 0) false from⟨M.trans (U.mono M.size),ae.all U,O.all U,bw.new w1 _ _ _ _ _ _ _⟩)
  clear U M ae O
  have X2:=(uH m).t
  have t0:=X2.c0;have t1:=X2.c1;have t2:=X2.c2;have t3:=X2.c3;have t4:=X2.c4;have t5:=X2.c5;have t6:=X2.c6
  have d:=(uH m).res
  have r0:=d.c0;have r1:=d.c1;have r2:=d.c2;have r3:=d.c3;have r4:=d.c4;have r5:=d.c5;have r6:=d.c6
  have f0:=d.free 0;have f1:=d.free 1;have f2:=d.free 2;have f3:=d.free 3;have f4:=d.free 4;have f5:=d.free 5;have f6:=d.free 6
  have A:=d.put (.int .i64 0) (.int .i64 0) (.slice none 0 0) (.int .i64 0) (.int .i64 0) (.slice none 0 0) (.bool false)
  have z0:=A.c0;have z1:=A.c1;have z2:=A.c2;have z3:=A.c3;have z4:=A.c4;have z5:=A.c5;have z6:=A.c6
  have BP:=aa (cq (uH m).bel (g:=w.heap.size+1) (by omega) (.int .i64 0) (.int .i64 0) (.slice none 0 0) (.int .i64 0) (.int .i64 0) (.slice none 0 0) (.bool false))
  clear d X2 A m
  go_wp2_with fail
  exact bodyPost_ret (v:=.agg #[.int .i64 0,.int .i64 0,.slice none 0 0,.int .i64 0,.int .i64 0,.slice none 0 0,.bool false]) (by simp[results,Tryz.results15,go_sem,z0,z1,z2,z3,z4,z5,z6]) rfl ⟨.inr ⟨rfl,rfl⟩,uH BP⟩
theorem Fy(r c n n1 nq nr mq mr M:Nat)(ao:Option Addr)(T Q R LQ LR R1:List Nat)(ok:Bool)(w:World)(lT:T.length=n1)
  (C1:∀d,Below w.heap.size w d→Calls Tryz.prog 22 #[.agg #[.int .i64 r,.int .i64 c,.slice ao n M]] d fun e l=>∃v,e=.returned v∧az 0 l r c T v∧Below d.heap.size d l)
  (C2:∀d V X,ab d V X (ar T)→Calls Tryz.prog 15 #[.agg #[.int .i64 r,.int .i64 c,.slice V n1 X]] d fun e l=>gy l ok c c r c nq nr Q R e∧Below d.heap.size d l)
  (C3:∀d N O,ab d N O (ar R)→Calls Tryz.prog 22 #[.agg #[.int .i64 r,.int .i64 c,.slice N nr O]] d fun e l=>∃V X,e=.returned (.agg #[.int .i64 r,.int .i64 c,.slice V mr X])∧ab l V X (ar R1)∧Below d.heap.size d l)
  (C5:∀d N O,ab d N O (ar R1)→Calls Tryz.prog 23 #[.agg #[.int .i64 r,.int .i64 c,.slice N mr O]] d fun e l=>∃V X,e=.returned (.agg #[.int .i64 r,.int .i64 c,.slice V mr X])∧ab l V X (ar LR)∧Below d.heap.size d l)
  (C4:∀d qo qc,ab d qo qc (ar Q)→Calls Tryz.prog 22 #[.agg #[.int .i64 c,.int .i64 c,.slice qo nq qc]] d fun e l=>∃V X,e=.returned (.agg #[.int .i64 c,.int .i64 c,.slice V mq X])∧ab l V X (ar LQ)∧Below d.heap.size d l):
  Calls Tryz.prog 16 #[.agg #[.int .i64 r,.int .i64 c,.slice ao n M]] w fun e d=>gy d ok c c r c mq mr LQ LR e∧Below w.heap.size w d:=by
 obtain⟨hB,hA,hX⟩:=ni w r c n M ao
 have HB:=aa hB;have HA:=aa hA;have HX:=aa hX;have LT:=aa lT
 have K1:=aa C1;have K2:=aa C2;have K3:=aa C3;have K4:=aa C4;have K5:=aa C5
 clear hB hA hX lT C1 C2 C3 C4 C5
 go_enter Tryz.func16,Tryz.ntmps16
 go_wp2_with fail
 refine(uH K1 _ (uH HB)).mono ?_
 rintro e w0 ⟨v,rfl,⟨V,X,rfl,_,q1⟩,m⟩
 replace HB:=aa ((uH HB).trans (m.mono (uH HB).size))
 replace HA:=aa ((uH HA).all m);replace HX:=aa ((uH HX).all m)
 have G2:=aa (uH K2 _ _ _ q1)
 rw[uH LT]
 clear m q1 K1 K2 LT
 go_wp2_with fail
 refine(uH G2).mono ?_
 rintro e w1 ⟨a0,m⟩
 have U:=(uH HB).trans (m.mono (uH HB).size)
 have ae:=(uH HA).all m
 have Y:=(uH HX).all m
 clear G2 HB HA HX m
 rcases a0 with⟨rfl,qo,qc,N,O,rfl,bq,br⟩|⟨rfl,rfl⟩
 ·have Z:=ac w1 (.cells #[.int .i64 c,.int .i64 c,.slice qo nq qc,.int .i64 r,.int .i64 c,.slice N nr O,.bool true] 40)
  have z:=aa (show kL w (w1.alloc (.cells #[.int .i64 c,.int .i64 c,.slice qo nq qc,.int .i64 r,.int .i64 c,.slice N nr O,.bool true] 40)) w1.heap.size r c n M ao (c:Nat) (c:Nat) (.slice qo nq qc) (r:Nat) (c:Nat) (.slice N nr O) true from⟨U.trans (Z.mono U.size),ae.all Z,Y.all Z,bw.new w1 _ _ _ _ _ _ _⟩)
  have BQ:=aa (bq.below Z);have BR:=aa (br.below Z)
  have HG:=aa (show w.heap.size+1<w1.heap.size from Y.lt)
  clear Z U ae Y bq br
  have t6:=(uH z).t.c6
  go_wp2_with fail
  clear t6
  generalize w1.heap.size=g at*
  refine ap (fun W=>kL w W g r c n M ao (c:Nat) (c:Nat) (.slice qo nq qc) (r:Nat) (c:Nat) (.slice N nr O) true∧ab W qo qc (ar Q)∧ab W N O (ar R)) ⟨uH z,uH BQ,uH BR⟩ ?_
  clear z BQ BR
  rintro W ⟨st,bq,br⟩
  have hd:=(Below.refl W.heap.size W).drew
  have z:=aa (st.all hd);have BQ:=aa (bq.below hd);have BR:=aa (br.below hd)
  clear st bq br hd
  refine wp_region_held_drew (S:=(fun d=>(d.cell? ⟨w.heap.size,0,none⟩=some (.int .i64 (r:Nat))∧d.cell? ⟨w.heap.size,1,none⟩=some (.int .i64 (c:Nat)))∧(d.cell? ⟨g,0,none⟩=some (.int .i64 (c:Nat))∧d.cell? ⟨g,1,none⟩=some (.int .i64 (c:Nat))∧d.cell? ⟨g,2,none⟩=some (.slice qo nq qc)∧d.cell? ⟨g,3,none⟩=some (.int .i64 (r:Nat))∧d.cell? ⟨g,4,none⟩=some (.int .i64 (c:Nat))∧d.cell? ⟨g,5,none⟩=some (.slice N nr O)))) (by kernel_rfl) ?_ (fun y=>?_)
  ·exact(uH z).held
  refine wpAnyH_take (i:=0) (oi:={dst:=some 11,op:=Op.fieldAddr 40 (Operand.tmp 3) 1,type:=0,pos:= "ref.go:50",after:=#[],guard:=none}) (v:=(Value.pointer (some ⟨g,3,none⟩))) rfl (by kernel_rfl) (by kernel_rfl) (by kernel_rfl) (fun _ _ _ h=>h) (Or.inl ⟨by rfl,?_⟩) (by assumption) ?_
  ·(intro w D;(try dsimp only at D);go_simp)
  simp only[Act.put,List.setIfInBounds_toArray,List.set_cons_zero,List.set_cons_succ]
  refine wpAnyH_take (i:=1) (oi:={dst:=some 12,op:=Op.load 24 (Operand.tmp 11),type:=24,pos:= "ref.go:50",after:=#[{on:=0,ground:=Ground.data}],guard:=none}) (v:=(Value.agg #[.int .i64 (r:Nat),.int .i64 (c:Nat),.slice N nr O])) rfl (by kernel_rfl) (by kernel_rfl) (by kernel_rfl) (fun _ _ _ h=>h) (Or.inl ⟨by rfl,?_⟩) (by assumption) ?_
  ·(intro w D;(try dsimp only at D);go_simp)
  simp only[Act.put,List.setIfInBounds_toArray,List.set_cons_zero,List.set_cons_succ]
  refine wpAnyH_take (i:=4) (oi:={dst:=some 15,op:=Op.fieldAddr 40 (Operand.tmp 3) 0,type:=0,pos:= "ref.go:50",after:=#[],guard:=none}) (v:=(Value.pointer (some ⟨g,0,none⟩))) rfl (by kernel_rfl) (by kernel_rfl) (by kernel_rfl) (fun _ _ _ h=>h) (Or.inl ⟨by rfl,?_⟩) (by assumption) ?_
  ·(intro w D;(try dsimp only at D);go_simp)
  simp only[Act.put,List.setIfInBounds_toArray,List.set_cons_zero,List.set_cons_succ]
  refine wpAnyH_take (i:=5) (oi:={dst:=some 16,op:=Op.load 24 (Operand.tmp 15),type:=24,pos:= "ref.go:50",after:=#[{on:=4,ground:=Ground.data}],guard:=none}) (v:=(Value.agg #[.int .i64 (c:Nat),.int .i64 (c:Nat),.slice qo nq qc])) rfl (by kernel_rfl) (by kernel_rfl) (by kernel_rfl) (fun _ _ _ h=>h) (Or.inl ⟨by rfl,?_⟩) (by assumption) ?_
  ·(intro w D;(try dsimp only at D);go_simp)
  simp only[Act.put,List.setIfInBounds_toArray,List.set_cons_zero,List.set_cons_succ]
  refine wpAnyH_ready (rs:=[2]) (by kernel_rfl) (by simp) ?_
  refine AllReadyH.cons (o:={dst:=some 13,op:=Op.call {callee:=Callee.value (Operand.func 22),args:=#[Operand.tmp 12],argTypes:=#[24]},type:=24,pos:= "ref.go:50",after:=#[{on:=1,ground:=Ground.data}],guard:=none}) rfl (fun K L=>?_) AllReadyH.nil
  go_simp
  refine(uH K3 _ _ _ (uH BR)).mono ?_
  rintro e w4 ⟨a1,a2,rfl,hq,m⟩
  have aI:=aa hq
  replace z:=aa ((uH z).all m)
  replace BQ:=aa ((uH BQ).below m)
  replace BR:=aa ((uH BR).below m)
  clear m hq
  go_wp2_with fail
  refine L.out _ _ ?_ (fun y=>?_)
  ·exact(uH z).held
  clear L K
  refine wpAnyH_ready (rs:=[3]) (by kernel_rfl) (by simp) ?_
  refine AllReadyH.cons (o:={dst:=some 14,op:=Op.call {callee:=Callee.value (Operand.func 23),args:=#[Operand.tmp 13],argTypes:=#[24]},type:=24,pos:= "ref.go:50",after:=#[{on:=2,ground:=Ground.data},{on:=2,ground:=Ground.chain}],guard:=none}) rfl (fun K L=>?_) AllReadyH.nil
  go_simp
  refine(uH K5 _ _ _ (uH aI)).mono ?_
  rintro e w5 ⟨F,G,rfl,hq,m⟩
  have aj:=aa hq
  replace z:=aa ((uH z).all m)
  replace BQ:=aa ((uH BQ).below m)
  replace BR:=aa ((uH BR).below m)
  clear m hq
  go_wp2_with fail
  refine L.out _ _ ?_ (fun y=>?_)
  ·exact(uH z).held
  clear L K
  refine wpAnyH_ready (rs:=[6]) (by kernel_rfl) (by simp) ?_
  refine AllReadyH.cons (o:={dst:=some 17,op:=Op.call {callee:=Callee.value (Operand.func 22),args:=#[Operand.tmp 16],argTypes:=#[24]},type:=24,pos:= "ref.go:50",after:=#[{on:=5,ground:=Ground.data},{on:=3,ground:=Ground.chain}],guard:=none}) rfl (fun K L=>?_) AllReadyH.nil
  go_simp
  refine(uH K4 _ _ _ (uH BQ)).mono ?_
  rintro e w8 ⟨H,I,rfl,hq,m⟩
  have av:=aa hq
  replace aj:=aa ((uH aj).below m)
  replace z:=aa ((uH z).all m)
  replace BQ:=aa ((uH BQ).below m)
  replace BR:=aa ((uH BR).below m)
  clear m hq
  have f:=(uH z).res
  have r0:=f.c0;have r1:=f.c1;have r2:=f.c2;have r3:=f.c3;have r4:=f.c4;have r5:=f.c5;have r6:=f.c6
  have f0:=f.free 0;have f1:=f.free 1;have f2:=f.free 2;have f3:=f.free 3;have f4:=f.free 4;have f5:=f.free 5;have f6:=f.free 6
  have A:=f.put (.int .i64 (c:Nat)) (.int .i64 (c:Nat)) (.slice H mq I) (.int .i64 (r:Nat)) (.int .i64 (c:Nat)) (.slice F mr G) (.bool true)
  have z0:=A.c0;have z1:=A.c1;have z2:=A.c2;have z3:=A.c3;have z4:=A.c4;have z5:=A.c5;have z6:=A.c6
  have BP:=aa (cq (uH z).bel (g:=w.heap.size+1) (by omega) (.int .i64 (c:Nat)) (.int .i64 (c:Nat)) (.slice H mq I) (.int .i64 (r:Nat)) (.int .i64 (c:Nat)) (.slice F mr G) (.bool true))
  have PQ:=aa (bg (uH av) f (.int .i64 (c:Nat)) (.int .i64 (c:Nat)) (.slice H mq I) (.int .i64 (r:Nat)) (.int .i64 (c:Nat)) (.slice F mr G) (.bool true))
  have PR:=aa (bg (uH aj) f (.int .i64 (c:Nat)) (.int .i64 (c:Nat)) (.slice H mq I) (.int .i64 (r:Nat)) (.int .i64 (c:Nat)) (.slice F mr G) (.bool true))
  have am:=aa (uH z).held
  have ax:=aa ((uH z).put (uH HG) (.int .i64 (c:Nat)) (.int .i64 (c:Nat)) (.slice H mq I) (.int .i64 (r:Nat)) (.int .i64 (c:Nat)) (.slice F mr G) (.bool true))
  clear f A z av aj
  go_wp2_with fail
  refine L.out _ _ ?_ (fun y=>?_)
  ·exact uH am
  clear L K
  refine wpAnyH_ready (rs:=[7]) (by kernel_rfl) (by simp) ?_
  refine AllReadyH.cons (o:={dst:=some 18,op:=Op.build 40 #[(1,Operand.tmp 14),(0,Operand.tmp 17),(2,Operand.const (Value.bool true))],type:=40,pos:= "ref.go:50",after:=#[{on:=3,ground:=Ground.data},{on:=6,ground:=Ground.data}],guard:=none}) rfl (fun K L=>?_) AllReadyH.nil
  go_simp
  refine L.out _ _ ?_ (fun y=>?_)
  ·exact uH am
  clear L K
  refine wpAnyH_ready (rs:=[8]) (by kernel_rfl) (by simp) ?_
  refine AllReadyH.cons (o:={dst:=none,op:=Op.store 40 (Operand.tmp 2) (Operand.tmp 18),type:=0,pos:= "ref.go:50",after:=#[{on:=7,ground:=Ground.data},{on:=6,ground:=Ground.chain},{on:=0,ground:=Ground.phase},{on:=1,ground:=Ground.phase},{on:=2,ground:=Ground.phase},{on:=3,ground:=Ground.phase},{on:=4,ground:=Ground.phase},{on:=5,ground:=Ground.phase},{on:=6,ground:=Ground.phase},{on:=7,ground:=Ground.phase}],guard:=none}) rfl (fun K L=>?_) AllReadyH.nil
  go_simp
  refine L.out _ _ ?_ (fun y=>?_)
  ·exact uH ax
  clear L K
  refine wpAnyH_done (by kernel_rfl) ?_ _
  clear r0 r1 r2 r3 r4 r5 r6 f0 f1 f2 f3 f4 f5 f6 am ax
  go_wp2_with fail
  exact bodyPost_ret (v:=.agg #[.int .i64 (c:Nat),.int .i64 (c:Nat),.slice H mq I,.int .i64 (r:Nat),.int .i64 (c:Nat),.slice F mr G,.bool true]) (by simp[results,Tryz.results16,go_sem,z0,z1,z2,z3,z4,z5,z6]) rfl ⟨.inl ⟨rfl,H,I,F,G,rfl,uH PQ,uH PR⟩,uH BP⟩
 ·have Z:=ac w1 (.cells #[.int .i64 0,.int .i64 0,.slice none 0 0,.int .i64 0,.int .i64 0,.slice none 0 0,.bool false] 40)
  have z:=aa (show kL w (w1.alloc (.cells #[.int .i64 0,.int .i64 0,.slice none 0 0,.int .i64 0,.int .i64 0,.slice none 0 0,.bool false] 40)) w1.heap.size r c n M ao 0 0 (.slice none 0 0) 0 0 (.slice none 0 0) false from⟨U.trans (Z.mono U.size),ae.all Z,Y.all Z,bw.new w1 _ _ _ _ _ _ _⟩)
  clear Z U ae Y
  have X2:=(uH z).t
  have t0:=X2.c0;have t1:=X2.c1;have t2:=X2.c2;have t3:=X2.c3;have t4:=X2.c4;have t5:=X2.c5;have t6:=X2.c6
  have f:=(uH z).res
  have r0:=f.c0;have r1:=f.c1;have r2:=f.c2;have r3:=f.c3;have r4:=f.c4;have r5:=f.c5;have r6:=f.c6
  have f0:=f.free 0;have f1:=f.free 1;have f2:=f.free 2;have f3:=f.free 3;have f4:=f.free 4;have f5:=f.free 5;have f6:=f.free 6
  have A:=f.put (.int .i64 0) (.int .i64 0) (.slice none 0 0) (.int .i64 0) (.int .i64 0) (.slice none 0 0) (.bool false)
  have z0:=A.c0;have z1:=A.c1;have z2:=A.c2;have z3:=A.c3;have z4:=A.c4;have z5:=A.c5;have z6:=A.c6
  have BP:=aa (cq (uH z).bel (g:=w.heap.size+1) (by omega) (.int .i64 0) (.int .i64 0) (.slice none 0 0) (.int .i64 0) (.int .i64 0) (.slice none 0 0) (.bool false))
  clear f X2 A z
  go_wp2_with fail
  exact bodyPost_ret (v:=.agg #[.int .i64 0,.int .i64 0,.slice none 0 0,.int .i64 0,.int .i64 0,.slice none 0 0,.bool false]) (by simp[results,Tryz.results16,go_sem,z0,z1,z2,z3,z4,z5,z6]) rfl ⟨.inr ⟨rfl,rfl⟩,uH BP⟩
theorem vd(r c f:Nat)(A:Option Addr)(S:List Nat)(w:World)(h:Mx w A f r c S):
  Calls Tryz.prog 15 #[.agg #[.int .i64 r,.int .i64 c,.slice A S.length f]] w fun e d=>gy d (uX r c S) c c r c (c*c) (r*c) (rO r c S) (o6 r c S) e∧Below w.heap.size w d:=by
 have L:=h.2.2.1;have D:=h.2.2.2
 have F:(d8 r c S).length=c*r:=ez _ _ _
 have lR:(iM c r (d8 r c S)).length=c*r:=eE c r _ F _
 have lQ:(il c r (d8 r c S)).length=c*c:=cQ _ _ _ _ _
 refine Fx r c S.length (c*r) (c*c) (c*r) (c*c) (r*c) f A (d8 r c S) (il c r (d8 r c S)) (iM c r (d8 r c S)) (rO r c S) (o6 r c S) (uX r c S) w F (fun d m=>gR r c f A S d (h.below m)) ?_ ?_ ?_
 ·intro d t y z
  have:=og c r y t (d8 r c S) d ⟨z,F,D,L⟩
  rw[F]at this
  exact this
 ·intro d G H z
  have k:=gR c r H G _ d ⟨z,lR,D,L⟩
  rw[lR]at k
  refine k.mono ?_
  rintro e I ⟨v,rfl,K,m⟩
  obtain⟨t,y,rfl,l⟩:=K.told
  exact⟨t,y,by rw[show(dC r c (fun k i=>dJ r (iM c r (d8 r c S)) i k)).length=r*c from bY _ _ _],l,m⟩
 ·intro d G H z
  have k:=gR c c H G _ d ⟨z,lQ,D,D⟩
  rw[lQ]at k
  refine k.mono ?_
  rintro e I ⟨v,rfl,K,m⟩
  obtain⟨t,y,rfl,l⟩:=K.told
  exact⟨t,y,by rw[show(dC c c (fun k i=>dJ c (il c r (d8 r c S)) i k)).length=c*c from bY _ _ _],l,m⟩
theorem p7(r c:Nat)(S:List Nat):(o6 r c S).length=r*c:=ez _ _ _
theorem ve(r c:Nat)(S:List Nat):(rO r c S).length=c*c:=ez _ _ _
theorem DJ(r c l:Nat)(I:Option Addr)(S:List Nat)(w:World)(h:Mx w I l r c S):
  Calls Tryz.prog 16 #[.agg #[.int .i64 r,.int .i64 c,.slice I S.length l]] w fun e d=>gy d (uZ r c S) c c r c (c*c) (r*c) (xq r c S) (uY r c S) e∧Below w.heap.size w d:=by
 have K:=h.2.2.1;have A:=h.2.2.2
 have L:(eY r c S).length=r*c:=ff _ _ _
 have N:(o6 r c (eY r c S)).length=r*c:=p7 _ _ _
 have lQ:(rO r c (eY r c S)).length=c*c:=ve _ _ _
 have M:(eY r c (o6 r c (eY r c S))).length=r*c:=ff _ _ _
 refine Fy r c S.length (r*c) (c*c) (r*c) (c*c) (r*c) l I (eY r c S) (rO r c (eY r c S)) (o6 r c (eY r c S)) (xq r c S) (uY r c S) (eY r c (o6 r c (eY r c S))) (uZ r c S) w L (fun d m=>jc r c l I S d (h.below m)) ?_ ?_ ?_ ?_
 ·intro d t y z
  have:=vd r c y t (eY r c S) d ⟨z,L,K,A⟩
  rw[L]at this
  exact this
 ·intro d D F z
  have k:=jc r c F D _ d ⟨z,N,K,A⟩
  rw[N]at k
  refine k.mono ?_
  rintro e G ⟨v,rfl,H,m⟩
  obtain⟨t,y,rfl,f⟩:=H.told
  exact⟨t,y,by rw[M],f,m⟩
 ·intro d D F z
  have k:=wP r c F D _ d ⟨z,M,K,A⟩
  rw[M]at k
  refine k.mono ?_
  rintro e G ⟨v,rfl,H,m⟩
  obtain⟨t,y,rfl,f⟩:=H.told
  exact⟨t,y,by rw[Al],f,m⟩
 ·intro d D F z
  have k:=jc c c F D _ d ⟨z,lQ,A,A⟩
  rw[lQ]at k
  refine k.mono ?_
  rintro e G ⟨v,rfl,H,m⟩
  obtain⟨t,y,rfl,f⟩:=H.told
  exact⟨t,y,by rw[ff],f,m⟩
theorem li{P:Program}(w:World){l:Array Oper}{o:Oper}{a:Act}{K:Act→World→Prop}{Q:Exit→Act→World→Prop}{E:Prop}(y:o.guard=none)(s x:Operand)(t:TypeId)
  (D:o.op=.call {callee:=.builtin .append,args:=#[s,x],argTypes:=#[t,t]}) (z A:Value) (F:Value→World→Prop) (G:a.eval s=z) (H:a.eval x=A)
  (I:∃d f,(Builtin.append_ #[t,t] o.type #[z,A]).run P w=.ok d f∧F d f) (h:∀d f,F d f→K (a.put o.dst d) f):
  if Region.wanted o (yielded l a.tmps)=true then Oper.wp P o a w K Q else E:=by
 have L:Region.wanted o (yielded l a.tmps)=true:=by simp[Region.wanted,y]
 rw[if_pos L]
 obtain⟨d,f,m,hF⟩:=I
 unfold Oper.wp execOp
 simp only[D,resolve,invoke,builtin,Sem.run_bind,Sem.run_pure,Result.andThen_ok,List.map_toArray,List.map_cons,List.map_nil,G,H,m]
 exact h d f hF
def o8(n:Nat)(t:Bool)(p:Nat):Nat:=if t=true then n-1-p else p
theorem Aw{n:Nat}(t:Bool){p:Nat}(h:p<n):o8 n t p<n:=by unfold o8;split<;>omega
theorem Gp(r c:Nat)(d f:Bool)(S:List Nat)(h:S.length=r*c):GM r c d f S=dC r c (fun i k=>dJ c S (o8 r d i) (o8 c f k)):=by
 cases d<;>cases f
 ·exact(jz r c S h).symm
 ·rfl
 ·rfl
 ·show DF r c (eY r c S)=_
  unfold DF
  refine bC (fun p q l m=>?_)
  rw[Am r c S l (by omega)]
  rfl
theorem nk(p n d f:Nat)(t:Bool)(w:World)(l:p<n)(m:n≤6)(y:w.cell? ⟨f,0,none⟩=some (.bool t))(z:w.cell? ⟨d,0,none⟩=some (.int .i64 (n:Nat))):
  Calls Tryz.prog 30 #[.int .i64 p,.pointer (some ⟨f,0,none⟩),.pointer (some ⟨d,0,none⟩)] w fun e h=>e=.returned (.int .i64 (o8 n t p:Nat))∧Below w.heap.size w h:=by
 have A:IntKind.i64.wrap ((n:Int)-1)=(n:Int)-1:=aW _ (by omega)
 have D:IntKind.i64.wrap ((n:Int)-1-(p:Int))=(n:Int)-1-(p:Int):=aW _ (by omega)
 cases t
 all_goals
  go_enter Tryz.func30,Tryz.ntmps30
  go_wp2
  go_ret
  refine⟨?_,Below.refl _ _⟩
  unfold o8
  first|rfl|(simp;omega)
structure DK (w:World) (v:Value) (n:Nat) (t:Bool):Prop where
 ex:∃bn bt,v=.func (.func 30) #[] #[.pointer (some ⟨bt,0,none⟩),.pointer (some ⟨bn,0,none⟩)]∧w.cell? ⟨bt,0,none⟩=some (.bool t)∧w.cell? ⟨bn,0,none⟩=some (.int .i64 (n:Nat))
theorem DK.all{w d:World}{v:Value}{n:Nat}{t:Bool}(h:DK w v n t)(f:Below w.heap.size w d):DK d v n t:=by
 obtain⟨l,m,e,y,z⟩:=h.ex
 exact⟨l,m,e,ag y f,ag z f⟩
theorem o9(n:Nat)(t:Bool)(w:World):
  Calls Tryz.prog 20 #[.int .i64 n,.bool t] w fun e l=>∃v,e=.returned v∧DK l v n t∧Below w.heap.size w l:=by
 have d:=ac w (.cells #[.int .i64 (n:Nat)] 3)
 have m:=cD w (.int .i64 (n:Nat)) 3
 have y:=ai w (.cells #[.int .i64 (n:Nat)] 3)
 have f:=ac (w.alloc (.cells #[.int .i64 (n:Nat)] 3)) (.cells #[.bool t] 4)
 have h:=cD (w.alloc (.cells #[.int .i64 (n:Nat)] 3)) (.bool t) 4
 have z:=aa (ag m f)
 rw[y]at h
 have A:=aa h
 have D:=aa (d.trans (f.mono d.size))
 clear d m y f h
 go_enter Tryz.func20,Tryz.ntmps20
 go_wp2
 go_ret
 exact⟨_,rfl,⟨_,_,rfl,uH A,uH z⟩,uH D⟩
theorem iO(r c I:Nat)(ao:Option Addr)(f l:Bool)(S:List Nat)(w:World)(h:Mx w ao I r c S):
  Calls Tryz.prog 7 #[.agg #[.int .i64 r,.int .i64 c,.slice ao S.length I],.bool f,.bool l] w fun e m=>∃v,e=.returned (.tuple #[v,.int .i64 0])∧az w.heap.size m r c (GM r c f l S) v∧Below w.heap.size w m:=by
 obtain⟨i0,bi,bj,bm,bn⟩:=info_parts gO
 have r6:=h.2.2.1
 have c6:=h.2.2.2
 have hl:=h.2.1
 have bv:=h.small
 have K:=aa (ey r c ao S.length I ((w.alloc (.cells #[.int .i64 (r:Nat),.int .i64 (c:Nat),.slice ao S.length I] 24)).alloc (.cells #[.int .i64 0,.int .i64 0,.slice none 0 0] 24)) (by omega))
 rw[mX h,if_pos (Eq.refl true)]at K
 simp only[ai]at K
 have KB:=aa (f8 w (.int .i64 (r:Nat)) (.int .i64 (c:Nat)) (.slice ao S.length I) (.int .i64 0) (.int .i64 0) (.slice none 0 0))
 rw[Gp r c f l S hl]
 obtain⟨F,hF⟩:∃F:Nat→Nat,F=fun x=>dJ c S (o8 r f (x/c)) (o8 c l (x%c)):=⟨_,rfl⟩
 have FV:=aa (show∀j k,k<c→F (j*c+k)=dJ c S (o8 r f j) (o8 c l k)from fun j k hk=>by rw[hF];show dJ c S (o8 r f ((j*c+k)/c)) (o8 c l ((j*c+k)%c))=_;rw[fv hk,fw hk])
 have FM:=aa (show dC r c (fun i k=>dJ c S (o8 r f i) (o8 c l k))=ib F (r*c)from by rw[hF];rfl)
 rw[uH FM]
 have HM:=aa h
 generalize bt:S.length=n at*
 have HL:=aa hl
 clear hF FM h bt hl
 go_enter Tryz.func7,Tryz.ntmps7
 go_wp2_with fail
 refine Calls.mono (uH K) ?_
 rintro e N ⟨rfl,a7⟩
 obtain⟨D,hA,O⟩:=uH KB N a7
 clear K KB a7
 have T:=aa (fun m (h:Below N.heap.size N m)=>(show Below N.heap.size N m∧m.cell? ⟨w.heap.size,0,none⟩=some (.int .i64 (r:Nat))∧m.cell? ⟨w.heap.size,1,none⟩=some (.int .i64 (c:Nat))from⟨h,(hA.all h).c0,(hA.all h).c1⟩))
 have U:=aa hA;have HX:=aa O;have Z:=aa D
 clear hA O D
 go_wp2_with fail
 go_region_held3(fun m=>Below N.heap.size N m∧m.cell? ⟨w.heap.size,0,none⟩=some (.int .i64 (r:Nat))∧m.cell? ⟨w.heap.size,1,none⟩=some (.int .i64 (c:Nat)))
  (first|exact uH T _ (Below.refl _ _).drew|exact uH T _ (by assumption)|fail "KK")
  (first|(go_at_call 20;refine(o9 r f _).mono ?_;rintro e w2 ⟨v1,rfl,o1,z⟩;have a9:Below N.heap.size N w2:=Below.trans (And.left (by assumption)) (z.mono (Below.size (And.left (by assumption))));have O1:=aa o1;clear z o1)|(go_at_call 20;refine(o9 c l _).mono ?_;rintro e t ⟨v2,rfl,o2,z⟩;have ba:Below N.heap.size N t:=Below.trans (And.left (by assumption)) (z.mono (Below.size (And.left (by assumption))));have O2:=aa o2;replace O1:=aa ((uH O1).all z);clear z o2 a9)|fail "NO ARM")
 have B3:Below N.heap.size N t:=by assumption
 replace U:=aa ((uH U).all B3)
 replace HX:=aa ((uH HX).all B3)
 replace Z:=aa ((uH Z).trans (B3.mono (uH Z).size))
 replace HM:=aa ((uH HM).below (uH Z))
 obtain⟨ax,aI,rfl,x1,x2⟩:=(uH O1).ex
 obtain⟨a0,a1,rfl,x3,x4⟩:=(uH O2).ex
 have KA:=aa (fun m j (z:Below t.heap.size t m) (hj:j<r)=>nk j r ax aI f m hj r6 (ag x1 z) (ag x2 z))
 have KC:=aa (fun m k (z:Below t.heap.size t m) (hk:k<c)=>nk k c a0 a1 l m hk c6 (ag x3 z) (ag x4 z))
 clear T B3 ba x1 x2 x3 x4 O1 O2
 obtain⟨w4,bo,Y,a2⟩:=run_make_own (P:=Tryz.prog) t t.heap.size 22 30 i0 (.int .u64 0) 1 Tryz.underlying22 bi bj bm .i64 .i64 n (by rw[bn];omega) (by unfold maxLen;omega) (by simp)
 have B4:=aa (show Below t.heap.size t w4 from(Below.refl t.heap.size t).grown a2 (by simp) (fun g hg=>by cases hg))
 have O4:=aa (show bK t.heap.size w4 (.slice (some ⟨t.heap.size,0,none⟩) 0 n) (ib F (0*c))from⟨by rw[Nat.zero_mul];simpa[ib]using Y,by rw[Nat.zero_mul];intro x hx;cases hx⟩)
 clear Y a2
 have HR:=aa ((uH U).all (uH B4)).c0
 have y0:=uH HR
 have y2:=(uH U).c2
 go_wp2_with fail
 clear bo y0 y2 HR
 go_loopw[11,34] (fun v i wr=>∃j:Nat,j≤r∧i=.int .i64 j∧Hid (bK t.heap.size wr v (ib F (j*c)))∧Hid (Below t.heap.size t wr)) (fun _ i _=>r-(intOf i).toNat)
 case atStart=>exact⟨0,Nat.zero_le _,rfl,O4,B4⟩
 case round=>
  clear O4 B4
  obtain⟨j,hj,rfl,L,D⟩:=hrel
  by_cases ae:j<r
  ·have bx:(j:Int)<(r:Int):=by omega
   have V:=aa (show bK t.heap.size wr _ (ib F (j*c+0))from uH L)
   have y1:=((uH U).all (uH D)).c1
   clear L
   go_wp2_with fail
   clear y1
   go_loopw[11,39] (fun v i wr=>∃k:Nat,k≤c∧i=.int .i64 k∧Hid (bK t.heap.size wr v (ib F (j*c+k)))∧Hid (Below t.heap.size t wr)) (fun _ i _=>c-(intOf i).toNat)
   case atStart=>exact⟨0,Nat.zero_le _,rfl,V,D⟩
   case round=>
    clear V D
    obtain⟨k,hk,rfl,L,D⟩:=hrel
    by_cases X:k<c
    ·have bz:(k:Int)<(c:Int):=by omega
     have K1:=aa (fun m z=>uH KA m j z ae)
     have K2:=aa (fun m z=>uH KC m k z X)
     have hx:=Aw f ae;have hy:=Aw l X
     obtain⟨b,M,bp,bq,G,_⟩:=(uH HM).cells hx hy
     have hu:=(uH HM).el_lt (o8 r f j) (o8 c l k)
     have hp:=cY hx hy
     have eo:=uH FV j k X
     generalize dJ c S (o8 r f j) (o8 c l k)=u at*
     generalize o8 r f j=x at*
     generalize o8 c l k=y at*
     obtain⟨q,hq⟩:∃q,x*c=q:=⟨_,rfl⟩
     rw[hq]at G hp
     obtain⟨p,a3⟩:∃p,q+y=p:=⟨_,rfl⟩
     rw[a3]at G hp
     have bb:p<n:=by rw[uH HL];exact hp
     have bA:(p:Int)<(n:Int):=by omega
     have e2:IntKind.i64.wrap ((x:Int)*(c:Int))=(q:Int):=by
      rw[bJ x c,hq]
      exact aW _ (by omega)
     have e3:IntKind.i64.wrap ((q:Int)+(y:Int))=(p:Int):=(aW _ (by omega)).trans (by omega)
     have e5:(x:Int)*(c:Int)=(q:Int):=by rw[bJ x c,hq]
     have e6:(q:Int)+(y:Int)=(p:Int):=by omega
     have e7:IntKind.i64.wrap (q:Int)=(q:Int):=aW _ (by omega)
     have e8:IntKind.i64.wrap (p:Int)=(p:Int):=aW _ (by omega)
     subst bp
     have T:=aa (fun m (h:Below t.heap.size t m)=>(show m.cell? ⟨w.heap.size,1,none⟩=some (.int .i64 (c:Nat))∧m.cell? ⟨w.heap.size,2,none⟩=some (.slice (some ⟨b,M,none⟩) n I)∧m.cell? ⟨b,M+p,none⟩=some (.int .u64 (u:Nat))from⟨((uH U).all h).c1,((uH U).all h).c2,ag G h⟩))
     have KP:=aa (fun W (ho:bK t.heap.size W u11 (ib F (j*c+k))) (hs:t.heap.size≤W.heap.size)=>(show∃v' m,(Builtin.append_ #[22,22] 22 #[u11,.slice (some ⟨W.heap.size,0,none⟩) 1 1]).run Tryz.prog (W.alloc (.cells #[.int .u64 (u:Int)] 30))=.ok v' m∧(bK t.heap.size m v' (ib F (j*c+(k+1)))∧Below t.heap.size W m)from by
      obtain⟨v3,br,a4,a5,a6,_,_⟩:=ho.push u hu (by rw[eD];have:=cY ae X;have:=uH HL;omega) hs 22
      exact⟨v3,br,a4,by rw[←Nat.add_assoc,iG,eo];exact a5,a6⟩))
     clear hq a3 G hu hp eo bb hx hy bq
     go_wp2_with fail
     refine ap (fun W=>bK t.heap.size W u11 (ib F (j*c+k))∧Below t.heap.size t W) ⟨uH L,uH D⟩ ?_
     clear L D
     rintro W ⟨L,D⟩
     have HO:=aa (L.below (Below.refl W.heap.size W).drew)
     have H:=aa (D.trans (((Below.refl W.heap.size W).drew).mono D.size))
     clear L D
     refine wp_region_held_drew (S:=(fun m=>m.cell? ⟨w.heap.size,1,none⟩=some (.int .i64 (c:Nat))∧m.cell? ⟨w.heap.size,2,none⟩=some (.slice (some ⟨b,M,none⟩) n I)∧m.cell? ⟨b,M+p,none⟩=some (.int .u64 (u:Nat)))) (by kernel_rfl) ?_ (fun A=>?_)
     ·exact uH T _ (uH H)
     refine wpAnyH_take (i:=0) (oi:={dst:=some 42,op:=Op.move (Operand.tmp 11),type:=22,pos:= "rq.go:19",after:=#[],guard:=none}) (v:=u11) rfl (by kernel_rfl) (by kernel_rfl) (by kernel_rfl) (fun _ _ _ h=>h) (Or.inl ⟨by rfl,?_⟩) (by assumption) ?_
     ·(intro w d;(try dsimp only at d);go_simp)
     simp only[Act.put,List.setIfInBounds_toArray,List.set_cons_zero,List.set_cons_succ]
     refine wpAnyH_take (i:=1) (oi:={dst:=some 43,op:=Op.fieldAddr 24 (Operand.tmp 3) 2,type:=0,pos:= "rq.go:19",after:=#[],guard:=none}) (v:=(Value.pointer (some ⟨w.heap.size,2,none⟩))) rfl (by kernel_rfl) (by kernel_rfl) (by kernel_rfl) (fun _ _ _ h=>h) (Or.inl ⟨by rfl,?_⟩) (by assumption) ?_
     ·(intro w d;(try dsimp only at d);go_simp)
     simp only[Act.put,List.setIfInBounds_toArray,List.set_cons_zero,List.set_cons_succ]
     refine wpAnyH_take (i:=2) (oi:={dst:=some 44,op:=Op.load 22 (Operand.tmp 43),type:=22,pos:= "rq.go:19",after:=#[{on:=1,ground:=Ground.data}],guard:=none}) (v:=(Value.slice (some ⟨b,M,none⟩) n I)) rfl (by kernel_rfl) (by kernel_rfl) (by kernel_rfl) (fun _ _ _ h=>h) (Or.inl ⟨by rfl,?_⟩) (by assumption) ?_
     ·(intro w d;(try dsimp only at d);go_simp)
     simp only[Act.put,List.setIfInBounds_toArray,List.set_cons_zero,List.set_cons_succ]
     refine wpAnyH_take (i:=3) (oi:={dst:=some 45,op:=Op.move (Operand.tmp 9),type:=44,pos:= "rq.go:19",after:=#[],guard:=none}) (v:=(Value.func (.func 30) #[] #[.pointer (some ⟨aI,0,none⟩),.pointer (some ⟨ax,0,none⟩)])) rfl (by kernel_rfl) (by kernel_rfl) (by kernel_rfl) (fun _ _ _ h=>h) (Or.inl ⟨by rfl,?_⟩) (by assumption) ?_
     ·(intro w d;(try dsimp only at d);go_simp)
     simp only[Act.put,List.setIfInBounds_toArray,List.set_cons_zero,List.set_cons_succ]
     refine wpAnyH_take (i:=4) (oi:={dst:=some 46,op:=Op.move (Operand.tmp 12),type:=3,pos:= "rq.go:19",after:=#[],guard:=none}) (v:=(Value.int .i64 (j:Nat))) rfl (by kernel_rfl) (by kernel_rfl) (by kernel_rfl) (fun _ _ _ h=>h) (Or.inl ⟨by rfl,?_⟩) (by assumption) ?_
     ·(intro w d;(try dsimp only at d);go_simp)
     simp only[Act.put,List.setIfInBounds_toArray,List.set_cons_zero,List.set_cons_succ]
     refine wpAnyH_take (i:=6) (oi:={dst:=some 48,op:=Op.fieldAddr 24 (Operand.tmp 3) 1,type:=0,pos:= "rq.go:19",after:=#[],guard:=none}) (v:=(Value.pointer (some ⟨w.heap.size,1,none⟩))) rfl (by kernel_rfl) (by kernel_rfl) (by kernel_rfl) (fun _ _ _ h=>h) (Or.inl ⟨by rfl,?_⟩) (by assumption) ?_
     ·(intro w d;(try dsimp only at d);go_simp)
     simp only[Act.put,List.setIfInBounds_toArray,List.set_cons_zero,List.set_cons_succ]
     refine wpAnyH_take (i:=7) (oi:={dst:=some 49,op:=Op.load 3 (Operand.tmp 48),type:=3,pos:= "rq.go:19",after:=#[{on:=6,ground:=Ground.data}],guard:=none}) (v:=(Value.int .i64 (c:Nat))) rfl (by kernel_rfl) (by kernel_rfl) (by kernel_rfl) (fun _ _ _ h=>h) (Or.inl ⟨by rfl,?_⟩) (by assumption) ?_
     ·(intro w d;(try dsimp only at d);go_simp)
     simp only[Act.put,List.setIfInBounds_toArray,List.set_cons_zero,List.set_cons_succ]
     refine wpAnyH_take (i:=9) (oi:={dst:=some 51,op:=Op.move (Operand.tmp 10),type:=44,pos:= "rq.go:19",after:=#[],guard:=none}) (v:=(Value.func (.func 30) #[] #[.pointer (some ⟨a1,0,none⟩),.pointer (some ⟨a0,0,none⟩)])) rfl (by kernel_rfl) (by kernel_rfl) (by kernel_rfl) (fun _ _ _ h=>h) (Or.inl ⟨by rfl,?_⟩) (by assumption) ?_
     ·(intro w d;(try dsimp only at d);go_simp)
     simp only[Act.put,List.setIfInBounds_toArray,List.set_cons_zero,List.set_cons_succ]
     refine wpAnyH_take (i:=10) (oi:={dst:=some 52,op:=Op.move (Operand.tmp 13),type:=3,pos:= "rq.go:19",after:=#[],guard:=none}) (v:=(Value.int .i64 (k:Nat))) rfl (by kernel_rfl) (by kernel_rfl) (by kernel_rfl) (fun _ _ _ h=>h) (Or.inl ⟨by rfl,?_⟩) (by assumption) ?_
     ·(intro w d;(try dsimp only at d);go_simp)
     simp only[Act.put,List.setIfInBounds_toArray,List.set_cons_zero,List.set_cons_succ]
     refine wpAnyH_ready (rs:=[5]) (by kernel_rfl) (by simp) ?_
     refine AllReadyH.cons (o:={dst:=some 47,op:=Op.call {callee:=Callee.value (Operand.tmp 45),args:=#[Operand.tmp 46],argTypes:=#[3]},type:=3,pos:= "rq.go:19",after:=#[{on:=3,ground:=Ground.data},{on:=4,ground:=Ground.data}],guard:=none}) rfl (fun K Q=>?_) AllReadyH.nil
     go_simp
     refine(uH K1 _ (uH H)).mono ?_
     rintro e w4 ⟨rfl,z⟩
     replace H:=aa ((uH H).trans (z.mono (uH H).size))
     replace HO:=aa ((uH HO).below z)
     clear z
     go_wp2_with fail
     refine Q.out _ _ ?_ (fun A=>?_)
     ·exact uH T _ (uH H)
     clear Q K
     refine wpAnyH_take (i:=8) (oi:={dst:=some 50,op:=Op.binOp BinOp.mul 3 (Operand.tmp 47) (Operand.tmp 49) 3,type:=3,pos:= "rq.go:19",after:=#[{on:=5,ground:=Ground.data},{on:=7,ground:=Ground.data}],guard:=none}) (v:=(Value.int .i64 (q:Nat))) rfl (by kernel_rfl) (by kernel_rfl) (by kernel_rfl) (fun _ _ _ h=>h) (Or.inl ⟨by rfl,?_⟩) (by assumption) ?_
     ·(intro w d;(try dsimp only at d);go_simp)
     simp only[Act.put,List.setIfInBounds_toArray,List.set_cons_zero,List.set_cons_succ]
     refine wpAnyH_ready (rs:=[11]) (by kernel_rfl) (by simp) ?_
     refine AllReadyH.cons (o:={dst:=some 53,op:=Op.call {callee:=Callee.value (Operand.tmp 51),args:=#[Operand.tmp 52],argTypes:=#[3]},type:=3,pos:= "rq.go:19",after:=#[{on:=9,ground:=Ground.data},{on:=10,ground:=Ground.data},{on:=5,ground:=Ground.chain}],guard:=none}) rfl (fun K Q=>?_) AllReadyH.nil
     go_simp
     refine(uH K2 _ (uH H)).mono ?_
     rintro e w5 ⟨rfl,z⟩
     replace H:=aa ((uH H).trans (z.mono (uH H).size))
     replace HO:=aa ((uH HO).below z)
     clear z
     go_wp2_with fail
     refine Q.out _ _ ?_ (fun A=>?_)
     ·exact uH T _ (uH H)
     clear Q K
     refine wpAnyH_take (i:=12) (oi:={dst:=some 54,op:=Op.binOp BinOp.add 3 (Operand.tmp 50) (Operand.tmp 53) 3,type:=3,pos:= "rq.go:19",after:=#[{on:=8,ground:=Ground.data},{on:=11,ground:=Ground.data}],guard:=none}) (v:=(Value.int .i64 (p:Nat))) rfl (by kernel_rfl) (by kernel_rfl) (by kernel_rfl) (fun _ _ _ h=>h) (Or.inl ⟨by rfl,?_⟩) (by assumption) ?_
     ·(intro w d;(try dsimp only at d);go_simp)
     simp only[Act.put,List.setIfInBounds_toArray,List.set_cons_zero,List.set_cons_succ]
     refine wpAnyH_take (i:=13) (oi:={dst:=some 55,op:=Op.indexAddr 22 (Operand.tmp 44) (Operand.tmp 54),type:=0,pos:= "rq.go:19",after:=#[{on:=2,ground:=Ground.data},{on:=12,ground:=Ground.data}],guard:=none}) (v:=(Value.pointer (some ⟨b,M+p,none⟩))) rfl (by kernel_rfl) (by kernel_rfl) (by kernel_rfl) (fun _ _ _ h=>h) (Or.inl ⟨by rfl,?_⟩) (by assumption) ?_
     ·(intro w d;(try dsimp only at d);go_simp)
     simp only[Act.put,List.setIfInBounds_toArray,List.set_cons_zero,List.set_cons_succ]
     refine wpAnyH_take (i:=14) (oi:={dst:=some 56,op:=Op.load 30 (Operand.tmp 55),type:=30,pos:= "rq.go:19",after:=#[{on:=13,ground:=Ground.data}],guard:=none}) (v:=(Value.int .u64 (u:Nat))) rfl (by kernel_rfl) (by kernel_rfl) (by kernel_rfl) (fun _ _ _ h=>h) (Or.inl ⟨by rfl,?_⟩) (by assumption) ?_
     ·(intro w d;(try dsimp only at d);go_simp)
     simp only[Act.put,List.setIfInBounds_toArray,List.set_cons_zero,List.set_cons_succ]
     refine wpAnyH_ready (rs:=[15]) (by kernel_rfl) (by simp) ?_
     refine AllReadyH.cons (o:={dst:=some 57,op:=Op.buildSlice 22 1 #[(0,Operand.tmp 56)],type:=22,pos:= "rq.go:19",after:=#[{on:=14,ground:=Ground.data}],guard:=none}) rfl (fun K Q=>?_) AllReadyH.nil
     go_simp
     refine Q.out _ _ ?_ (fun A=>?_)
     ·exact uH T _ ((uH H).trans ((ac _ _).mono (uH H).size))
     clear Q K
     refine wpAnyH_ready (rs:=[16]) (by kernel_rfl) (by simp) ?_
     refine AllReadyH.cons (o:={dst:=some 58,op:=Op.call {callee:=Callee.builtin Builtin.append,args:=#[Operand.tmp 42,Operand.tmp 57],argTypes:=#[22,22]},type:=22,pos:= "rq.go:19",after:=#[{on:=0,ground:=Ground.data},{on:=15,ground:=Ground.data},{on:=11,ground:=Ground.chain}],guard:=none}) rfl (fun K Q=>?_) AllReadyH.nil
     have aj:=aa (uH KP _ (uH HO) (uH H).size)
     refine li _ (by rfl) _ _ 22 (by rfl) _ _ _ (by rfl) (by rfl) (uH aj) ?_
     clear aj
     rintro v3 w6 ⟨O3,B3⟩
     have OB:=aa O3
     replace H:=aa ((uH H).trans B3)
     clear O3 B3
     refine Q.out _ _ ?_ (fun A=>?_)
     ·exact uH T _ (uH H)
     clear Q K
     refine wpAnyH_take (i:=17) (oi:={dst:=some 11,op:=Op.assign (Operand.tmp 58),type:=22,pos:= "rq.go:19",after:=#[{on:=16,ground:=Ground.data},{on:=16,ground:=Ground.chain},{on:=0,ground:=Ground.phase},{on:=1,ground:=Ground.phase},{on:=2,ground:=Ground.phase},{on:=3,ground:=Ground.phase},{on:=4,ground:=Ground.phase},{on:=5,ground:=Ground.phase},{on:=6,ground:=Ground.phase},{on:=7,ground:=Ground.phase},{on:=8,ground:=Ground.phase},{on:=9,ground:=Ground.phase},{on:=10,ground:=Ground.phase},{on:=11,ground:=Ground.phase},{on:=12,ground:=Ground.phase},{on:=13,ground:=Ground.phase},{on:=14,ground:=Ground.phase},{on:=15,ground:=Ground.phase},{on:=16,ground:=Ground.phase}],guard:=none}) (v:=v3) rfl (by kernel_rfl) (by kernel_rfl) (by kernel_rfl) (fun _ _ _ h=>h) (Or.inl ⟨by rfl,?_⟩) (by assumption) ?_
     ·(intro w d;(try dsimp only at d);go_simp)
     simp only[Act.put,List.setIfInBounds_toArray,List.set_cons_zero,List.set_cons_succ]
     refine wpAnyH_done (by kernel_rfl) ?_ _
     clear HO T KP K1 K2
     go_wp2_with fail
     go_round
     case rel=>exact⟨k+1,by omega,by go_num,OB,H⟩
     case measure=>simp[intOf];omega
    ·have bc:k=c:=by omega
     subst bc
     have V:=aa (show bK t.heap.size _ _ (ib F ((j+1)*k))from by rw[Nat.add_mul,Nat.one_mul];exact uH L)
     clear L
     go_wp2_with fail
     go_round
     case rel=>exact⟨j+1,by omega,by go_num,V,D⟩
     case measure=>simp[intOf];omega
  ·have be:j=r:=by omega
   subst be
   obtain⟨b1,d1,e1,q1⟩:=(uH L).bits
   rw[eD,←uH HL]at e1
   subst e1
   have am:=aa ((uH L).newB.least (uH Z).size)
   have O:=(uH HX).all (uH D)
   have av:=(uH Z).trans ((uH D).mono (uH Z).size)
   have y0:=((uH U).all (uH D)).c0;have y1:=((uH U).all (uH D)).c1
   have s0:=O.c0;have s1:=O.c1;have s2:=O.c2
   have f0:=O.free 0;have f1:=O.free 1;have f2:=O.free 2
   have XP:=O.put (.int .i64 (j:Nat)) (.int .i64 (c:Nat)) (.slice b1 n d1)
   have z0:=XP.c0;have z1:=XP.c1;have z2:=XP.c2
   have QP:=aa (q1.putM O (.int .i64 (j:Nat)) (.int .i64 (c:Nat)) (.slice b1 n d1))
   have BP:=aa (al av (b:=w.heap.size+1) (by omega) (.int .i64 (j:Nat)) (.int .i64 (c:Nat)) (.slice b1 n d1))
   clear q1 L O D XP av
   go_wp2_with fail
   exact bodyPost_ret (v:=.tuple #[.agg #[.int .i64 j,.int .i64 c,.slice b1 n d1],.int .i64 0]) (by simp[results,Tryz.results7,go_sem,z0,z1,z2]) rfl ⟨_,rfl,⟨b1,d1,by rw[eD,←uH HL],uH am,uH QP⟩,uH BP⟩
end Go.Proofs.YtenpggicmfhhdaaGreatDoor
namespace Go.Proofs.YtenpggicmfhhdaaGreatDoor
open Go.RowKit
def Mr.pair(x:Mr):List Value:=[.slice x.ao x.V.length x.cap,.int .u64 (x.tau:Nat)]
def eG(R:List Mr):List Value:=R.flatMap Mr.pair
theorem k6:∀(R:List Mr) (k:Nat),k<R.length→(eG R)[k*2]? =some (.slice (bN R k).ao (bN R k).V.length (bN R k).cap)∧(eG R)[k*2+1]? =some (.int .u64 ((bN R k).tau:Nat))
 |x::R,0,_=>by simp[eG,bN,Mr.pair]
 |x::R,k+1,h=>by
  have:=k6 R k (by simpa using h)
  have e:eG (x::R)=.slice x.ao x.V.length x.cap::.int .u64 (x.tau:Nat)::eG R:=rfl
  rw[e,show(k+1)*2=k*2+1+1 by omega]
  simpa[bN]using this
def bV(base:Nat)(w:World)(v:Value)(R:List Mr):Prop:=w.ownsRow base 77 2 v R.length (eG R)∧∀x∈R,ab w x.ao x.cap (ar x.V)∧tM v.ownBlock x
theorem bV.start(w:World)(d:Nat):bV d w (.slice none 0 0) []:=⟨⟨by rfl,.inl ⟨rfl,rfl⟩⟩,by simp⟩
theorem bV.below{d:Nat}{w l:World}{v:Value}{R:List Mr}(h:bV d w v R)(f:Below w.heap.size w l):bV d l v R:=
 ⟨ga h.1 ⟨f.os,f.tape,f.output,f.size,fun k t _=>f.block k t⟩ (fun k _=>by simp:∀k,v.ownBlock=some k→some k≠none),fun x m=>⟨((h.2 x m).1).below f,(h.2 x m).2⟩⟩
theorem Fz:(Tryz.prog.info? 77).map (fun i=>(i.zero,i.size,i.bytes))=some (some (.agg #[.slice none 0 0,.int .u64 0]),2,32):=by kernel_rfl
theorem bV.push{d:Nat}{w:World}{v:Value}{R:List Mr}(h:bV d w v R)(x:Mr)(N:ab w x.ao x.cap (ar x.V))(O:tM v.ownBlock x)(hl:R.length≤1000000)(Q:d≤w.heap.size)(I:TypeId):
  ∃m t,(Builtin.append_ #[52,52] I #[v,.slice (some ⟨w.heap.size,0,none⟩) 1 1]).run Tryz.prog (w.alloc (.cells #[.slice x.ao x.V.length x.cap,.int .u64 (x.tau:Nat)] 77))=.ok m t∧bV d t m (R++[x])∧Below d w t∧(w.alloc (.cells #[.slice x.ao x.V.length x.cap,.int .u64 (x.tau:Nat)] 77)).grownBy t v.ownBlock∧(m.ownBlock=v.ownBlock∨m.ownBlock=some (w.heap.size+1)):=by
 obtain⟨Z,hi,D,F,G⟩:=info_parts Fz
 have z:=ac w (.cells #[.slice x.ao x.V.length x.cap,.int .u64 (x.tau:Nat)] 77)
 have X:=heap_alloc_new w (.cells #[.slice x.ao x.V.length x.cap,.int .u64 (x.tau:Nat)] 77)
 have Y:=ai w (.cells #[.slice x.ao x.V.length x.cap,.int .u64 (x.tau:Nat)] 77)
 have L:=h.below z
 have A:=N.below z
 generalize w.alloc (.cells #[.slice x.ao x.V.length x.cap,.int .u64 (x.tau:Nat)] 77)=W at*
 obtain⟨m,t,e1,e2,H,e4,M⟩:=run_append_own_at (P:=Tryz.prog) W d 52 I 77 Z (.agg #[.slice none 0 0,.int .u64 0]) 2 32 Tryz.underlying52 hi D F G rfl (by decide) v R.length (eG R) L.1 ⟨w.heap.size,0,none⟩ 1 1 x.pair rfl (fun j u T=>by
   rw[show(⟨w.heap.size,0,none⟩:Addr).add j=⟨w.heap.size,j,none⟩from by unfold Addr.add;split<;>simp_all,cell_of_row _ w.heap.size j _ _ _ X]
   simpa[Mr.pair]using T) (fun u K=>by
   simp[Mr.pair]at K
   rcases K with rfl|rfl<;>rfl) (by unfold maxLen;omega) (by omega) (by omega)
 ·refine⟨m,t,e1,⟨?_,fun y l=>?_⟩,(z.mono Q).grown H (by omega) (fun g U=>(h.1.lt g U).1),H,by rw[←Y];exact M⟩
  ·rw[List.length_append,show eG (R++[x])=eG R++x.pair by simp[eG]]
   exact e2
  ·have f:ab W y.ao y.cap (ar y.V)∧tM v.ownBlock y:=by
    rcases List.mem_append.1 l with l|l
    ·exact L.2 y l
    ·simp at l;subst l;exact⟨A,O⟩
   refine⟨ig f.1 f.2 H,?_⟩
   rcases M with e|e
   ·rw[e];exact f.2
   ·rw[e];exact tM.new f.1 (Nat.le_refl _)
theorem bV.putQ{f:Nat}{w:World}{v:Value}{R:List Mr}(h:bV f w v R){g:Nat}{x y:Int}{o:Option Addr}{n d:Nat}(A:au w g (.int .i64 x) (.int .i64 y) (.slice o n d))(u u' u'':Value):bV f (((w.setCell ⟨g,0,none⟩ u).setCell ⟨g,1,none⟩ u').setCell ⟨g,2,none⟩ u'') v R:=by
 refine⟨⟨h.1.1,?_⟩,fun z D=>⟨(h.2 z D).1.putM A u u' u'',(h.2 z D).2⟩⟩
 rcases h.1.2 with e|⟨k,m,t,G,H,F,rest⟩
 ·exact .inl e
 ·have l:k≠g:=by
   rintro rfl
   have e:=F.symm.trans A
   simp at e
  exact .inr ⟨k,m,t,G,H,(Below.heap_setCell _ ⟨g,2,none⟩ u'' k l).trans ((Below.heap_setCell _ ⟨g,1,none⟩ u' k l).trans ((Below.heap_setCell _ ⟨g,0,none⟩ u k l).trans F)),rest⟩
theorem bV.grown{d:Nat}{w l:World}{v:Value}{R:List Mr}(h:bV d w v R){g:Nat}(t:v.ownBlock≠some g)(y:∀x∈R,tM (some g) x)(m:w.grownBy l (some g)):bV d l v R:=
 ⟨ga h.1 m (fun k z e=>t (by rw[z,e])),fun x f=>⟨ig (h.2 x f).1 (y x f) m,(h.2 x f).2⟩⟩
theorem bV.away{d:Nat}{w:World}{v:Value}{R:List Mr}(h:bV d w v R){g:Nat}(f:w.heap.size≤g):v.ownBlock≠some g∧∀x∈R,tM (some g) x:=
 ⟨fun e=>by have:=(h.1.lt g e).2;omega,fun x l=>tM.new (h.2 x l).1 f⟩
theorem bV.slice{d:Nat}{w:World}{v:Value}{R:List Mr}(h:bV d w v R):∃lo f,v=.slice lo R.length f:=by
 rcases h.1.2 with⟨l,m⟩|⟨g,t,y,z,_⟩
 ·exact⟨none,0,by rw[l,m]⟩
 ·exact⟨_,_,z⟩
theorem bV.least{d m:Nat}{w:World}{v:Value}{R:List Mr}(h:bV d w v R)(t:m≤d):bV m w v R:=by
 refine⟨⟨h.1.1,?_⟩,h.2⟩
 rcases h.1.2 with e|⟨k,f,l,y,z,rest⟩
 ·exact .inl e
 ·exact .inr ⟨k,f,l,y,Nat.le_trans t z,rest⟩
theorem bV.at{d:Nat}{w:World}{v:Value}{R:List Mr}(h:bV d w v R){k:Nat}(t:k<R.length):∃g f,v=.slice (some ⟨g,0,none⟩) R.length f∧d≤g∧g<w.heap.size∧w.cell? ⟨g,k*2,none⟩=some (.slice (bN R k).ao (bN R k).V.length (bN R k).cap)∧w.cell? ⟨g,k*2+1,none⟩=some (.int .u64 ((bN R k).tau:Nat))∧ab w (bN R k).ao (bN R k).cap (ar (bN R k).V):=by
 rcases h.1.2 with⟨z,G⟩|⟨g,f,A,z,D,y,H,I,K,F⟩
 ·omega
 ·obtain⟨l,m⟩:=k6 R k t
  rw[←F,List.getElem?_take]at l m
  rw[if_pos (by omega)]at l m
  simp only[Array.getElem?_toList]at l m
  refine⟨g,f,z,D,(Array.getElem?_eq_some_iff.1 y).1,?_,?_,(h.2 (bN R k) ?_).1⟩
  ·rw[cell_of_row w g _ _ _ _ y];exact l
  ·rw[cell_of_row w g _ _ _ _ y];exact m
  ·unfold bN
   rw[List.getElem?_eq_getElem t]
   exact List.getElem_mem t
attribute [local go_sem ↓] Go.wp_at_zero Go.wp_at_succ
theorem oh{a w d:World}{o:Option Nat}(h:a.grownBy w o)(k:w.grownBy d o):a.grownBy d o:=
 ⟨k.os.trans h.os,k.tape.trans h.tape,k.output.trans h.output,Nat.le_trans h.size k.size,fun i f l=>(k.block i (Nat.lt_of_lt_of_le f h.size) l).trans (h.block i f l)⟩
theorem oj{w d:World}(h:Below w.heap.size w d)(o:Option Nat):w.grownBy d o:=⟨h.os,h.tape,h.output,h.size,fun k f _=>h.block k f⟩
theorem rU(w:World)(g j:Nat)(v:Value):w.grownBy (w.setCell ⟨g,j,none⟩ v) (some g):=by
 have h:=(Below.refl w.heap.size w)
 refine⟨rfl,rfl,rfl,?_,fun k _ d=>Below.heap_setCell w ⟨g,j,none⟩ v k (fun e=>d (by rw[e]))⟩
 simp[World.setCell]
structure tW (w wr:World) (g r c n:Nat) (S:List Nat):Prop where
 bel:w.grownBy wr (some g)
 a:au wr w.heap.size (.int .i64 r) (.int .i64 c) (.slice (some ⟨g,0,none⟩) n n)
 row:bT wr g S
theorem tW.start{w:World}{g n:Nat}{S:List Nat}(h:bT w g S)(r c:Nat):tW w (w.alloc (.cells #[.int .i64 r,.int .i64 c,.slice (some ⟨g,0,none⟩) n n] 24)) g r c n S:=by
 have b:=ac w (.cells #[.int .i64 r,.int .i64 c,.slice (some ⟨g,0,none⟩) n n] 24)
 exact⟨oj b _,au.new w _ _ _,h.below b h.lt⟩
theorem tW.set{w wr:World}{g r c n:Nat}{S:List Nat}(h:tW w wr g r c n S)(d:g<w.heap.size)(p x:Nat):tW w (wr.setCell ⟨g,p,none⟩ (.int .u64 (x:Int))) g r c n (S.set p x):=
 ⟨oh h.bel (rU wr g p _),h.a.other (p:=⟨g,p,none⟩) (by show w.heap.size≠g;omega) _,h.row.set p x⟩
theorem wV(r c n j d g f:Nat)(S:List Nat)(T:Nat→List Nat)(P:Nat→Nat)(w:World)(ae:n≤36)(hr:r≤6)(hj:j<r)(h:bT w g S)(Q:S.length=n)(U:∀i,(T i).length=n)
  (h0:j*c+j=f∧f<n∧S.set f d=T (j+1)) (V:∀i,j<i→i<r→i*c+j=P i∧P i<n∧(T i).set (P i) 0=T (i+1)):
  Calls Tryz.prog 53 #[.agg #[.int .i64 r,.int .i64 c,.slice (some ⟨g,0,none⟩) n n],.int .i64 j,.int .u64 d] w fun e X=>e=.returned (.tuple #[])∧bT X g (T r)∧w.grownBy X (some g):=by
 have Y:=aa h.lt
 have t:=aa (tW.start (n:=n) h r c)
 obtain⟨z,l⟩:∃q,j*c=q:=⟨_,rfl⟩
 obtain⟨N,G,H⟩:=h0
 rw[l]at N
 have HP:=aa V;have LT:=aa U
 have Z:IntKind.i64.wrap ((j:Int)*(c:Int))=(z:Int):=by
  rw[bJ j c,l]
  exact aW _ (by omega)
 have e2:IntKind.i64.wrap ((z:Int)+(j:Int))=(f:Int):=(aW _ (by omega)).trans (by omega)
 have e3:(j:Int)*(c:Int)=(z:Int):=by rw[bJ j c,l]
 have e4:(z:Int)+(j:Int)=(f:Int):=by omega
 have w1:IntKind.i64.wrap (z:Int)=(z:Int):=aW _ (by omega)
 have w2:IntKind.i64.wrap (f:Int)=(f:Int):=aW _ (by omega)
 obtain⟨A,y⟩:∃A,j+1=A:=⟨_,rfl⟩
 have e5:IntKind.i64.wrap ((j:Int)+1)=(A:Int):=(aW _ (by omega)).trans (by omega)
 have e6:(j:Int)+1=(A:Int):=by omega
 have D:(f:Int)<(n:Int):=by omega
 have y0:=(uH t).a.c0;have y1:=(uH t).a.c1;have y2:=(uH t).a.c2
 have d1:=(uH t).row.cell f (by rw[Q];exact G)
 have f1:=(uH t).row.free f
 have K:=aa ((uH t).set (uH Y) f d)
 rw[H,y]at K
 have F:=aa y
 clear V U h Q H l G t y
 go_enter Tryz.func53,Tryz.ntmps53
 go_wp2_with fail
 clear y0 y1 y2 d1 f1 Z e2 e3 e4 e5 e6 w1 w2 D
 go_loopw[6] (fun a wr=>∃i:Nat,j<i∧i≤r∧a=.int .i64 i∧Hid (tW w wr g r c n (T i))) (fun a _=>r-(intOf a).toNat)
 case atStart=>exact⟨A,by have:=uH F;omega,by have:=uH F;omega,by first|rfl|go_num,K⟩
 case round=>
  clear K
  obtain⟨i,O,am,rfl,m⟩:=hrel
  have y0:=(uH m).a.c0
  by_cases L:i<r
  ·have aj:(i:Int)<(r:Int):=by omega
   obtain⟨N,G,H⟩:=uH HP i O L
   have y1:=(uH m).a.c1;have y2:=(uH m).a.c2
   obtain⟨q,I⟩:∃q,i*c=q:=⟨_,rfl⟩
   rw[I]at N
   have Z:IntKind.i64.wrap ((i:Int)*(c:Int))=(q:Int):=by
    rw[bJ i c,I]
    exact aW _ (by omega)
   have e2:IntKind.i64.wrap ((q:Int)+(j:Int))=(P i:Int):=(aW _ (by omega)).trans (by omega)
   have e3:(i:Int)*(c:Int)=(q:Int):=by rw[bJ i c,I]
   have e4:(q:Int)+(j:Int)=(P i:Int):=by omega
   have w1:IntKind.i64.wrap (q:Int)=(q:Int):=aW _ (by omega)
   have w2:IntKind.i64.wrap (P i:Int)=(P i:Int):=aW _ (by omega)
   have D:(P i:Int)<(n:Int):=by omega
   have d1:=(uH m).row.cell (P i) (by rw[uH LT];exact G)
   have f1:=(uH m).row.free (P i)
   have S2:=aa ((uH m).set (uH Y) (P i) 0)
   rw[H]at S2
   generalize P i=p at*
   clear m H I G
   go_wp2_with fail
   go_round
   case rel=>exact⟨i+1,by omega,by omega,by go_num,S2⟩
   case measure=>simp[intOf];omega
  ·have M:i=r:=by omega
   subst M
   go_wp2
   first|go_end0|refine bodyPost_ret (results_none rfl _ _ _) rfl ?_
   exact⟨rfl,(uH m).row,(uH m).bel⟩
theorem tX(r c j d g:Nat)(S:List Nat)(w:World)(A:r≤6)(F:c≤6)(t:j<r)(f:j<c)(l:S.length=r*c)(h:bT w g S):
  Calls Tryz.prog 53 #[.agg #[.int .i64 r,.int .i64 c,.slice (some ⟨g,0,none⟩) S.length S.length],.int .i64 j,.int .u64 d] w fun e D=>e=.returned (.tuple #[])∧bT D g (Eb r c S j d)∧w.grownBy D (some g):=by
 have z:S.length≤36:=by
  rw[l]
  exact Nat.mul_le_mul A F
 refine wV r c S.length j d g (j*c+j) S (AV r c S j d) (fun i=>i*c+j) w z A t h rfl (fun i=>by rw[ie,l]) ⟨rfl,by rw[l];exact cY t f,o0 r c S d l t f⟩ (fun i y m=>⟨rfl,by rw[l];exact cY m f,uV r c S d y m f⟩)
theorem kh(a b:Nat)(w:World)(h:a<18446744073709551616)(l:b<18446744073709551616)(m:cd w):
  Calls Tryz.prog 74 #[.int .u64 a,.int .u64 b] w fun r t=>r=.returned (.int .u64 (aV a (fN b):Nat))∧Below w.heap.size w t:=by
 have K:=aa (yR a b w h l m)
 clear h l m
 generalize aV a (fN b)=o at*
 generalize aF a (fN b)=f at*
 go_enter Tryz.func74,Tryz.ntmps74
 go_wp2_with fail
 refine Calls.mono (uH K) ?_
 rintro e y ⟨rfl,d⟩
 clear K
 go_wp2
 go_ret
 exact⟨rfl,d⟩
theorem rV(a b:Nat)(w:World)(h:a<18446744073709551616)(l:b<18446744073709551616)(m:cd w):
  Calls Tryz.prog 76 #[.int .u64 a,.int .u64 b] w fun r t=>r=.returned (.int .u64 (dV a b:Nat))∧Below w.heap.size w t:=by
 have K:=aa (yZ a b w h l m)
 clear h l m
 generalize dV a b=o at*
 generalize dF a b=f at*
 go_enter Tryz.func76,Tryz.ntmps76
 go_wp2_with fail
 refine Calls.mono (uH K) ?_
 rintro e y ⟨rfl,d⟩
 clear K
 go_wp2
 go_ret
 exact⟨rfl,d⟩
end Go.Proofs.YtenpggicmfhhdaaGreatDoor
