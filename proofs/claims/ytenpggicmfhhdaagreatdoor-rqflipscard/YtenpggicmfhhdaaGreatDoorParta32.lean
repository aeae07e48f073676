/- Part 32 of the texts. -/
import Derived.Test.YtenpggicmfhhdaaGreatDoorParta28
import Derived.Test.YtenpggicmfhhdaaGreatDoorParta31
import Derived.Test.YtenpggicmfhhdaaGreatDoorParta27
import Derived.Test.YtenpggicmfhhdaaGreatDoorParta29
import Derived.Test.YtenpggicmfhhdaaGreatDoorParta30
set_option maxHeartbeats 8000000
set_option maxRecDepth 20000
namespace Go.Proofs.YtenpggicmfhhdaaGreatDoor
open Go.RowKit
attribute [local go_sem ↓] Go.wp_at_zero Go.wp_at_succ
theorem w13_facts:bgF 0 [4613937818241073152,4616189618054758400] = 4616189618054758400∧fFin 4616189618054758400 = true∧eX 4616189618054758400 = 2∧ssV 2 0 [4613937818241073152,4616189618054758400] = 4609715693590413312∧xV 4608308318706860032 2 = 4617315517961601024∧ldS [4613937818241073152,4616189618054758400] = false∧fN 4617315517961601024 = 13840687554816376832∧fN 13840687554816376832 = 4617315517961601024∧aV 4613937818241073152 4617315517961601024 = 4620693217682128896∧ngt [4616189618054758400] = false∧fFin 13840687554816376832 = true∧fFin 4620693217682128896 = true∧fFin 4613937818241073152 = true:=by decide +kernel
theorem w13_quo:dV 4616189618054758400 4620693217682128896 = 4602678819172646912:=by decide +kernel
theorem nr_345:nrV [4613937818241073152,4616189618054758400] = 4617315517961601024:=by
 obtain ⟨h1,h2,h3,h4,h5,_⟩:=w13_facts
 unfold nrV
 rw [h1,if_neg (by rw [h2];decide),h3,h4,w9_root,h5]
theorem hm_345:hmB 4613937818241073152 [4616189618054758400] = 13840687554816376832∧hmD 4613937818241073152 [4616189618054758400] = 4620693217682128896:=by
 obtain ⟨_,_,_,_,_,h6,h7,h8,h9,_⟩:=w13_facts
 have e:hmB 4613937818241073152 [4616189618054758400] = 13840687554816376832:=by
  unfold hmB
  rw [h6,if_neg (by decide),nr_345,h7]
 refine ⟨e,?_⟩
 unfold hmD
 rw [e,h8,h9]
theorem mr_345:mrB [4613937818241073152,4616189618054758400] = 13840687554816376832∧mrV [4613937818241073152,4616189618054758400] = [4607182418800017408,4602678819172646912]∧mrK [4613937818241073152,4616189618054758400] = true:=by
 obtain ⟨_,_,_,_,_,_,_,_,_,h10,h11,h12,_⟩:=w13_facts
 obtain ⟨e1,e2⟩:=hm_345
 refine ⟨?_,?_,?_⟩
 ·show (if ngt [4616189618054758400] = true then 4613937818241073152 else hmB 4613937818241073152 [4616189618054758400]) = _
  rw [if_neg (by rw [h10];decide),e1]
 ·show 4607182418800017408 :: [if ngt [4616189618054758400] = true then 0 else dV 4616189618054758400 (hmD 4613937818241073152 [4616189618054758400])] = _
  rw [if_neg (by rw [h10];decide),e2,w13_quo]
 ·show (ngt [4616189618054758400] || (fFin (hmB 4613937818241073152 [4616189618054758400]) && fFin (hmD 4613937818241073152 [4616189618054758400]))) = true
  rw [e1,e2,h11,h12,Bool.and_self,Bool.or_true]
end Go.Proofs.YtenpggicmfhhdaaGreatDoor
namespace Go.Proofs.YtenpggicmfhhdaaGreatDoor
open Go.RowKit
attribute [local go_sem ↓] Go.wp_at_zero Go.wp_at_succ
theorem q345_facts:dV (aV 13840687554816376832 (fN 4613937818241073152)) 13840687554816376832 = 4609884578576439706∧fN 13840687554816376832 = 4617315517961601024:=by decide +kernel
end Go.Proofs.YtenpggicmfhhdaaGreatDoor
namespace Go.Proofs.YtenpggicmfhhdaaGreatDoor
open Go.RowKit
attribute [local go_sem ↓] Go.wp_at_zero Go.wp_at_succ
structure AnsAt (wr:World) (H g:Nat) (p q:Nat) (so:Option Addr) (sd:Nat) (S:List Nat):Prop where
 box:BoxM wr g (.int .i64 p) (.int .i64 q) (.slice so S.length sd)
 bits:BitsAt wr so sd (mxL S)
 new:NewB H so (mxL S)
theorem AnsAt.all {wr w':World} {H g p q:Nat} {so:Option Addr} {sd:Nat} {S:List Nat} (h:AnsAt wr H g p q so sd S) (hb:Below wr.heap.size wr w'):AnsAt w' H g p q so sd S:=⟨h.box.all hb,h.bits.below hb,h.new⟩
theorem AnsAt.put {wr:World} {H g p q:Nat} {so:Option Addr} {sd:Nat} {S:List Nat} (h:AnsAt wr H g p q so sd S) {b k:Nat} {z0:Int} (hc:wr.cell? ⟨b,k,none⟩ = some (.int .u64 z0)) (hb:b < H) (z:Int):AnsAt (wr.setCell ⟨b,k,none⟩ (.int .u64 z)) H g p q so sd S :=
 ⟨h.box.other (p:=⟨b,k,none⟩) (h.box.away hc) _,h.bits.far h.new hb k _,h.new⟩
theorem Mx.from {w:World} {ao:Option Addr} {cap p q:Nat} {I:List Int} (h:BitsAt w ao cap I) (ho:okB (p:Int) (q:Int) I.length = true):Mx w ao cap p q (natL I):=by
 obtain ⟨p',q',e1,e2,hM,_⟩:=Mx.of h ho
 obtain rfl:p = p':=by omega
 obtain rfl:q = q':=by omega
 exact hM
end Go.Proofs.YtenpggicmfhhdaaGreatDoor
namespace Go.Proofs.YtenpggicmfhhdaaGreatDoor
open Go.RowKit
theorem q345_fin:finL (apM 2 2 (eyM 2) 0 0 [4607182418800017408,4602678819172646912] 4609884578576439706) = true:=by decide +kernel
theorem t345:mrT [4613937818241073152,4616189618054758400] = 4609884578576439706:=by
 obtain ⟨_,_,_,_,_,_,_,_,_,h10,_⟩:=w13_facts
 show (if ngt [4616189618054758400] = true then 0 else dV (aV (hmB 4613937818241073152 [4616189618054758400]) (fN 4613937818241073152)) (hmB 4613937818241073152 [4616189618054758400])) = _
 rw [if_neg (by rw [h10];decide),hm_345.1]
 exact q345_facts.1
theorem x345:qrX 2 1 [4613937818241073152,4616189618054758400] 0 = [4613937818241073152,4616189618054758400]:=rfl
theorem r345:facR 2 1 [4613937818241073152,4616189618054758400] = [13840687554816376832,0]:=by
 show clM 2 1 (apM 2 1 [4613937818241073152,4616189618054758400] 0 0 (mrV (qxL 2 1 [4613937818241073152,4616189618054758400] 0)) (mrT (qxL 2 1 [4613937818241073152,4616189618054758400] 0))) 0 (mrB (qxL 2 1 [4613937818241073152,4616189618054758400] 0)) = _
 have e:qxL 2 1 [4613937818241073152,4616189618054758400] 0 = [4613937818241073152,4616189618054758400]:=rfl
 rw [e,mr_345.1]
 generalize apM 2 1 [4613937818241073152,4616189618054758400] 0 0 _ _ = T
 rfl
theorem k345:facK 2 1 [4613937818241073152,4616189618054758400] = true:=by
 have eN:qrN 2 1 = 1:=rfl
 have eQ:facQ 2 1 [4613937818241073152,4616189618054758400] = apM 2 2 (eyM 2) 0 0 (mrV [4613937818241073152,4616189618054758400]) (mrT [4613937818241073152,4616189618054758400]):=rfl
 have k1:qrK 2 1 [4613937818241073152,4616189618054758400] (qrN 2 1) = true:=by
  rw [eN,qrK_all]
  intro j hj
  obtain rfl:j = 0:=by omega
  rw [x345]
  refine ⟨?_,mr_345.2.2⟩
  show ((true && fFin 4613937818241073152) && fFin 4616189618054758400) = true
  rw [w13_facts.2.1,w13_facts.2.2.2.2.2.2.2.2.2.2.2.2]
  rfl
 unfold facK
 rw [k1,eQ,mr_345.2.1,t345,q345_fin,r345]
 show (true && (true && ((true && fFin 13840687554816376832) && fFin 0))) = true
 rw [w13_facts.2.2.2.2.2.2.2.2.2.2.1]
 decide +kernel
end Go.Proofs.YtenpggicmfhhdaaGreatDoor
namespace Go.Proofs.YtenpggicmfhhdaaGreatDoor
open Go.RowKit
attribute [local go_sem ↓] Go.wp_at_zero Go.wp_at_succ
structure FlSt (w wr:World) (r c n:Nat) (mo:Option Addr) (mc:Nat) (T:List Nat):Prop where
 bel:Below w.heap.size w wr
 box:BoxM wr w.heap.size (.int .i64 r) (.int .i64 c) (.slice mo n mc)
 res:BoxM wr (w.heap.size+1) (.int .i64 0) (.int .i64 0) (.slice none 0 0)
 bits:BitsAt wr mo mc (mxL T)
theorem FlSt.all {w wr w':World} {r c n:Nat} {mo:Option Addr} {mc:Nat} {T:List Nat} (h:FlSt w wr r c n mo mc T) (hb:Below wr.heap.size wr w'):FlSt w w' r c n mo mc T :=
 ⟨h.bel.trans (hb.mono h.bel.size),h.box.all hb,h.res.all hb,h.bits.below hb⟩
theorem FlSt.put {w wr:World} {r c n:Nat} {mo:Option Addr} {mc:Nat} {T:List Nat} (h:FlSt w wr r c n mo mc T) {no:Option Addr} {nc:Nat} {U:List Nat} (hU:BitsAt wr no nc (mxL U)) :
  FlSt w (((wr.setCell ⟨w.heap.size,0,none⟩ (.int .i64 r)).setCell ⟨w.heap.size,1,none⟩ (.int .i64 c)).setCell ⟨w.heap.size,2,none⟩ (.slice no n nc)) r c n no nc U :=
 have ne:w.heap.size+1 ≠ w.heap.size:=by omega
 ⟨below_putM h.bel (Nat.le_refl _) _ _ _,h.box.put _ _ _,((h.res.other (p:=⟨w.heap.size,0,none⟩) ne _).other (p:=⟨w.heap.size,1,none⟩) ne _).other (p:=⟨w.heap.size,2,none⟩) ne _,hU.putM h.box _ _ _⟩
theorem rflip_of (r c n cap:Nat) (ao:Option Addr) (rows cols:Bool) (S T U:List Nat) (w:World) (hS:BitsAt w ao cap (mxL S)) (l0:S.length = n) (l1:T.length = n) (l2:U.length = n) (hr:rows = false→T = S) (hc:cols = false→U = T)
  (C1:rows = true→∀ w',Below w.heap.size w w'→Calls Tryz.prog 22 #[.agg #[.int .i64 r,.int .i64 c,.slice ao n cap]] w' fun e w''=>∃ v,e = .returned v∧NewM 0 w'' r c T v∧Below w'.heap.size w' w'')
  (C2:cols = true→∀ w' po pc,BitsAt w' po pc (mxL T)→Calls Tryz.prog 23 #[.agg #[.int .i64 r,.int .i64 c,.slice po n pc]] w' fun e w''=>∃ v,e = .returned v∧NewM 0 w'' r c U v∧Below w'.heap.size w' w'') :
  Calls Tryz.prog 11 #[.agg #[.int .i64 r,.int .i64 c,.slice ao n cap],.bool rows,.bool cols] w fun e w'=>∃ v,e = .returned v∧NewM 0 w' r c U v∧Below w.heap.size w w':=by
 have LS:=hide (show FlSt w ((w.alloc (.cells #[.int .i64 r,.int .i64 c,.slice ao n cap] 24)).alloc (.cells #[.int .i64 0,.int .i64 0,.slice none 0 0] 24)) r c n ao cap S from by
  obtain ⟨hB,hA,hR⟩:=boxes2 w (.int .i64 r) (.int .i64 c) (.slice ao n cap) (.int .i64 0) (.int .i64 0) (.slice none 0 0) _ (Below.refl _ _)
  exact ⟨hB,hA,hR,hS.below hB⟩)
 have HS:=hide hS;have L0:=hide l0;have L1:=hide l1;have L2:=hide l2;have HR:=hide hr;have HC:=hide hc
 have K1:=hide C1;have K2:=hide C2
 clear hS l0 l1 l2 hr hc C1 C2
 cases rows
 ·obtain rfl:=uH HR rfl
  cases cols
  ·obtain rfl:=uH HC rfl
   clear K1 K2 HR HC
   obtain ⟨hB,hA,hR⟩:=boxes2 w (.int .i64 r) (.int .i64 c) (.slice ao n cap) (.int .i64 r) (.int .i64 c) (.slice ao n cap) _ (Below.refl _ _)
   have z0:=hR.c0;have z1:=hR.c1;have z2:=hR.c2
   have Q:=hide ((uH HS).below hB)
   have BP:=hide hB
   clear hB hA hR LS HS
   go_enter Tryz.func11,Tryz.ntmps11
   go_wp2_with fail
   refine bodyPost_ret (v:=.agg #[.int .i64 r,.int .i64 c,.slice ao n cap]) (by simp [results,Tryz.results11,go_sem,z0,z1,z2]) rfl ⟨_,rfl,?_,uH BP⟩
   have:=NewM.any (r:=r) (c:=c) (uH Q)
   rw [uH L0] at this
   exact this
  ·have G2:=hide (uH K2 rfl)
   clear K1 K2 HR HC HS
   have y0:=(uH LS).box.c0;have y1:=(uH LS).box.c1;have y2:=(uH LS).box.c2
   have r0:=(uH LS).res.c0;have r1:=(uH LS).res.c1;have r2:=(uH LS).res.c2
   have g0:=(uH LS).res.free 0;have g1:=(uH LS).res.free 1;have g2:=(uH LS).res.free 2
   go_enter Tryz.func11,Tryz.ntmps11
   go_wp2_with fail
   clear y0 y1 y2 r0 r1 r2 g0 g1 g2
   refine (uH G2 _ _ _ (uH LS).bits).mono ?_
   rintro e w2 ⟨v,rfl,⟨p2,c2,rfl,_,q1⟩,hb⟩
   replace LS:=hide ((uH LS).all hb)
   have X:=(uH LS).box
   have s0:=X.c0;have s1:=X.c1;have s2:=X.c2;have f0:=X.free 0;have f1:=X.free 1;have f2:=X.free 2
   replace LS:=hide ((uH LS).put (n:=n) q1)
   rw [uH L2]
   clear hb q1 X
   have y0:=(uH LS).box.c0;have y1:=(uH LS).box.c1;have y2:=(uH LS).box.c2
   have r0:=(uH LS).res.c0;have r1:=(uH LS).res.c1;have r2:=(uH LS).res.c2
   have g0:=(uH LS).res.free 0;have g1:=(uH LS).res.free 1;have g2:=(uH LS).res.free 2
   have XP:=(uH LS).res.put (.int .i64 r) (.int .i64 c) (.slice p2 n c2)
   have z0:=XP.c0;have z1:=XP.c1;have z2:=XP.c2
   have Q:=hide (BitsAt.putM (uH LS).bits (uH LS).res (.int .i64 r) (.int .i64 c) (.slice p2 n c2))
   have BP:=hide (below_putM (uH LS).bel (b:=w.heap.size+1) (by omega) (.int .i64 r) (.int .i64 c) (.slice p2 n c2))
   clear XP LS
   go_wp2_with fail
   refine bodyPost_ret (v:=.agg #[.int .i64 r,.int .i64 c,.slice p2 n c2]) (by simp [results,Tryz.results11,go_sem,z0,z1,z2]) rfl ⟨_,rfl,?_,uH BP⟩
   have:=NewM.any (r:=r) (c:=c) (uH Q)
   rw [uH L2] at this
   exact this
 ·have G1:=hide (uH K1 rfl)
  clear HS
  cases cols
  ·obtain rfl:=uH HC rfl
   clear K1 K2 HR HC
   go_enter Tryz.func11,Tryz.ntmps11
   go_wp2_with fail
   refine (uH G1 _ (uH LS).bel).mono ?_
   rintro e w1 ⟨v,rfl,⟨p1,c1,rfl,_,q1⟩,hb⟩
   replace LS:=hide ((uH LS).all hb)
   have X:=(uH LS).box
   have s0:=X.c0;have s1:=X.c1;have s2:=X.c2;have f0:=X.free 0;have f1:=X.free 1;have f2:=X.free 2
   replace LS:=hide ((uH LS).put (n:=n) q1)
   rw [uH L1]
   clear hb q1 X
   have y0:=(uH LS).box.c0;have y1:=(uH LS).box.c1;have y2:=(uH LS).box.c2
   have r0:=(uH LS).res.c0;have r1:=(uH LS).res.c1;have r2:=(uH LS).res.c2
   have g0:=(uH LS).res.free 0;have g1:=(uH LS).res.free 1;have g2:=(uH LS).res.free 2
   have XP:=(uH LS).res.put (.int .i64 r) (.int .i64 c) (.slice p1 n c1)
   have z0:=XP.c0;have z1:=XP.c1;have z2:=XP.c2
   have Q:=hide (BitsAt.putM (uH LS).bits (uH LS).res (.int .i64 r) (.int .i64 c) (.slice p1 n c1))
   have BP:=hide (below_putM (uH LS).bel (b:=w.heap.size+1) (by omega) (.int .i64 r) (.int .i64 c) (.slice p1 n c1))
   clear XP LS
   go_wp2_with fail
   refine bodyPost_ret (v:=.agg #[.int .i64 r,.int .i64 c,.slice p1 n c1]) (by simp [results,Tryz.results11,go_sem,z0,z1,z2]) rfl ⟨_,rfl,?_,uH BP⟩
   have:=NewM.any (r:=r) (c:=c) (uH Q)
   rw [uH L1] at this
   exact this
  ·have G2:=hide (uH K2 rfl)
   clear K1 K2 HR HC
   go_enter Tryz.func11,Tryz.ntmps11
   go_wp2_with fail
   refine (uH G1 _ (uH LS).bel).mono ?_
   rintro e w1 ⟨v,rfl,⟨p1,c1,rfl,_,q1⟩,hb⟩
   replace LS:=hide ((uH LS).all hb)
   have X:=(uH LS).box
   have s0:=X.c0;have s1:=X.c1;have s2:=X.c2;have f0:=X.free 0;have f1:=X.free 1;have f2:=X.free 2
   replace LS:=hide ((uH LS).put (n:=n) q1)
   rw [uH L1]
   clear hb q1 X
   have y0:=(uH LS).box.c0;have y1:=(uH LS).box.c1;have y2:=(uH LS).box.c2
   have r0:=(uH LS).res.c0;have r1:=(uH LS).res.c1;have r2:=(uH LS).res.c2
   have g0:=(uH LS).res.free 0;have g1:=(uH LS).res.free 1;have g2:=(uH LS).res.free 2
   clear r0 r1 r2 g0 g1 g2
   go_wp2_with fail
   clear y0 y1 y2 s0 s1 s2 f0 f1 f2
   refine (uH G2 _ _ _ (uH LS).bits).mono ?_
   rintro e w2 ⟨v,rfl,⟨p2,c2,rfl,_,q1⟩,hb⟩
   replace LS:=hide ((uH LS).all hb)
   have X:=(uH LS).box
   have s0:=X.c0;have s1:=X.c1;have s2:=X.c2;have f0:=X.free 0;have f1:=X.free 1;have f2:=X.free 2
   replace LS:=hide ((uH LS).put (n:=n) q1)
   rw [uH L2]
   clear hb q1 X
   have y0:=(uH LS).box.c0;have y1:=(uH LS).box.c1;have y2:=(uH LS).box.c2
   have r0:=(uH LS).res.c0;have r1:=(uH LS).res.c1;have r2:=(uH LS).res.c2
   have g0:=(uH LS).res.free 0;have g1:=(uH LS).res.free 1;have g2:=(uH LS).res.free 2
   have XP:=(uH LS).res.put (.int .i64 r) (.int .i64 c) (.slice p2 n c2)
   have z0:=XP.c0;have z1:=XP.c1;have z2:=XP.c2
   have Q:=hide (BitsAt.putM (uH LS).bits (uH LS).res (.int .i64 r) (.int .i64 c) (.slice p2 n c2))
   have BP:=hide (below_putM (uH LS).bel (b:=w.heap.size+1) (by omega) (.int .i64 r) (.int .i64 c) (.slice p2 n c2))
   clear XP LS
   go_wp2_with fail
   refine bodyPost_ret (v:=.agg #[.int .i64 r,.int .i64 c,.slice p2 n c2]) (by simp [results,Tryz.results11,go_sem,z0,z1,z2]) rfl ⟨_,rfl,?_,uH BP⟩
   have:=NewM.any (r:=r) (c:=c) (uH Q)
   rw [uH L2] at this
   exact this
def flM (r c:Nat) (rows cols:Bool) (S:List Nat):List Nat:=if cols = true then lfM r c (if rows = true then dnM r c S else S) else if rows = true then dnM r c S else S
theorem fl_len (r c:Nat) (rows cols:Bool) (S:List Nat) (h:S.length = r * c):(flM r c rows cols S).length = r * c:=by
 unfold flM
 cases cols <;> cases rows
 ·exact h
 ·exact dn_len _ _ _
 ·exact lf_len _ _ _
 ·exact lf_len _ _ _
theorem rflip_any (r c cap:Nat) (rows cols:Bool) (ao:Option Addr) (S:List Nat) (w:World) (h:Mx w ao cap r c S) :
  Calls Tryz.prog 11 #[.agg #[.int .i64 r,.int .i64 c,.slice ao S.length cap],.bool rows,.bool cols] w fun e w'=>∃ v,e = .returned v∧NewM 0 w' r c (flM r c rows cols S) v∧Below w.heap.size w w':=by
 have hl:=h.2.1
 have l1:(if rows = true then dnM r c S else S).length = S.length:=by
  cases rows
  ·rfl
  ·exact (dn_len _ _ _).trans hl.symm
 refine rflip_of r c S.length cap ao rows cols S (if rows = true then dnM r c S else S) (flM r c rows cols S) w h.1 rfl l1 ((fl_len _ _ _ _ _ hl).trans hl.symm) (fun e=>by rw [e];rfl) (fun e=>by rw [e];rfl) ?_ ?_
 ·rintro rfl w' hb
  exact rdown_any r c cap ao S w' (h.below hb)
 ·rintro rfl w' po pc hq
  have:=rleft_any r c pc po _ w' ⟨hq,l1.trans hl,h.2.2.1,h.2.2.2⟩
  rw [l1] at this
  exact this
theorem lqL_len (r c:Nat) (S:List Nat):(lqL r c S).length = r * c:=tu_len _ _ _
end Go.Proofs.YtenpggicmfhhdaaGreatDoor
