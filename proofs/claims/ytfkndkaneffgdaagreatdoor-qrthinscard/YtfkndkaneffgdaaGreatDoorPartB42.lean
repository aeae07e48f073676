/- Part 42 of the texts. -/
import Derived.Test.YtfkndkaneffgdaaGreatDoorPartB41
import Derived.Test.YtfkndkaneffgdaaGreatDoorPartB34
import Derived.Test.YtfkndkaneffgdaaGreatDoorPartB40
namespace Go.Proofs.YtfkndkaneffgdaaGreatDoor
open Go.RowKit
theorem q345_fin:finL (apM 2 2 (eyM 2) 0 0 [4607182418800017408,4602678819172646912] 4609884578576439706) = true:=by decide +kernel
theorem t345:mrT [4613937818241073152,4616189618054758400] = 4609884578576439706:=by
 obtain ⟨_,_,_,_,_,_,_,_,_,h10,_⟩:=w13_facts
 show (if ngt [4616189618054758400] = true then 0 else dV (aV (hmB 4613937818241073152 [4616189618054758400]) (fN 4613937818241073152)) (hmB 4613937818241073152 [4616189618054758400])) = _
 rw [if_neg (by rw [h10];decide),hm_345.1]
 exact q345_facts.1
theorem x345:qrX 2 1 [4613937818241073152,4616189618054758400] 0 = [4613937818241073152,4616189618054758400]:=rfl
theorem r345:facR 2 1 [4613937818241073152,4616189618054758400] = [13840687554816376832,0]:=by
 show clM 2 1 (apM 2 1 [4613937818241073152,4616189618054758400] 0 0 (mrV (qxL 2 1 [4613937818241073152,4616189618054758400] 0)) (mrT (qxL 2 1 [4613937818241073152,4616189618054758400] 0))) 0 (mrB (qxL 2 1 [4613937818241073152,4616189618054758400] 0)) = _
 have e:qxL 2 1 [4613937818241073152,4616189618054758400] 0 = [4613937818241073152,4616189618054758400]:=rfl
 rw [e,mr_345.1]
 generalize apM 2 1 [4613937818241073152,4616189618054758400] 0 0 _ _ = T
 rfl
theorem k345:facK 2 1 [4613937818241073152,4616189618054758400] = true:=by
 have eN:qrN 2 1 = 1:=rfl
 have eQ:facQ 2 1 [4613937818241073152,4616189618054758400] = apM 2 2 (eyM 2) 0 0 (mrV [4613937818241073152,4616189618054758400]) (mrT [4613937818241073152,4616189618054758400]):=rfl
 have k1:qrK 2 1 [4613937818241073152,4616189618054758400] (qrN 2 1) = true:=by
  rw [eN,qrK_all]
  intro j hj
  obtain rfl:j = 0:=by omega
  rw [x345]
  refine ⟨?_,mr_345.2.2⟩
  show ((true && fFin 4613937818241073152) && fFin 4616189618054758400) = true
  rw [w13_facts.2.1,w13_facts.2.2.2.2.2.2.2.2.2.2.2.2]
  rfl
 unfold facK
 rw [k1,eQ,mr_345.2.1,t345,q345_fin,r345]
 show (true && (true && ((true && fFin 13840687554816376832) && fFin 0))) = true
 rw [w13_facts.2.2.2.2.2.2.2.2.2.2.1]
 decide +kernel
theorem qr_awake (w:World)
  (CY:∀ w' ao cap (r c:Nat) S,Below w.heap.size w w'→Mx w' ao cap r c S→finL S = true→facK r c S = true→Calls Tryz.prog 8 #[.agg #[.int .i64 r,.int .i64 c,.slice ao S.length cap]] w' fun e w''=>∃ v u,e = .returned (.tuple #[v,u,.int .i64 0])∧NewM w'.heap.size w'' r r (facQ r c S) v∧NewM w'.heap.size w'' r c (facR r c S) u∧Below w'.heap.size w' w'') :
  ∀ w',Below w.heap.size w w'→Calls Tryz.prog 11 #[] w' fun e w''=>e = .returned (.bool true)∧Below w'.heap.size w' w'':=by
 intro w' hb
 refine awake14_of w' (fun w2 ao hb2 hI=>?_)
 have hM:Mx w2 ao 2 2 1 [4613937818241073152,4616189618054758400]:=⟨hI,rfl,by decide,by decide⟩
 have hf:finL [4613937818241073152,4616189618054758400] = true:=by
  show ((true && fFin 4613937818241073152) && fFin 4616189618054758400) = true
  rw [w13_facts.2.1,w13_facts.2.2.2.2.2.2.2.2.2.2.2.2]
  rfl
 refine (CY w2 ao 2 2 1 _ (hb.trans (hb2.mono hb.size)) hM hf k345).mono ?_
 rintro e w3 ⟨v,u,rfl,⟨qo,qc,rfl,_,_⟩,⟨ro,rc,rfl,_,hr⟩,hb3⟩
 rw [r345] at hr ⊢
 exact ⟨_,_,qo,_,qc,ro,rc,rfl,hr,hb3⟩
end Go.Proofs.YtfkndkaneffgdaaGreatDoor
namespace Go.Proofs.YtfkndkaneffgdaaGreatDoor
open Go.RowKit
attribute [local go_sem ↓] Go.wp_at_zero Go.wp_at_succ
structure UpSt (w wr:World) (g:Nat) (a0 a1 a2 q0 q1 q2 r0 r1 r2:Value):Prop where
 bel:Below w.heap.size w wr
 a:BoxM wr w.heap.size a0 a1 a2
 q:BoxM wr g q0 q1 q2
 r:BoxM wr (g+1) r0 r1 r2
theorem UpSt.all {w wr w':World} {g:Nat} {a0 a1 a2 q0 q1 q2 r0 r1 r2:Value} (h:UpSt w wr g a0 a1 a2 q0 q1 q2 r0 r1 r2) (hb:Below wr.heap.size wr w'):UpSt w w' g a0 a1 a2 q0 q1 q2 r0 r1 r2 :=
 ⟨h.bel.trans (hb.mono h.bel.size),h.a.all hb,h.q.all hb,h.r.all hb⟩
theorem UpSt.start {w w1:World} {a0 a1 a2:Value} (hB:Below w.heap.size w w1) (hA:BoxM w1 w.heap.size a0 a1 a2) (q0 q1 q2 r0 r1 r2:Value):UpSt w ((w1.alloc (.cells #[q0,q1,q2] 24)).alloc (.cells #[r0,r1,r2] 24)) w1.heap.size a0 a1 a2 q0 q1 q2 r0 r1 r2∧Below w1.heap.size w1 ((w1.alloc (.cells #[q0,q1,q2] 24)).alloc (.cells #[r0,r1,r2] 24)):=by
 have ba:=below_alloc9 w1 (.cells #[q0,q1,q2] 24)
 have za:=size_alloc9 w1 (.cells #[q0,q1,q2] 24)
 have bb:=below_alloc9 (w1.alloc (.cells #[q0,q1,q2] 24)) (.cells #[r0,r1,r2] 24)
 have xb:=BoxM.new (w1.alloc (.cells #[q0,q1,q2] 24)) r0 r1 r2
 rw [za] at xb
 have bc:=ba.trans (bb.mono ba.size)
 exact ⟨⟨hB.trans (bc.mono hB.size),hA.all bc,(BoxM.new w1 q0 q1 q2).all bb,xb⟩,bc⟩
end Go.Proofs.YtfkndkaneffgdaaGreatDoor
namespace Go.Proofs.YtfkndkaneffgdaaGreatDoor
open Go.RowKit
attribute [local go_sem ↓] Go.wp_at_zero Go.wp_at_succ
def ThAns (w':World) (ok:Bool) (r k c:Nat) (Q R:List Nat) (e:Ending):Prop :=
 (ok = true∧∃ qo qc ro rc,e = .returned (.agg #[.int .i64 r,.int .i64 k,.slice qo Q.length qc,.int .i64 k,.int .i64 c,.slice ro R.length rc,.bool true])∧BitsAt w' qo qc (mxL Q)∧BitsAt w' ro rc (mxL R)) ∨
 (ok = false∧e = .returned (.agg #[.int .i64 0,.int .i64 0,.slice none 0 0,.int .i64 0,.int .i64 0,.slice none 0 0,.bool false]))
structure ThSt (w wr:World) (g:Nat) (r c n cap:Nat) (ao:Option Addr) (x0 x1:Int) (x2:Value) (x3 x4:Int) (x5:Value) (ok:Bool):Prop where
 bel:Below w.heap.size w wr
 a:BoxM wr w.heap.size (.int .i64 r) (.int .i64 c) (.slice ao n cap)
 res:BoxW wr (w.heap.size+1) (.int .i64 0) (.int .i64 0) (.slice none 0 0) (.int .i64 0) (.int .i64 0) (.slice none 0 0) (.bool false)
 t:BoxW wr g (.int .i64 x0) (.int .i64 x1) x2 (.int .i64 x3) (.int .i64 x4) x5 (.bool ok)
theorem ThSt.all {w wr w':World} {g r c n cap:Nat} {ao:Option Addr} {x0 x1:Int} {x2:Value} {x3 x4:Int} {x5:Value} {ok:Bool} (h:ThSt w wr g r c n cap ao x0 x1 x2 x3 x4 x5 ok) (hb:Below wr.heap.size wr w'):ThSt w w' g r c n cap ao x0 x1 x2 x3 x4 x5 ok :=
 ⟨h.bel.trans (hb.mono h.bel.size),h.a.all hb,h.res.all hb,h.t.all hb⟩
theorem thin_boxes (w:World) (r c n cap:Nat) (ao:Option Addr):Below w.heap.size w ((w.alloc (.cells #[.int .i64 r,.int .i64 c,.slice ao n cap] 24)).alloc (.cells #[.int .i64 0,.int .i64 0,.slice none 0 0,.int .i64 0,.int .i64 0,.slice none 0 0,.bool false] 34))∧BoxM ((w.alloc (.cells #[.int .i64 r,.int .i64 c,.slice ao n cap] 24)).alloc (.cells #[.int .i64 0,.int .i64 0,.slice none 0 0,.int .i64 0,.int .i64 0,.slice none 0 0,.bool false] 34)) w.heap.size (.int .i64 r) (.int .i64 c) (.slice ao n cap)∧BoxW ((w.alloc (.cells #[.int .i64 r,.int .i64 c,.slice ao n cap] 24)).alloc (.cells #[.int .i64 0,.int .i64 0,.slice none 0 0,.int .i64 0,.int .i64 0,.slice none 0 0,.bool false] 34)) (w.heap.size+1) (.int .i64 0) (.int .i64 0) (.slice none 0 0) (.int .i64 0) (.int .i64 0) (.slice none 0 0) (.bool false):=by
 have b0:=below_alloc9 w (.cells #[.int .i64 r,.int .i64 c,.slice ao n cap] 24)
 have s0:=size_alloc9 w (.cells #[.int .i64 r,.int .i64 c,.slice ao n cap] 24)
 have x0:=BoxM.new w (.int .i64 r) (.int .i64 c) (.slice ao n cap)
 generalize w.alloc (.cells #[.int .i64 r,.int .i64 c,.slice ao n cap] 24) = w0 at *
 have b1:=below_alloc9 w0 (.cells #[.int .i64 0,.int .i64 0,.slice none 0 0,.int .i64 0,.int .i64 0,.slice none 0 0,.bool false] 34)
 have x1:=BoxW.new w0 (.int .i64 0) (.int .i64 0) (.slice none 0 0) (.int .i64 0) (.int .i64 0) (.slice none 0 0) (.bool false)
 rw [s0] at x1
 exact ⟨b0.trans (b1.mono b0.size),x0.all b1,x1⟩
theorem ThSt.held {w wr:World} {g r c n cap:Nat} {ao:Option Addr} {x0 x1:Int} {x2:Value} {x3 x4:Int} {x5:Value} {ok:Bool} (h:ThSt w wr g r c n cap ao x0 x1 x2 x3 x4 x5 ok):(wr.cell? ⟨w.heap.size,0,none⟩ = some (.int .i64 (r:Nat))∧wr.cell? ⟨w.heap.size,1,none⟩ = some (.int .i64 (c:Nat)))∧(wr.cell? ⟨g,0,none⟩ = some (.int .i64 x0)∧wr.cell? ⟨g,1,none⟩ = some (.int .i64 x1)∧wr.cell? ⟨g,2,none⟩ = some x2∧wr.cell? ⟨g,3,none⟩ = some (.int .i64 x3)∧wr.cell? ⟨g,4,none⟩ = some (.int .i64 x4)∧wr.cell? ⟨g,5,none⟩ = some x5):=⟨⟨h.a.c0,h.a.c1⟩,h.t.c0,h.t.c1,h.t.c2,h.t.c3,h.t.c4,h.t.c5⟩
theorem ThSt.put {w wr:World} {g r c n cap:Nat} {ao:Option Addr} {x0 x1:Int} {x2:Value} {x3 x4:Int} {x5:Value} {ok:Bool} (h:ThSt w wr g r c n cap ao x0 x1 x2 x3 x4 x5 ok) (hg:w.heap.size+1 < g) (u0 u1 u2 u3 u4 u5 u6:Value):((((((((wr.setCell ⟨w.heap.size+1,0,none⟩ u0).setCell ⟨w.heap.size+1,1,none⟩ u1).setCell ⟨w.heap.size+1,2,none⟩ u2).setCell ⟨w.heap.size+1,3,none⟩ u3).setCell ⟨w.heap.size+1,4,none⟩ u4).setCell ⟨w.heap.size+1,5,none⟩ u5).setCell ⟨w.heap.size+1,6,none⟩ u6).cell? ⟨w.heap.size,0,none⟩ = some (.int .i64 (r:Nat))∧(((((((wr.setCell ⟨w.heap.size+1,0,none⟩ u0).setCell ⟨w.heap.size+1,1,none⟩ u1).setCell ⟨w.heap.size+1,2,none⟩ u2).setCell ⟨w.heap.size+1,3,none⟩ u3).setCell ⟨w.heap.size+1,4,none⟩ u4).setCell ⟨w.heap.size+1,5,none⟩ u5).setCell ⟨w.heap.size+1,6,none⟩ u6).cell? ⟨w.heap.size,1,none⟩ = some (.int .i64 (c:Nat)))∧((((((((wr.setCell ⟨w.heap.size+1,0,none⟩ u0).setCell ⟨w.heap.size+1,1,none⟩ u1).setCell ⟨w.heap.size+1,2,none⟩ u2).setCell ⟨w.heap.size+1,3,none⟩ u3).setCell ⟨w.heap.size+1,4,none⟩ u4).setCell ⟨w.heap.size+1,5,none⟩ u5).setCell ⟨w.heap.size+1,6,none⟩ u6).cell? ⟨g,0,none⟩ = some (.int .i64 x0)∧(((((((wr.setCell ⟨w.heap.size+1,0,none⟩ u0).setCell ⟨w.heap.size+1,1,none⟩ u1).setCell ⟨w.heap.size+1,2,none⟩ u2).setCell ⟨w.heap.size+1,3,none⟩ u3).setCell ⟨w.heap.size+1,4,none⟩ u4).setCell ⟨w.heap.size+1,5,none⟩ u5).setCell ⟨w.heap.size+1,6,none⟩ u6).cell? ⟨g,1,none⟩ = some (.int .i64 x1)∧(((((((wr.setCell ⟨w.heap.size+1,0,none⟩ u0).setCell ⟨w.heap.size+1,1,none⟩ u1).setCell ⟨w.heap.size+1,2,none⟩ u2).setCell ⟨w.heap.size+1,3,none⟩ u3).setCell ⟨w.heap.size+1,4,none⟩ u4).setCell ⟨w.heap.size+1,5,none⟩ u5).setCell ⟨w.heap.size+1,6,none⟩ u6).cell? ⟨g,2,none⟩ = some x2∧(((((((wr.setCell ⟨w.heap.size+1,0,none⟩ u0).setCell ⟨w.heap.size+1,1,none⟩ u1).setCell ⟨w.heap.size+1,2,none⟩ u2).setCell ⟨w.heap.size+1,3,none⟩ u3).setCell ⟨w.heap.size+1,4,none⟩ u4).setCell ⟨w.heap.size+1,5,none⟩ u5).setCell ⟨w.heap.size+1,6,none⟩ u6).cell? ⟨g,3,none⟩ = some (.int .i64 x3)∧(((((((wr.setCell ⟨w.heap.size+1,0,none⟩ u0).setCell ⟨w.heap.size+1,1,none⟩ u1).setCell ⟨w.heap.size+1,2,none⟩ u2).setCell ⟨w.heap.size+1,3,none⟩ u3).setCell ⟨w.heap.size+1,4,none⟩ u4).setCell ⟨w.heap.size+1,5,none⟩ u5).setCell ⟨w.heap.size+1,6,none⟩ u6).cell? ⟨g,4,none⟩ = some (.int .i64 x4)∧(((((((wr.setCell ⟨w.heap.size+1,0,none⟩ u0).setCell ⟨w.heap.size+1,1,none⟩ u1).setCell ⟨w.heap.size+1,2,none⟩ u2).setCell ⟨w.heap.size+1,3,none⟩ u3).setCell ⟨w.heap.size+1,4,none⟩ u4).setCell ⟨w.heap.size+1,5,none⟩ u5).setCell ⟨w.heap.size+1,6,none⟩ u6).cell? ⟨g,5,none⟩ = some x5):=by
 have n0:w.heap.size ≠ w.heap.size+1:=by omega
 have n1:g ≠ w.heap.size+1:=by omega
 have A:=(((((((h.a.other (p:=⟨w.heap.size+1,0,none⟩) n0 u0).other (p:=⟨w.heap.size+1,1,none⟩) n0 u1).other (p:=⟨w.heap.size+1,2,none⟩) n0 u2).other (p:=⟨w.heap.size+1,3,none⟩) n0 u3).other (p:=⟨w.heap.size+1,4,none⟩) n0 u4).other (p:=⟨w.heap.size+1,5,none⟩) n0 u5).other (p:=⟨w.heap.size+1,6,none⟩) n0 u6)
 have T:=(((((((h.t.other (p:=⟨w.heap.size+1,0,none⟩) n1 u0).other (p:=⟨w.heap.size+1,1,none⟩) n1 u1).other (p:=⟨w.heap.size+1,2,none⟩) n1 u2).other (p:=⟨w.heap.size+1,3,none⟩) n1 u3).other (p:=⟨w.heap.size+1,4,none⟩) n1 u4).other (p:=⟨w.heap.size+1,5,none⟩) n1 u5).other (p:=⟨w.heap.size+1,6,none⟩) n1 u6)
 exact ⟨⟨A.c0,A.c1⟩,T.c0,T.c1,T.c2,T.c3,T.c4,T.c5⟩
set_option maxRecDepth 20000 in
set_option maxHeartbeats 8000000 in
theorem rthin_of (r c n nq k cap:Nat) (ao:Option Addr) (Q R TQ TR:List Nat) (ok:Bool) (w:World) (hk:k = min r c) (hr:r≤6) (hc:c≤6)
  (C1:∀ w',Below w.heap.size w w'→Calls Tryz.prog 12 #[.agg #[.int .i64 r,.int .i64 c,.slice ao n cap]] w' fun e w''=>FacAns w'' ok r c nq n Q R e∧Below w'.heap.size w' w'')
  (C2:∀ w' qo qc,BitsAt w' qo qc (mxL Q)→Calls Tryz.prog 32 #[.agg #[.int .i64 r,.int .i64 r,.slice qo nq qc],.int .i64 0,.int .i64 0,.int .i64 r,.int .i64 k] w' fun e w''=>∃ po pc,e = .returned (.agg #[.int .i64 r,.int .i64 k,.slice po TQ.length pc])∧BitsAt w'' po pc (mxL TQ)∧Below w'.heap.size w' w'')
  (C3:∀ w' ro rc,BitsAt w' ro rc (mxL R)→Calls Tryz.prog 32 #[.agg #[.int .i64 r,.int .i64 c,.slice ro n rc],.int .i64 0,.int .i64 0,.int .i64 k,.int .i64 c] w' fun e w''=>∃ po pc,e = .returned (.agg #[.int .i64 k,.int .i64 c,.slice po TR.length pc])∧BitsAt w'' po pc (mxL TR)∧Below w'.heap.size w' w'') :
  Calls Tryz.prog 14 #[.agg #[.int .i64 r,.int .i64 c,.slice ao n cap]] w fun e w'=>ThAns w' ok r k c TQ TR e∧Below w.heap.size w w':=by
 obtain ⟨hB,hA,hX⟩:=thin_boxes w r c n cap ao
 have HB:=hide hB;have HA:=hide hA;have HX:=hide hX
 have K1:=hide C1;have K2:=hide C2;have K3:=hide C3
 clear hB hA hX C1 C2 C3
 go_enter Tryz.func14,Tryz.ntmps14
 go_wp2_with fail
 refine (uH K1 _ (uH HB)).mono ?_
 rintro e w1 ⟨ans,hb⟩
 have hB1:=(uH HB).trans (hb.mono (uH HB).size)
 have hA1:=(uH HA).all hb
 have hX1:=(uH HX).all hb
 clear K1 HB HA HX hb
 rcases ans with ⟨rfl,qo,qc,ro,rc,rfl,bq,br⟩ | ⟨rfl,rfl⟩
 ·have ba:=below_alloc9 w1 (.cells #[.int .i64 r,.int .i64 r,.slice qo nq qc,.int .i64 r,.int .i64 c,.slice ro n rc,.bool true] 34)
  have ST:=hide (show ThSt w (w1.alloc (.cells #[.int .i64 r,.int .i64 r,.slice qo nq qc,.int .i64 r,.int .i64 c,.slice ro n rc,.bool true] 34)) w1.heap.size r c n cap ao r r (.slice qo nq qc) r c (.slice ro n rc) true from ⟨hB1.trans (ba.mono hB1.size),hA1.all ba,hX1.all ba,BoxW.new w1 _ _ _ _ _ _ _⟩)
  have BQ:=hide (bq.below ba);have BR:=hide (br.below ba)
  have HG:=hide (show w.heap.size+1 < w1.heap.size from hX1.lt)
  clear ba hB1 hA1 hX1 bq br
  have t6:=(uH ST).t.c6
  have a0:=(uH ST).a.c0;have a1:=(uH ST).a.c1
  rcases (show ((r:Int)≤(c:Int)∧k = r) ∨ ((c:Int) < (r:Int)∧k = c) by omega) with ⟨hrc,rfl⟩ | ⟨hrc,rfl⟩
  ·clear hk
   go_wp2_with fail
   clear t6 a0 a1
   generalize w1.heap.size = g at *
   refine at_world (fun W=>ThSt w W g k c n cap ao k k (.slice qo nq qc) k c (.slice ro n rc) true∧BitsAt W qo qc (mxL Q)∧BitsAt W ro rc (mxL R)) ⟨uH ST,uH BQ,uH BR⟩ ?_
   clear ST BQ BR
   rintro W ⟨st,bq,br⟩
   have hd:=(Below.refl W.heap.size W).drew
   have ST:=hide (st.all hd);have BQ:=hide (bq.below hd);have BR:=hide (br.below hd)
   clear st bq br hd
   refine wp_region_held_drew (S:=(fun w'=>(w'.cell? ⟨w.heap.size,0,none⟩ = some (.int .i64 (k:Nat))∧w'.cell? ⟨w.heap.size,1,none⟩ = some (.int .i64 (c:Nat)))∧(w'.cell? ⟨g,0,none⟩ = some (.int .i64 (k:Nat))∧w'.cell? ⟨g,1,none⟩ = some (.int .i64 (k:Nat))∧w'.cell? ⟨g,2,none⟩ = some (.slice qo nq qc)∧w'.cell? ⟨g,3,none⟩ = some (.int .i64 (k:Nat))∧w'.cell? ⟨g,4,none⟩ = some (.int .i64 (c:Nat))∧w'.cell? ⟨g,5,none⟩ = some (.slice ro n rc)))) (by kernel_rfl) ?_ (fun hHeld=>?_)
   ·exact (uH ST).held
   refine wpAnyH_take (i:=0) (oi:={ dst:=some 16,op:=Op.fieldAddr 34 (Operand.tmp 3) 0,type:=0,pos := "ref.go:59",after:=#[],guard:=none }) (v:=(Value.pointer (some ⟨g,0,none⟩))) rfl (by kernel_rfl) (by kernel_rfl) (by kernel_rfl) (fun _ _ _ h=>h) (Or.inl ⟨by rfl,?_⟩) (by assumption) ?_
   ·(intro w hSw;(try dsimp only at hSw);go_simp)
   simp only [Act.put,List.setIfInBounds_toArray,List.set_cons_zero,List.set_cons_succ]
   refine wpAnyH_take (i:=1) (oi:={ dst:=some 17,op:=Op.load 24 (Operand.tmp 16),type:=24,pos := "ref.go:59",after:=#[{ on:=0,ground:=Ground.data }],guard:=none }) (v:=(Value.agg #[.int .i64 (k:Nat),.int .i64 (k:Nat),.slice qo nq qc])) rfl (by kernel_rfl) (by kernel_rfl) (by kernel_rfl) (fun _ _ _ h=>h) (Or.inl ⟨by rfl,?_⟩) (by assumption) ?_
   ·(intro w hSw;(try dsimp only at hSw);go_simp)
   simp only [Act.put,List.setIfInBounds_toArray,List.set_cons_zero,List.set_cons_succ]
   refine wpAnyH_take (i:=2) (oi:={ dst:=some 18,op:=Op.fieldAddr 24 (Operand.tmp 1) 0,type:=0,pos := "ref.go:59",after:=#[],guard:=none }) (v:=(Value.pointer (some ⟨w.heap.size,0,none⟩))) rfl (by kernel_rfl) (by kernel_rfl) (by kernel_rfl) (fun _ _ _ h=>h) (Or.inl ⟨by rfl,?_⟩) (by assumption) ?_
   ·(intro w hSw;(try dsimp only at hSw);go_simp)
   simp only [Act.put,List.setIfInBounds_toArray,List.set_cons_zero,List.set_cons_succ]
   refine wpAnyH_take (i:=3) (oi:={ dst:=some 19,op:=Op.load 3 (Operand.tmp 18),type:=3,pos := "ref.go:59",after:=#[{ on:=2,ground:=Ground.data }],guard:=none }) (v:=(Value.int .i64 (k:Nat))) rfl (by kernel_rfl) (by kernel_rfl) (by kernel_rfl) (fun _ _ _ h=>h) (Or.inl ⟨by rfl,?_⟩) (by assumption) ?_
   ·(intro w hSw;(try dsimp only at hSw);go_simp)
   simp only [Act.put,List.setIfInBounds_toArray,List.set_cons_zero,List.set_cons_succ]
   refine wpAnyH_take (i:=4) (oi:={ dst:=some 20,op:=Op.move (Operand.tmp 4),type:=3,pos := "ref.go:59",after:=#[],guard:=none }) (v:=(Value.int .i64 (k:Nat))) rfl (by kernel_rfl) (by kernel_rfl) (by kernel_rfl) (fun _ _ _ h=>h) (Or.inl ⟨by rfl,?_⟩) (by assumption) ?_
   ·(intro w hSw;(try dsimp only at hSw);go_simp)
   simp only [Act.put,List.setIfInBounds_toArray,List.set_cons_zero,List.set_cons_succ]
   refine wpAnyH_take (i:=6) (oi:={ dst:=some 22,op:=Op.fieldAddr 34 (Operand.tmp 3) 1,type:=0,pos := "ref.go:59",after:=#[],guard:=none }) (v:=(Value.pointer (some ⟨g,3,none⟩))) rfl (by kernel_rfl) (by kernel_rfl) (by kernel_rfl) (fun _ _ _ h=>h) (Or.inl ⟨by rfl,?_⟩) (by assumption) ?_
   ·(intro w hSw;(try dsimp only at hSw);go_simp)
   simp only [Act.put,List.setIfInBounds_toArray,List.set_cons_zero,List.set_cons_succ]
   refine wpAnyH_take (i:=7) (oi:={ dst:=some 23,op:=Op.load 24 (Operand.tmp 22),type:=24,pos := "ref.go:59",after:=#[{ on:=6,ground:=Ground.data }],guard:=none }) (v:=(Value.agg #[.int .i64 (k:Nat),.int .i64 (c:Nat),.slice ro n rc])) rfl (by kernel_rfl) (by kernel_rfl) (by kernel_rfl) (fun _ _ _ h=>h) (Or.inl ⟨by rfl,?_⟩) (by assumption) ?_
   ·(intro w hSw;(try dsimp only at hSw);go_simp)
   simp only [Act.put,List.setIfInBounds_toArray,List.set_cons_zero,List.set_cons_succ]
   refine wpAnyH_take (i:=8) (oi:={ dst:=some 24,op:=Op.move (Operand.tmp 4),type:=3,pos := "ref.go:59",after:=#[],guard:=none }) (v:=(Value.int .i64 (k:Nat))) rfl (by kernel_rfl) (by kernel_rfl) (by kernel_rfl) (fun _ _ _ h=>h) (Or.inl ⟨by rfl,?_⟩) (by assumption) ?_
   ·(intro w hSw;(try dsimp only at hSw);go_simp)
   simp only [Act.put,List.setIfInBounds_toArray,List.set_cons_zero,List.set_cons_succ]
   refine wpAnyH_take (i:=9) (oi:={ dst:=some 25,op:=Op.fieldAddr 24 (Operand.tmp 1) 1,type:=0,pos := "ref.go:59",after:=#[],guard:=none }) (v:=(Value.pointer (some ⟨w.heap.size,1,none⟩))) rfl (by kernel_rfl) (by kernel_rfl) (by kernel_rfl) (fun _ _ _ h=>h) (Or.inl ⟨by rfl,?_⟩) (by assumption) ?_
   ·(intro w hSw;(try dsimp only at hSw);go_simp)
   simp only [Act.put,List.setIfInBounds_toArray,List.set_cons_zero,List.set_cons_succ]
   refine wpAnyH_take (i:=10) (oi:={ dst:=some 26,op:=Op.load 3 (Operand.tmp 25),type:=3,pos := "ref.go:59",after:=#[{ on:=9,ground:=Ground.data }],guard:=none }) (v:=(Value.int .i64 (c:Nat))) rfl (by kernel_rfl) (by kernel_rfl) (by kernel_rfl) (fun _ _ _ h=>h) (Or.inl ⟨by rfl,?_⟩) (by assumption) ?_
   ·(intro w hSw;(try dsimp only at hSw);go_simp)
   simp only [Act.put,List.setIfInBounds_toArray,List.set_cons_zero,List.set_cons_succ]
   refine wpAnyH_ready (rs:=[5]) (by kernel_rfl) (by simp) ?_
   refine AllReadyH.cons (o:={ dst:=some 21,op:=Op.call { callee:=Callee.value (Operand.func 32),args:=#[Operand.tmp 17,Operand.const (Value.int IntKind.i64 0),Operand.const (Value.int IntKind.i64 0),Operand.tmp 19,Operand.tmp 20],argTypes:=#[24,3,3,3,3] },type:=24,pos := "ref.go:59",after:=#[{ on:=1,ground:=Ground.data },{ on:=3,ground:=Ground.data },{ on:=4,ground:=Ground.data }],guard:=none }) rfl (fun K hK=>?_) AllReadyH.nil
   go_simp
   refine (uH K2 _ _ _ (uH BQ)).mono ?_
   rintro e w5 ⟨po5,pc5,rfl,hq,hb⟩
   have HQ5:=hide hq
   replace ST:=hide ((uH ST).all hb)
   replace BQ:=hide ((uH BQ).below hb)
   replace BR:=hide ((uH BR).below hb)
   clear hb hq
   go_wp2_with fail
   refine hK.out _ _ ?_ (fun hHeld=>?_)
   ·exact (uH ST).held
   clear hK K
   refine wpAnyH_ready (rs:=[11]) (by kernel_rfl) (by simp) ?_
   refine AllReadyH.cons (o:={ dst:=some 27,op:=Op.call { callee:=Callee.value (Operand.func 32),args:=#[Operand.tmp 23,Operand.const (Value.int IntKind.i64 0),Operand.const (Value.int IntKind.i64 0),Operand.tmp 24,Operand.tmp 26],argTypes:=#[24,3,3,3,3] },type:=24,pos := "ref.go:59",after:=#[{ on:=7,ground:=Ground.data },{ on:=8,ground:=Ground.data },{ on:=10,ground:=Ground.data },{ on:=5,ground:=Ground.chain }],guard:=none }) rfl (fun K hK=>?_) AllReadyH.nil
   go_simp
   refine (uH K3 _ _ _ (uH BR)).mono ?_
   rintro e w11 ⟨po11,pc11,rfl,hq,hb⟩
   have HQ11:=hide hq
   replace HQ5:=hide ((uH HQ5).below hb)
   replace ST:=hide ((uH ST).all hb)
   replace BQ:=hide ((uH BQ).below hb)
   replace BR:=hide ((uH BR).below hb)
   clear hb hq
   have X1:=(uH ST).res
   have r0:=X1.c0;have r1:=X1.c1;have r2:=X1.c2;have r3:=X1.c3;have r4:=X1.c4;have r5:=X1.c5;have r6:=X1.c6
   have f0:=X1.free 0;have f1:=X1.free 1;have f2:=X1.free 2;have f3:=X1.free 3;have f4:=X1.free 4;have f5:=X1.free 5;have f6:=X1.free 6
   have XP:=X1.put (.int .i64 (k:Nat)) (.int .i64 (k:Nat)) (.slice po5 TQ.length pc5) (.int .i64 (k:Nat)) (.int .i64 (c:Nat)) (.slice po11 TR.length pc11) (.bool true)
   have z0:=XP.c0;have z1:=XP.c1;have z2:=XP.c2;have z3:=XP.c3;have z4:=XP.c4;have z5:=XP.c5;have z6:=XP.c6
   have BP:=hide (below_putW (uH ST).bel (g:=w.heap.size+1) (by omega) (.int .i64 (k:Nat)) (.int .i64 (k:Nat)) (.slice po5 TQ.length pc5) (.int .i64 (k:Nat)) (.int .i64 (c:Nat)) (.slice po11 TR.length pc11) (.bool true))
   have PQ:=hide (bits_putW (uH HQ5) X1 (.int .i64 (k:Nat)) (.int .i64 (k:Nat)) (.slice po5 TQ.length pc5) (.int .i64 (k:Nat)) (.int .i64 (c:Nat)) (.slice po11 TR.length pc11) (.bool true))
   have PR:=hide (bits_putW (uH HQ11) X1 (.int .i64 (k:Nat)) (.int .i64 (k:Nat)) (.slice po5 TQ.length pc5) (.int .i64 (k:Nat)) (.int .i64 (c:Nat)) (.slice po11 TR.length pc11) (.bool true))
   have HS5:=hide (uH ST).held
   have HS6:=hide ((uH ST).put (uH HG) (.int .i64 (k:Nat)) (.int .i64 (k:Nat)) (.slice po5 TQ.length pc5) (.int .i64 (k:Nat)) (.int .i64 (c:Nat)) (.slice po11 TR.length pc11) (.bool true))
   clear X1 XP ST HQ5 HQ11
   go_wp2_with fail
   refine hK.out _ _ ?_ (fun hHeld=>?_)
   ·exact uH HS5
   clear hK K
   refine wpAnyH_ready (rs:=[12]) (by kernel_rfl) (by simp) ?_
   refine AllReadyH.cons (o:={ dst:=some 28,op:=Op.build 34 #[(0,Operand.tmp 21),(1,Operand.tmp 27),(2,Operand.const (Value.bool true))],type:=34,pos := "ref.go:59",after:=#[{ on:=5,ground:=Ground.data },{ on:=11,ground:=Ground.data }],guard:=none }) rfl (fun K hK=>?_) AllReadyH.nil
   go_simp
   refine hK.out _ _ ?_ (fun hHeld=>?_)
   ·exact uH HS5
   clear hK K
   refine wpAnyH_ready (rs:=[13]) (by kernel_rfl) (by simp) ?_
   refine AllReadyH.cons (o:={ dst:=none,op:=Op.store 34 (Operand.tmp 2) (Operand.tmp 28),type:=0,pos := "ref.go:59",after:=#[{ on:=12,ground:=Ground.data },{ on:=11,ground:=Ground.chain },{ on:=0,ground:=Ground.phase },{ on:=1,ground:=Ground.phase },{ on:=2,ground:=Ground.phase },{ on:=3,ground:=Ground.phase },{ on:=4,ground:=Ground.phase },{ on:=5,ground:=Ground.phase },{ on:=6,ground:=Ground.phase },{ on:=7,ground:=Ground.phase },{ on:=8,ground:=Ground.phase },{ on:=9,ground:=Ground.phase },{ on:=10,ground:=Ground.phase },{ on:=11,ground:=Ground.phase },{ on:=12,ground:=Ground.phase }],guard:=none }) rfl (fun K hK=>?_) AllReadyH.nil
   go_simp
   refine hK.out _ _ ?_ (fun hHeld=>?_)
   ·exact uH HS6
   clear hK K
   refine wpAnyH_done (by kernel_rfl) ?_ _
   clear r0 r1 r2 r3 r4 r5 r6 f0 f1 f2 f3 f4 f5 f6 HS5 HS6
   go_wp2_with fail
   exact bodyPost_ret (v:=.agg #[.int .i64 (k:Nat),.int .i64 (k:Nat),.slice po5 TQ.length pc5,.int .i64 (k:Nat),.int .i64 (c:Nat),.slice po11 TR.length pc11,.bool true]) (by simp [results,Tryz.results14,go_sem,z0,z1,z2,z3,z4,z5,z6]) rfl ⟨.inl ⟨rfl,po5,pc5,po11,pc11,rfl,uH PQ,uH PR⟩,uH BP⟩
  ·clear hk
   go_wp2_with fail
   clear t6 a0 a1
   generalize w1.heap.size = g at *
   refine at_world (fun W=>ThSt w W g r k n cap ao r r (.slice qo nq qc) r k (.slice ro n rc) true∧BitsAt W qo qc (mxL Q)∧BitsAt W ro rc (mxL R)) ⟨uH ST,uH BQ,uH BR⟩ ?_
   clear ST BQ BR
   rintro W ⟨st,bq,br⟩
   have hd:=(Below.refl W.heap.size W).drew
   have ST:=hide (st.all hd);have BQ:=hide (bq.below hd);have BR:=hide (br.below hd)
   clear st bq br hd
   refine wp_region_held_drew (S:=(fun w'=>(w'.cell? ⟨w.heap.size,0,none⟩ = some (.int .i64 (r:Nat))∧w'.cell? ⟨w.heap.size,1,none⟩ = some (.int .i64 (k:Nat)))∧(w'.cell? ⟨g,0,none⟩ = some (.int .i64 (r:Nat))∧w'.cell? ⟨g,1,none⟩ = some (.int .i64 (r:Nat))∧w'.cell? ⟨g,2,none⟩ = some (.slice qo nq qc)∧w'.cell? ⟨g,3,none⟩ = some (.int .i64 (r:Nat))∧w'.cell? ⟨g,4,none⟩ = some (.int .i64 (k:Nat))∧w'.cell? ⟨g,5,none⟩ = some (.slice ro n rc)))) (by kernel_rfl) ?_ (fun hHeld=>?_)
   ·exact (uH ST).held
   refine wpAnyH_take (i:=0) (oi:={ dst:=some 16,op:=Op.fieldAddr 34 (Operand.tmp 3) 0,type:=0,pos := "ref.go:59",after:=#[],guard:=none }) (v:=(Value.pointer (some ⟨g,0,none⟩))) rfl (by kernel_rfl) (by kernel_rfl) (by kernel_rfl) (fun _ _ _ h=>h) (Or.inl ⟨by rfl,?_⟩) (by assumption) ?_
   ·(intro w hSw;(try dsimp only at hSw);go_simp)
   simp only [Act.put,List.setIfInBounds_toArray,List.set_cons_zero,List.set_cons_succ]
   refine wpAnyH_take (i:=1) (oi:={ dst:=some 17,op:=Op.load 24 (Operand.tmp 16),type:=24,pos := "ref.go:59",after:=#[{ on:=0,ground:=Ground.data }],guard:=none }) (v:=(Value.agg #[.int .i64 (r:Nat),.int .i64 (r:Nat),.slice qo nq qc])) rfl (by kernel_rfl) (by kernel_rfl) (by kernel_rfl) (fun _ _ _ h=>h) (Or.inl ⟨by rfl,?_⟩) (by assumption) ?_
   ·(intro w hSw;(try dsimp only at hSw);go_simp)
   simp only [Act.put,List.setIfInBounds_toArray,List.set_cons_zero,List.set_cons_succ]
   refine wpAnyH_take (i:=2) (oi:={ dst:=some 18,op:=Op.fieldAddr 24 (Operand.tmp 1) 0,type:=0,pos := "ref.go:59",after:=#[],guard:=none }) (v:=(Value.pointer (some ⟨w.heap.size,0,none⟩))) rfl (by kernel_rfl) (by kernel_rfl) (by kernel_rfl) (fun _ _ _ h=>h) (Or.inl ⟨by rfl,?_⟩) (by assumption) ?_
   ·(intro w hSw;(try dsimp only at hSw);go_simp)
   simp only [Act.put,List.setIfInBounds_toArray,List.set_cons_zero,List.set_cons_succ]
   refine wpAnyH_take (i:=3) (oi:={ dst:=some 19,op:=Op.load 3 (Operand.tmp 18),type:=3,pos := "ref.go:59",after:=#[{ on:=2,ground:=Ground.data }],guard:=none }) (v:=(Value.int .i64 (r:Nat))) rfl (by kernel_rfl) (by kernel_rfl) (by kernel_rfl) (fun _ _ _ h=>h) (Or.inl ⟨by rfl,?_⟩) (by assumption) ?_
   ·(intro w hSw;(try dsimp only at hSw);go_simp)
   simp only [Act.put,List.setIfInBounds_toArray,List.set_cons_zero,List.set_cons_succ]
   refine wpAnyH_take (i:=4) (oi:={ dst:=some 20,op:=Op.move (Operand.tmp 4),type:=3,pos := "ref.go:59",after:=#[],guard:=none }) (v:=(Value.int .i64 (k:Nat))) rfl (by kernel_rfl) (by kernel_rfl) (by kernel_rfl) (fun _ _ _ h=>h) (Or.inl ⟨by rfl,?_⟩) (by assumption) ?_
   ·(intro w hSw;(try dsimp only at hSw);go_simp)
   simp only [Act.put,List.setIfInBounds_toArray,List.set_cons_zero,List.set_cons_succ]
   refine wpAnyH_take (i:=6) (oi:={ dst:=some 22,op:=Op.fieldAddr 34 (Operand.tmp 3) 1,type:=0,pos := "ref.go:59",after:=#[],guard:=none }) (v:=(Value.pointer (some ⟨g,3,none⟩))) rfl (by kernel_rfl) (by kernel_rfl) (by kernel_rfl) (fun _ _ _ h=>h) (Or.inl ⟨by rfl,?_⟩) (by assumption) ?_
   ·(intro w hSw;(try dsimp only at hSw);go_simp)
   simp only [Act.put,List.setIfInBounds_toArray,List.set_cons_zero,List.set_cons_succ]
   refine wpAnyH_take (i:=7) (oi:={ dst:=some 23,op:=Op.load 24 (Operand.tmp 22),type:=24,pos := "ref.go:59",after:=#[{ on:=6,ground:=Ground.data }],guard:=none }) (v:=(Value.agg #[.int .i64 (r:Nat),.int .i64 (k:Nat),.slice ro n rc])) rfl (by kernel_rfl) (by kernel_rfl) (by kernel_rfl) (fun _ _ _ h=>h) (Or.inl ⟨by rfl,?_⟩) (by assumption) ?_
   ·(intro w hSw;(try dsimp only at hSw);go_simp)
   simp only [Act.put,List.setIfInBounds_toArray,List.set_cons_zero,List.set_cons_succ]
   refine wpAnyH_take (i:=8) (oi:={ dst:=some 24,op:=Op.move (Operand.tmp 4),type:=3,pos := "ref.go:59",after:=#[],guard:=none }) (v:=(Value.int .i64 (k:Nat))) rfl (by kernel_rfl) (by kernel_rfl) (by kernel_rfl) (fun _ _ _ h=>h) (Or.inl ⟨by rfl,?_⟩) (by assumption) ?_
   ·(intro w hSw;(try dsimp only at hSw);go_simp)
   simp only [Act.put,List.setIfInBounds_toArray,List.set_cons_zero,List.set_cons_succ]
   refine wpAnyH_take (i:=9) (oi:={ dst:=some 25,op:=Op.fieldAddr 24 (Operand.tmp 1) 1,type:=0,pos := "ref.go:59",after:=#[],guard:=none }) (v:=(Value.pointer (some ⟨w.heap.size,1,none⟩))) rfl (by kernel_rfl) (by kernel_rfl) (by kernel_rfl) (fun _ _ _ h=>h) (Or.inl ⟨by rfl,?_⟩) (by assumption) ?_
   ·(intro w hSw;(try dsimp only at hSw);go_simp)
   simp only [Act.put,List.setIfInBounds_toArray,List.set_cons_zero,List.set_cons_succ]
   refine wpAnyH_take (i:=10) (oi:={ dst:=some 26,op:=Op.load 3 (Operand.tmp 25),type:=3,pos := "ref.go:59",after:=#[{ on:=9,ground:=Ground.data }],guard:=none }) (v:=(Value.int .i64 (k:Nat))) rfl (by kernel_rfl) (by kernel_rfl) (by kernel_rfl) (fun _ _ _ h=>h) (Or.inl ⟨by rfl,?_⟩) (by assumption) ?_
   ·(intro w hSw;(try dsimp only at hSw);go_simp)
   simp only [Act.put,List.setIfInBounds_toArray,List.set_cons_zero,List.set_cons_succ]
   refine wpAnyH_ready (rs:=[5]) (by kernel_rfl) (by simp) ?_
   refine AllReadyH.cons (o:={ dst:=some 21,op:=Op.call { callee:=Callee.value (Operand.func 32),args:=#[Operand.tmp 17,Operand.const (Value.int IntKind.i64 0),Operand.const (Value.int IntKind.i64 0),Operand.tmp 19,Operand.tmp 20],argTypes:=#[24,3,3,3,3] },type:=24,pos := "ref.go:59",after:=#[{ on:=1,ground:=Ground.data },{ on:=3,ground:=Ground.data },{ on:=4,ground:=Ground.data }],guard:=none }) rfl (fun K hK=>?_) AllReadyH.nil
   go_simp
   refine (uH K2 _ _ _ (uH BQ)).mono ?_
   rintro e w5 ⟨po5,pc5,rfl,hq,hb⟩
   have HQ5:=hide hq
   replace ST:=hide ((uH ST).all hb)
   replace BQ:=hide ((uH BQ).below hb)
   replace BR:=hide ((uH BR).below hb)
   clear hb hq
   go_wp2_with fail
   refine hK.out _ _ ?_ (fun hHeld=>?_)
   ·exact (uH ST).held
   clear hK K
   refine wpAnyH_ready (rs:=[11]) (by kernel_rfl) (by simp) ?_
   refine AllReadyH.cons (o:={ dst:=some 27,op:=Op.call { callee:=Callee.value (Operand.func 32),args:=#[Operand.tmp 23,Operand.const (Value.int IntKind.i64 0),Operand.const (Value.int IntKind.i64 0),Operand.tmp 24,Operand.tmp 26],argTypes:=#[24,3,3,3,3] },type:=24,pos := "ref.go:59",after:=#[{ on:=7,ground:=Ground.data },{ on:=8,ground:=Ground.data },{ on:=10,ground:=Ground.data },{ on:=5,ground:=Ground.chain }],guard:=none }) rfl (fun K hK=>?_) AllReadyH.nil
   go_simp
   refine (uH K3 _ _ _ (uH BR)).mono ?_
   rintro e w11 ⟨po11,pc11,rfl,hq,hb⟩
   have HQ11:=hide hq
   replace HQ5:=hide ((uH HQ5).below hb)
   replace ST:=hide ((uH ST).all hb)
   replace BQ:=hide ((uH BQ).below hb)
   replace BR:=hide ((uH BR).below hb)
   clear hb hq
   have X1:=(uH ST).res
   have r0:=X1.c0;have r1:=X1.c1;have r2:=X1.c2;have r3:=X1.c3;have r4:=X1.c4;have r5:=X1.c5;have r6:=X1.c6
   have f0:=X1.free 0;have f1:=X1.free 1;have f2:=X1.free 2;have f3:=X1.free 3;have f4:=X1.free 4;have f5:=X1.free 5;have f6:=X1.free 6
   have XP:=X1.put (.int .i64 (r:Nat)) (.int .i64 (k:Nat)) (.slice po5 TQ.length pc5) (.int .i64 (k:Nat)) (.int .i64 (k:Nat)) (.slice po11 TR.length pc11) (.bool true)
   have z0:=XP.c0;have z1:=XP.c1;have z2:=XP.c2;have z3:=XP.c3;have z4:=XP.c4;have z5:=XP.c5;have z6:=XP.c6
   have BP:=hide (below_putW (uH ST).bel (g:=w.heap.size+1) (by omega) (.int .i64 (r:Nat)) (.int .i64 (k:Nat)) (.slice po5 TQ.length pc5) (.int .i64 (k:Nat)) (.int .i64 (k:Nat)) (.slice po11 TR.length pc11) (.bool true))
   have PQ:=hide (bits_putW (uH HQ5) X1 (.int .i64 (r:Nat)) (.int .i64 (k:Nat)) (.slice po5 TQ.length pc5) (.int .i64 (k:Nat)) (.int .i64 (k:Nat)) (.slice po11 TR.length pc11) (.bool true))
   have PR:=hide (bits_putW (uH HQ11) X1 (.int .i64 (r:Nat)) (.int .i64 (k:Nat)) (.slice po5 TQ.length pc5) (.int .i64 (k:Nat)) (.int .i64 (k:Nat)) (.slice po11 TR.length pc11) (.bool true))
   have HS5:=hide (uH ST).held
   have HS6:=hide ((uH ST).put (uH HG) (.int .i64 (r:Nat)) (.int .i64 (k:Nat)) (.slice po5 TQ.length pc5) (.int .i64 (k:Nat)) (.int .i64 (k:Nat)) (.slice po11 TR.length pc11) (.bool true))
   clear X1 XP ST HQ5 HQ11
   go_wp2_with fail
   refine hK.out _ _ ?_ (fun hHeld=>?_)
   ·exact uH HS5
   clear hK K
   refine wpAnyH_ready (rs:=[12]) (by kernel_rfl) (by simp) ?_
   refine AllReadyH.cons (o:={ dst:=some 28,op:=Op.build 34 #[(0,Operand.tmp 21),(1,Operand.tmp 27),(2,Operand.const (Value.bool true))],type:=34,pos := "ref.go:59",after:=#[{ on:=5,ground:=Ground.data },{ on:=11,ground:=Ground.data }],guard:=none }) rfl (fun K hK=>?_) AllReadyH.nil
   go_simp
   refine hK.out _ _ ?_ (fun hHeld=>?_)
   ·exact uH HS5
   clear hK K
   refine wpAnyH_ready (rs:=[13]) (by kernel_rfl) (by simp) ?_
   refine AllReadyH.cons (o:={ dst:=none,op:=Op.store 34 (Operand.tmp 2) (Operand.tmp 28),type:=0,pos := "ref.go:59",after:=#[{ on:=12,ground:=Ground.data },{ on:=11,ground:=Ground.chain },{ on:=0,ground:=Ground.phase },{ on:=1,ground:=Ground.phase },{ on:=2,ground:=Ground.phase },{ on:=3,ground:=Ground.phase },{ on:=4,ground:=Ground.phase },{ on:=5,ground:=Ground.phase },{ on:=6,ground:=Ground.phase },{ on:=7,ground:=Ground.phase },{ on:=8,ground:=Ground.phase },{ on:=9,ground:=Ground.phase },{ on:=10,ground:=Ground.phase },{ on:=11,ground:=Ground.phase },{ on:=12,ground:=Ground.phase }],guard:=none }) rfl (fun K hK=>?_) AllReadyH.nil
   go_simp
   refine hK.out _ _ ?_ (fun hHeld=>?_)
   ·exact uH HS6
   clear hK K
   refine wpAnyH_done (by kernel_rfl) ?_ _
   clear r0 r1 r2 r3 r4 r5 r6 f0 f1 f2 f3 f4 f5 f6 HS5 HS6
   go_wp2_with fail
   exact bodyPost_ret (v:=.agg #[.int .i64 (r:Nat),.int .i64 (k:Nat),.slice po5 TQ.length pc5,.int .i64 (k:Nat),.int .i64 (k:Nat),.slice po11 TR.length pc11,.bool true]) (by simp [results,Tryz.results14,go_sem,z0,z1,z2,z3,z4,z5,z6]) rfl ⟨.inl ⟨rfl,po5,pc5,po11,pc11,rfl,uH PQ,uH PR⟩,uH BP⟩
 ·have ba:=below_alloc9 w1 (.cells #[.int .i64 0,.int .i64 0,.slice none 0 0,.int .i64 0,.int .i64 0,.slice none 0 0,.bool false] 34)
  have ST:=hide (show ThSt w (w1.alloc (.cells #[.int .i64 0,.int .i64 0,.slice none 0 0,.int .i64 0,.int .i64 0,.slice none 0 0,.bool false] 34)) w1.heap.size r c n cap ao 0 0 (.slice none 0 0) 0 0 (.slice none 0 0) false from ⟨hB1.trans (ba.mono hB1.size),hA1.all ba,hX1.all ba,BoxW.new w1 _ _ _ _ _ _ _⟩)
  clear ba hB1 hA1 hX1
  have X2:=(uH ST).t
  have t0:=X2.c0;have t1:=X2.c1;have t2:=X2.c2;have t3:=X2.c3;have t4:=X2.c4;have t5:=X2.c5;have t6:=X2.c6
  have X1:=(uH ST).res
  have r0:=X1.c0;have r1:=X1.c1;have r2:=X1.c2;have r3:=X1.c3;have r4:=X1.c4;have r5:=X1.c5;have r6:=X1.c6
  have f0:=X1.free 0;have f1:=X1.free 1;have f2:=X1.free 2;have f3:=X1.free 3;have f4:=X1.free 4;have f5:=X1.free 5;have f6:=X1.free 6
  have XP:=X1.put (.int .i64 0) (.int .i64 0) (.slice none 0 0) (.int .i64 0) (.int .i64 0) (.slice none 0 0) (.bool false)
  have z0:=XP.c0;have z1:=XP.c1;have z2:=XP.c2;have z3:=XP.c3;have z4:=XP.c4;have z5:=XP.c5;have z6:=XP.c6
  have BP:=hide (below_putW (uH ST).bel (g:=w.heap.size+1) (by omega) (.int .i64 0) (.int .i64 0) (.slice none 0 0) (.int .i64 0) (.int .i64 0) (.slice none 0 0) (.bool false))
  clear X1 X2 XP ST
  go_wp2_with fail
  exact bodyPost_ret (v:=.agg #[.int .i64 0,.int .i64 0,.slice none 0 0,.int .i64 0,.int .i64 0,.slice none 0 0,.bool false]) (by simp [results,Tryz.results14,go_sem,z0,z1,z2,z3,z4,z5,z6]) rfl ⟨.inr ⟨rfl,rfl⟩,uH BP⟩
end Go.Proofs.YtfkndkaneffgdaaGreatDoor
namespace Go.Proofs.YtfkndkaneffgdaaGreatDoor
open Go.RowKit
attribute [local go_sem ↓] Go.wp_at_zero Go.wp_at_succ
set_option maxRecDepth 20000 in
set_option maxHeartbeats 8000000 in
theorem qrThins_of (r c:Int) (ao:Option Addr) (n cap:Nat) (p1 p2 p3 p4:Nat) (S T:List Nat) (f er:Int) (w:World)
  (way:(f ≠ 0∧(f = 1 ∨ f = 4)) ∨ f = 0)
  (C2:∀ w',Below w.heap.size w w'→Calls Tryz.prog 13 #[.agg #[.int .i64 r,.int .i64 c,.slice ao n cap]] w' fun e w''=>∃ v u,e = .returned (.tuple #[v,u,.int .i64 er])∧NewM w'.heap.size w'' p1 p2 S v∧NewM w'.heap.size w'' p3 p4 T u∧Below w'.heap.size w' w'')
  (C5:∀ w',Below w.heap.size w w'→Calls Tryz.prog 9 #[.agg #[.int .i64 r,.int .i64 c,.slice ao n cap]] w' fun e w''=>e = .returned (.int .i64 f)∧Below w'.heap.size w' w'')
  (C6:f ≠ 0→∀ w' so sd to' td,BitsAt w' so sd (mxL S)→BitsAt w' to' td (mxL T)→Calls Tryz.prog 10 #[.agg #[.int .i64 p1,.int .i64 p2,.slice so S.length sd],.agg #[.int .i64 p3,.int .i64 p4,.slice to' T.length td],.int .i64 er,.agg #[.int .i64 0,.int .i64 0,.slice none 0 0,.int .i64 0,.int .i64 0,.slice none 0 0,.bool false],.int .i64 f] w' fun e w''=>e = .returned (.bool true)∧Below w'.heap.size w' w'')
  (C7:f = 0→∀ w',Below w.heap.size w w'→Calls Tryz.prog 14 #[.agg #[.int .i64 r,.int .i64 c,.slice ao n cap]] w' fun e w''=>∃ v,e = .returned v∧(∀ w3 so sd to' td,Below w''.heap.size w'' w3→BitsAt w3 so sd (mxL S)→BitsAt w3 to' td (mxL T)→Calls Tryz.prog 10 #[.agg #[.int .i64 p1,.int .i64 p2,.slice so S.length sd],.agg #[.int .i64 p3,.int .i64 p4,.slice to' T.length td],.int .i64 er,v,.int .i64 0] w3 fun e w4=>e = .returned (.bool true)∧Below w3.heap.size w3 w4)∧Below w'.heap.size w' w'')
  (CA:∀ w',Below w.heap.size w w'→Calls Tryz.prog 11 #[] w' fun e w''=>e = .returned (.bool true)∧Below w'.heap.size w' w'') :
  Calls Tryz.prog 4 #[.agg #[.int .i64 r,.int .i64 c,.slice ao n cap]] w fun e w'=>e = .returned (.bool true)∧Below w.heap.size w w':=by
 have WAY:=hide way
 have K2:=hide C2;have K5:=hide C5;have K6:=hide C6;have K7:=hide C7;have KA:=hide CA
 have b0:=below_alloc9 w (.cells #[.int .i64 r,.int .i64 c,.slice ao n cap] 24)
 have HA:=hide (BoxM.new w (.int .i64 r) (.int .i64 c) (.slice ao n cap))
 have HB:=hide b0
 clear b0 way C2 C5 C6 C7 CA
 go_enter Tryz.func4,Tryz.ntmps4
 go_wp2_with fail
 refine (uH K2 _ (uH HB)).mono ?_
 rintro e w1 ⟨v,u,rfl,⟨so,sd,rfl,_,qs⟩,⟨to',td,rfl,_,qt⟩,hb⟩
 obtain ⟨st,bc⟩:=UpSt.start ((uH HB).trans (hb.mono (uH HB).size)) ((uH HA).all hb) (.int .i64 (p1:Nat)) (.int .i64 (p2:Nat)) (.slice so S.length sd) (.int .i64 (p3:Nat)) (.int .i64 (p4:Nat)) (.slice to' T.length td)
 have ST:=hide st
 have QS:=hide (qs.below bc);have QT:=hide (qt.below bc)
 clear hb HA HB K2 st bc qs qt
 generalize S.length = nS at *
 generalize T.length = nT at *
 have a0:=(uH ST).a.c0;have a1:=(uH ST).a.c1;have a2:=(uH ST).a.c2
 go_wp2_with fail
 clear a0 a1 a2
 generalize w1.heap.size = g at *
 refine (uH K5 _ (uH ST).bel).mono ?_
 rintro e w5 ⟨rfl,hb⟩
 replace ST:=hide ((uH ST).all hb)
 replace QS:=hide ((uH QS).below hb)
 replace QT:=hide ((uH QT).below hb)
 clear hb K5
 have s0:=(uH ST).q.c0;have s1:=(uH ST).q.c1;have s2:=(uH ST).q.c2
 have u0:=(uH ST).r.c0;have u1:=(uH ST).r.c1;have u2:=(uH ST).r.c2
 rcases uH WAY with ⟨hf0,hf⟩ | rfl
 ·have G6:=hide (uH K6 hf0 _ _ _ _ _ (uH QS) (uH QT))
  clear WAY K6 K7
  rcases hf with rfl | rfl
  all_goals
   go_wp2_with fail
   refine Calls.mono (uH G6) ?_
   rintro e w8 ⟨rfl,hb⟩
   have BE:=hide ((uH ST).bel.trans (hb.mono (uH ST).bel.size))
   clear s0 s1 s2 u0 u1 u2 hb ST G6
   go_wp2_with fail
   refine (uH KA _ (uH BE)).mono ?_
   rintro e w19 ⟨rfl,hb⟩
   replace BE:=hide ((uH BE).trans (hb.mono (uH BE).size))
   clear hb
   go_wp2
   go_ret
   exact ⟨rfl,uH BE⟩
 ·have G7:=hide (uH K7 (by first | rfl | trivial))
  clear WAY K6 K7
  go_wp2_with fail
  refine at_world (fun W=>UpSt w W g (.int .i64 r) (.int .i64 c) (.slice ao n cap) (.int .i64 p1) (.int .i64 p2) (.slice so nS sd) (.int .i64 p3) (.int .i64 p4) (.slice to' nT td)∧BitsAt W so sd (mxL S)∧BitsAt W to' td (mxL T)) ⟨uH ST,uH QS,uH QT⟩ ?_
  clear s0 s1 s2 u0 u1 u2 ST QS QT
  rintro W ⟨st,qs,qt⟩
  have QS:=hide qs;have QT:=hide qt
  have HK:=hide (fun w' (h:Below W.heap.size W w')=>(show Below W.heap.size W w'∧(w'.cell? ⟨w.heap.size,0,none⟩ = some (.int .i64 r)∧w'.cell? ⟨w.heap.size,1,none⟩ = some (.int .i64 c)∧w'.cell? ⟨w.heap.size,2,none⟩ = some (.slice ao n cap))∧(w'.cell? ⟨g,0,none⟩ = some (.int .i64 p1)∧w'.cell? ⟨g,1,none⟩ = some (.int .i64 p2)∧w'.cell? ⟨g,2,none⟩ = some (.slice so nS sd))∧(w'.cell? ⟨g+1,0,none⟩ = some (.int .i64 p3)∧w'.cell? ⟨g+1,1,none⟩ = some (.int .i64 p4)∧w'.cell? ⟨g+1,2,none⟩ = some (.slice to' nT td)) from
   have y:=st.all h;⟨h,⟨y.a.c0,y.a.c1,y.a.c2⟩,⟨y.q.c0,y.q.c1,y.q.c2⟩,y.r.c0,y.r.c1,y.r.c2⟩))
  have HW:=hide (fun w' (h:Below W.heap.size W w')=>st.bel.trans (h.mono st.bel.size))
  clear st qs qt
  go_region_held3 (fun w'=>Below W.heap.size W w'∧(w'.cell? ⟨w.heap.size,0,none⟩ = some (.int .i64 r)∧w'.cell? ⟨w.heap.size,1,none⟩ = some (.int .i64 c)∧w'.cell? ⟨w.heap.size,2,none⟩ = some (.slice ao n cap))∧(w'.cell? ⟨g,0,none⟩ = some (.int .i64 p1)∧w'.cell? ⟨g,1,none⟩ = some (.int .i64 p2)∧w'.cell? ⟨g,2,none⟩ = some (.slice so nS sd))∧(w'.cell? ⟨g+1,0,none⟩ = some (.int .i64 p3)∧w'.cell? ⟨g+1,1,none⟩ = some (.int .i64 p4)∧w'.cell? ⟨g+1,2,none⟩ = some (.slice to' nT td)))
   (first | exact uH HK _ (Below.refl _ _).drew | exact uH HK _ (by assumption) | fail "KK")
   (first | (go_at_call 14;refine (uH G7 _ (uH HW _ (And.left (by assumption)))).mono ?_;rintro e w5 ⟨v,rfl,kt,hb5⟩;have hB5:Below W.heap.size W w5:=Below.trans (And.left (by assumption)) (hb5.mono (Below.size (And.left (by assumption))));have KT:=hide (fun w3 h3=>kt w3 so sd to' td h3 (by exact (uH QS).below (hB5.trans (h3.mono hB5.size))) (by exact (uH QT).below (hB5.trans (h3.mono hB5.size))));clear kt hb5 G7) | (go_at_call 10;refine (uH KT _ (by first | exact (Below.refl _ _) | exact (Below.refl _ _).drew | exact below_drewN (Below.refl _ _) _)).mono ?_;rintro e w6 ⟨rfl,hb6⟩;have hB6:Below W.heap.size W w6:=Below.trans (And.left (by assumption)) (hb6.mono (Below.size (And.left (by assumption))));clear hb6) | (go_at_call 11;refine (uH KA _ (uH HW _ (And.left (by assumption)))).mono ?_;rintro e w7 ⟨rfl,hb7⟩;have hB7:Below W.heap.size W w7:=Below.trans (And.left (by assumption)) (hb7.mono (Below.size (And.left (by assumption))));clear hb7) | fail "NO ARM")
  all_goals
   have BE:=hide (uH HW _ (And.left (by assumption)))
   go_wp2
   go_ret
   exact ⟨rfl,uH BE⟩
def thQ (r c:Nat) (S:List Nat):List Nat:=paM r (facQ r c S) 0 0 r (min r c)
def thR (r c:Nat) (S:List Nat):List Nat:=paM c (facR r c S) 0 0 (min r c) c
theorem rthin14_any (r c cap:Nat) (ao:Option Addr) (S:List Nat) (w:World) (h:Mx w ao cap r c S) :
  Calls Tryz.prog 14 #[.agg #[.int .i64 r,.int .i64 c,.slice ao S.length cap]] w fun e w'=>ThAns w' (facK r c S) r (min r c) c (thQ r c S) (thR r c S) e∧Below w.heap.size w w':=by
 have hl:=h.2.1
 have r6:=h.2.2.1
 have c6:=h.2.2.2
 have lq:(facQ r c S).length = r * r:=qrQ_len _ _ _ _ _
 have lr:(facR r c S).length = r * c:=qrR_len r c S hl _
 refine rthin_of r c S.length (r * r) (min r c) cap ao (facQ r c S) (facR r c S) (thQ r c S) (thR r c S) (facK r c S) w rfl r6 c6 (fun w' hb=>rfactor14_any r c cap ao S w' (h.below hb)) (fun w' qo qc hq=>?_) (fun w' ro rc hr=>?_)
 ·have:=rpart_any r r qc 0 0 r (min r c) qo (facQ r c S) w' ⟨hq,lq,r6,r6⟩ (by omega) (by omega)
  rw [lq] at this
  refine this.mono ?_
  rintro e w'' ⟨v,rfl,⟨po,pc,rfl,_,hb⟩,hb2⟩
  exact ⟨po,pc,rfl,hb,hb2⟩
 ·have:=rpart_any r c rc 0 0 (min r c) c ro (facR r c S) w' ⟨hr,lr,r6,c6⟩ (by omega) (by omega)
  rw [lr,← hl] at this
  refine this.mono ?_
  rintro e w'' ⟨v,rfl,⟨po,pc,rfl,_,hb⟩,hb2⟩
  exact ⟨po,pc,rfl,hb,hb2⟩
theorem qrThins_by (r c:Int) (ao:Option Addr) (cap:Nat) (I:List Int) (w:World) (hI:BitsAt w ao cap I) (hl:I.length≤17592186043904)
  (CE:∀ w',Below w.heap.size w w'→ckE r c I ≠ 0→Calls Tryz.prog 13 #[.agg #[.int .i64 r,.int .i64 c,.slice ao I.length cap]] w' fun e w''=>∃ v u,e = .returned (.tuple #[v,u,.int .i64 (ckE r c I)])∧NewM w'.heap.size w'' 0 0 [] v∧NewM w'.heap.size w'' 0 0 [] u∧Below w'.heap.size w' w'')
  (CN:∀ w' ao cap (r c:Nat) S,Below w.heap.size w w'→Mx w' ao cap r c S→finL S = true→facK r c S = false→Calls Tryz.prog 13 #[.agg #[.int .i64 r,.int .i64 c,.slice ao S.length cap]] w' fun e w''=>∃ v u,e = .returned (.tuple #[v,u,.int .i64 2])∧NewM w'.heap.size w'' 0 0 [] v∧NewM w'.heap.size w'' 0 0 [] u∧Below w'.heap.size w' w'')
  (CY:∀ w' ao cap (r c:Nat) S,Below w.heap.size w w'→Mx w' ao cap r c S→finL S = true→facK r c S = true→Calls Tryz.prog 13 #[.agg #[.int .i64 r,.int .i64 c,.slice ao S.length cap]] w' fun e w''=>∃ v u,e = .returned (.tuple #[v,u,.int .i64 0])∧NewM w'.heap.size w'' r (min r c) (thQ r c S) v∧NewM w'.heap.size w'' (min r c) c (thR r c S) u∧Below w'.heap.size w' w'')
  (CA:∀ w',Below w.heap.size w w'→Calls Tryz.prog 11 #[] w' fun e w''=>e = .returned (.bool true)∧Below w'.heap.size w' w'') :
  Calls Tryz.prog 4 #[.agg #[.int .i64 r,.int .i64 c,.slice ao I.length cap]] w fun e w'=>e = .returned (.bool true)∧Below w.heap.size w w':=by
 have C5:=fun w' (hb:Below w.heap.size w w')=>r11check_any r c ao cap I w' (hI.below hb) (by omega)
 by_cases h0:ckE r c I = 0
 ·obtain ⟨ho,hf⟩:=ckE_zero h0
  obtain ⟨p,q,rfl,rfl,hM,hS⟩:=Mx.of hI ho
  have e1:=natL_len I
  rw [h0] at C5
  have hfin:finL (natL I) = true:=by
   unfold finL
   rw [mxL_natL hI,e1]
   exact hf
  have F:=fun w' (hb:Below w.heap.size w w')=>rthin14_any p q cap ao (natL I) w' (hM.below hb)
  cases hk:facK p q (natL I)
  ·refine qrThins_of p q ao I.length cap 0 0 0 0 [] [] 0 2 w (.inr rfl) (fun w' hb=>?_) C5 (fun e=>absurd rfl e) (fun _ w' hb=>?_) CA
   ·have:=CN w' ao cap p q (natL I) hb (hM.below hb) hfin hk
    rw [e1] at this
    exact this
   ·have:=F w' hb
    rw [e1,hk] at this
    refine this.mono ?_
    rintro e w'' ⟨h,hb2⟩
    rcases h with ⟨e,_⟩ | ⟨_,rfl⟩
    ·cases e
    ·exact ⟨_,rfl,fun w3 so sd to' td _ _ _=>told14_no 0 2 false so to' sd td _ _ _ _ _ _ w3 (.inl ⟨rfl,rfl,rfl⟩),hb2⟩
  ·have lq:(thQ p q (natL I)).length = p * min p q:=by unfold thQ paM;rw [mkM_len]
   have lr:(thR p q (natL I)).length = min p q * q:=by unfold thR paM;rw [mkM_len]
   have m6:min p q≤6:=by have:=hM.2.2.1;omega
   refine qrThins_of p q ao I.length cap p (min p q) (min p q) q (thQ p q (natL I)) (thR p q (natL I)) 0 0 w (.inr rfl) (fun w' hb=>?_) C5 (fun e=>absurd rfl e) (fun _ w' hb=>?_) CA
   ·have:=CY w' ao cap p q (natL I) hb (hM.below hb) hfin hk
    rw [e1] at this
    exact this
   ·have:=F w' hb
    rw [e1,hk] at this
    refine this.mono ?_
    rintro e w'' ⟨h,hb2⟩
    rcases h with ⟨_,qo,qc,ro,rc,rfl,b1,b2⟩ | ⟨e,_⟩
    ·exact ⟨_,rfl,fun w3 so sd to' td h3 hs ht=>told14_yes p (min p q) (min p q) q so to' qo ro sd td qc rc (thQ p q (natL I)) (thR p q (natL I)) w3 hs ht (b1.below h3) (b2.below h3) (by rw [lq];exact Nat.mul_le_mul hM.2.2.1 m6) (by rw [lr];exact Nat.mul_le_mul m6 hM.2.2.2),hb2⟩
    ·cases e
 ·have hw:ckE r c I = 1 ∨ ckE r c I = 4:=by have:=ckE_three r c I;omega
  exact qrThins_of r c ao I.length cap 0 0 0 0 [] [] (ckE r c I) (ckE r c I) w (.inl ⟨h0,hw⟩) (fun w' hb=>CE w' hb h0) C5 (fun _ w' so sd to' td _ _=>told14_no (ckE r c I) (ckE r c I) false so to' sd td _ _ _ _ _ _ w' (.inr (by rcases hw with e | e;exact .inl ⟨e,e⟩;exact .inr ⟨e,e⟩))) (fun e=>absurd e h0) CA
end Go.Proofs.YtfkndkaneffgdaaGreatDoor
namespace Go.Proofs.YtfkndkaneffgdaaGreatDoor
open Go.RowKit
theorem qr_awake_any (w:World) (hT:Tab w):∀ w',Below w.heap.size w w'→Calls Tryz.prog 11 #[] w' fun e w''=>e = .returned (.bool true)∧Below w'.heap.size w' w'' :=
 qr_awake w (fun w' ao cap r c S hb h hf hk=>qFactor_yes r c cap ao S w' h hf hk (hT.all hb))
theorem qrThins_walk (r c:Int) (ao:Option Addr) (cap:Nat) (I:List Int) (w:World) (hI:BitsAt w ao cap I) (hl:I.length≤17592186043904) (_hr:-9223372036854775808≤r∧r≤9223372036854775807) (_hc:-9223372036854775808≤c∧c≤9223372036854775807) (hT:Tab w) :
  Calls Tryz.prog 4 #[.agg #[.int .i64 r,.int .i64 c,.slice ao I.length cap]] w fun e w'=>e = .returned (.bool true)∧Below w.heap.size w w' :=
 qrThins_by r c ao cap I w hI hl (fun w' hb h=>qThin_err r c ao cap I w' (hI.below hb) hl h) (fun w' ao cap r c S hb h hf hk=>qThin_no r c cap ao S w' h hf hk (hT.all hb)) (fun w' ao cap r c S hb h hf hk=>qThin_yes r c cap ao S w' h hf hk (hT.all hb)) (qr_awake_any w hT)
end Go.Proofs.YtfkndkaneffgdaaGreatDoor
