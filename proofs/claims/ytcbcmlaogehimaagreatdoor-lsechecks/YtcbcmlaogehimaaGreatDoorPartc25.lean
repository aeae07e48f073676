/- Part 25 of the texts. -/
import Derived.Test.YtcbcmlaogehimaaGreatDoorPartc24
import Derived.Test.YtcbcmlaogehimaaGreatDoorPartc21
import Derived.Test.YtcbcmlaogehimaaGreatDoorPartc06
import Derived.Lib.BitFns
import Derived.Test.YtcbcmlaogehimaaGreatDoorPartc04
import Derived.Maps.AppendAt
import Derived.Test.YtcbcmlaogehimaaGreatDoorPartc22
import Derived.OwnWalk
import Derived.Test.YtcbcmlaogehimaaGreatDoorPartc08
import Derived.Test.YtcbcmlaogehimaaGreatDoorPartc02
import Derived.Test.YtcbcmlaogehimaaGreatDoorPartc05
import Derived.Test.YtcbcmlaogehimaaGreatDoorPartc07
import Derived.Maps.Own
import Derived.Maps.OwnOps
import Derived.Maps.OwnSet
import Derived.DeepKeys4
import Derived.WalkSmall
import Derived.Deep.RegionHeld3
import Derived.Deep.AppendLies
import Derived.Test.YtcbcmlaogehimaaGreatDoorPartc01
import Derived.Test.YtcbcmlaogehimaaGreatDoorPartc20
import Derived.Test.YtcbcmlaogehimaaGreatDoorPartc19
import Derived.Deep.RegionLaw
import Derived.Test.YtcbcmlaogehimaaGreatDoorPartc11
import Derived.Test.YtcbcmlaogehimaaGreatDoorPartc12
import Derived.Test.YtcbcmlaogehimaaGreatDoorPartc13
import Derived.Deep.Cut
import Derived.BigQuiet
set_option maxHeartbeats 32000000
set_option maxRecDepth 20000
namespace Go.Proofs.YtcbcmlaogehimaaGreatDoor
open Go.RowKit
attribute [local go_sem ↓] Go.wp_at_zero Go.wp_at_succ
theorem cell_three14 {w:World} {b g j:Nat} {u u' u'' v:Value} (hne:b ≠ g) (h:w.cell? ⟨b,j,none⟩ = some v):(((w.setCell ⟨g,0,none⟩ u).setCell ⟨g,1,none⟩ u').setCell ⟨g,2,none⟩ u'').cell? ⟨b,j,none⟩ = some v:=by
 rw [cell_setCell_other _ _ _ _ hne,cell_setCell_other _ _ _ _ hne,cell_setCell_other _ _ _ _ hne]
 exact h
theorem cell_drew14 {w:World} {a:Addr} {v:Value} (h:w.cell? a = some v):w.drew.cell? a = some v:=h
theorem cell_three14d {w:World} {b g j:Nat} {u u' u'' v:Value} (hne:b ≠ g) (h:w.cell? ⟨b,j,none⟩ = some v):(((w.setCell ⟨g,0,none⟩ u).setCell ⟨g,1,none⟩ u').setCell ⟨g,2,none⟩ u'').drew.cell? ⟨b,j,none⟩ = some v:=cell_drew14 (cell_three14 hne h)
structure FcSt (w wr:World) (x y:Int) (ao:Option Addr) (n cap:Nat):Prop where
 bel:Below w.heap.size w wr
 a:BoxM wr w.heap.size (.int .i64 x) (.int .i64 y) (.slice ao n cap)
 r1:BoxM wr (w.heap.size+1) (.int .i64 0) (.int .i64 0) (.slice none 0 0)
 r2:BoxM wr (w.heap.size+1+1) (.int .i64 0) (.int .i64 0) (.slice none 0 0)
theorem FcSt.all {w wr w':World} {x y:Int} {ao:Option Addr} {n cap:Nat} (t:FcSt w wr x y ao n cap) (hb:Below wr.heap.size wr w'):FcSt w w' x y ao n cap:=⟨t.bel.trans (hb.mono t.bel.size),t.a.all hb,t.r1.all hb,t.r2.all hb⟩
theorem FcSt.start (w:World) (x y:Int) (ao:Option Addr) (n cap:Nat):FcSt w (((w.alloc (.cells #[.int .i64 x,.int .i64 y,.slice ao n cap] 24)).alloc (.cells #[.int .i64 0,.int .i64 0,.slice none 0 0] 24)).alloc (.cells #[.int .i64 0,.int .i64 0,.slice none 0 0] 24)) x y ao n cap:=by
 obtain ⟨h1,h2,h3,h4⟩:=boxes3 w (.int .i64 x) (.int .i64 y) (.slice ao n cap) (.int .i64 0) (.int .i64 0) (.slice none 0 0) (.int .i64 0) (.int .i64 0) (.slice none 0 0) _ (Below.refl _ _)
 exact ⟨h1,h2,h3,h4⟩
theorem factor_err (r c:Int) (ao:Option Addr) (n cap:Nat) (er:Int) (w:World) (her:er = 1 ∨ er = 4)
  (C1:∀ w',Below w.heap.size w w'→Calls Tryz.prog 63 #[.agg #[.int .i64 r,.int .i64 c,.slice ao n cap]] w' fun e w''=>e = .returned (.int .i64 er)∧Below w'.heap.size w' w'') :
  Calls Tryz.prog 94 #[.agg #[.int .i64 r,.int .i64 c,.slice ao n cap]] w fun e w'=>∃ v u,e = .returned (.tuple #[v,u,.int .i64 er])∧NewM w.heap.size w' 0 0 [] v∧NewM w.heap.size w' 0 0 [] u∧Below w.heap.size w w':=by
 have ST:=hide (FcSt.start w r c ao n cap)
 have K1:=hide (C1 _ (uH ST).bel)
 clear C1
 rcases her with rfl | rfl
 all_goals
  go_enter Tryz.func94,Tryz.ntmps94
  go_wp2_with fail
  refine (uH K1).mono ?_
  rintro e w1 ⟨rfl,hb⟩
  replace ST:=hide ((uH ST).all hb)
  clear hb K1
  have X1:=(uH ST).r1;have X2:=(uH ST).r2
  have s0:=X1.c0;have s1:=X1.c1;have s2:=X1.c2
  have f0:=X1.free 0;have f1:=X1.free 1;have f2:=X1.free 2
  have Y1:=X1.put (.int .i64 0) (.int .i64 0) (.slice none 0 0)
  have Y2:=X2.three14 (g:=w.heap.size+1) (by omega) (.int .i64 0) (.int .i64 0) (.slice none 0 0)
  have s3:=Y2.c0;have s4:=Y2.c1;have s5:=Y2.c2
  have f3:=Y2.free 0;have f4:=Y2.free 1;have f5:=Y2.free 2
  have Z1:=Y1.three14 (g:=w.heap.size+1+1) (by omega) (.int .i64 0) (.int .i64 0) (.slice none 0 0)
  have Z2:=Y2.put (.int .i64 0) (.int .i64 0) (.slice none 0 0)
  have z0:=Z1.c0;have z1:=Z1.c1;have z2:=Z1.c2;have z3:=Z2.c0;have z4:=Z2.c1;have z5:=Z2.c2
  have BP:=hide (below_putM (below_putM (uH ST).bel (b:=w.heap.size+1) (by omega) (.int .i64 0) (.int .i64 0) (.slice none 0 0)) (b:=w.heap.size+1+1) (by omega) (.int .i64 0) (.int .i64 0) (.slice none 0 0))
  clear X1 X2 Y1 Y2 Z1 Z2 ST
  go_wp2_with fail
  exact bodyPost_ret (v:=.tuple #[.agg #[.int .i64 0,.int .i64 0,.slice none 0 0],.agg #[.int .i64 0,.int .i64 0,.slice none 0 0],.int .i64 _]) (by simp [results,Tryz.results94,go_sem,z0,z1,z2,z3,z4,z5]) rfl ⟨_,_,rfl,NewM.zero _ _,NewM.zero _ _,uH BP⟩
def FacYes (w w':World) (r c n nq K:Nat) (Q S:List Nat) (e:Ending):Prop :=
 ∃ qo qc ro rc,e = .returned (.tuple #[.agg #[.int .i64 r,.int .i64 r,.slice qo nq qc],.agg #[.int .i64 r,.int .i64 c,.slice ro n rc],.int .i64 0])∧NewB w.heap.size qo (mxL Q)∧BitsAt w' qo qc (mxL Q)∧NewB w.heap.size ro (mxL S)∧BitsAt w' ro rc (mxL S)∧RowIf K n w' ro rc S∧(0 < K→∀ g,ro = some ⟨g,0,none⟩→OffB (some g) qo (mxL Q))
theorem FacYes.two {w w':World} {r c n nq K:Nat} {Q S:List Nat} {e:Ending} (h:FacYes w w' r c n nq K Q S e) (lQ:Q.length = nq) (lS:S.length = n):∃ v u,e = .returned (.tuple #[v,u,.int .i64 0])∧NewM w.heap.size w' r r Q v∧NewM w.heap.size w' r c S u:=by
 obtain ⟨qo,qc,ro,rc,rfl,h1,h2,h3,h4,_,_⟩:=h
 exact ⟨_,_,rfl,⟨qo,qc,by rw [lQ],h1,h2⟩,⟨ro,rc,by rw [lS],h3,h4⟩⟩
theorem factor_of (r c n nq K cap:Nat) (ao:Option Addr) (S QF:List Nat) (V:Nat→List Nat) (tau:Nat→Nat) (ok fq fr:Bool) (w:World) (lS:S.length = n) (lQ:QF.length = nq) (hfq:fnK (mxL QF) nq = fq)
  (C1:∀ w',Below w.heap.size w w'→Calls Tryz.prog 63 #[.agg #[.int .i64 r,.int .i64 c,.slice ao n cap]] w' fun e w''=>e = .returned (.int .i64 0)∧Below w'.heap.size w' w'')
  (C2:∀ w',Below w.heap.size w w'→Calls Tryz.prog 151 #[.agg #[.int .i64 r,.int .i64 c,.slice ao n cap]] w' fun e w''=>TriAns w' w'' ok r c n K S V tau e∧Below w'.heap.size w' w'')
  (C3:∀ w' lo lc R,Below w.heap.size w w'→OwnMt 0 w' (.slice lo K lc) R→R.length = K→(∀ k,k < K→(mrAt R k).V = V k∧(mrAt R k).tau = tau k)→Calls Tryz.prog 152 #[.int .i64 r,.slice lo K lc] w' fun e w''=>∃ Q qo qc,(Q = QF ∨ (fnK (mxL Q) nq = false∧fq = false))∧Q.length = nq∧e = .returned (.agg #[.int .i64 r,.int .i64 r,.slice qo nq qc])∧NewB w'.heap.size qo (mxL Q)∧BitsAt w'' qo qc (mxL Q)∧Below w'.heap.size w' w'')
  (C4:∀ w' Q qo qc,BitsAt w' qo qc (mxL Q)→Q.length = nq→Calls Tryz.prog 125 #[.slice qo nq qc] w' fun e w''=>e = .returned (.bool (fnK (mxL Q) nq))∧Below w'.heap.size w' w'')
  (C5:∀ w' ro rc,BitsAt w' ro rc (mxL S)→Calls Tryz.prog 125 #[.slice ro n rc] w' fun e w''=>e = .returned (.bool fr)∧Below w'.heap.size w' w'') :
  Calls Tryz.prog 94 #[.agg #[.int .i64 r,.int .i64 c,.slice ao n cap]] w fun e w'=>(((ok && (fq && fr)) = true∧FacYes w w' r c n nq K QF S e) ∨ ((ok && (fq && fr)) = false∧∃ v u,e = .returned (.tuple #[v,u,.int .i64 2])∧NewM w.heap.size w' 0 0 [] v∧NewM w.heap.size w' 0 0 [] u))∧Below w.heap.size w w':=by
 have ST:=hide (FcSt.start w r c ao n cap)
 have K1:=hide (C1 _ (uH ST).bel);have K2:=hide C2;have K3:=hide C3;have K4:=hide C4;have K5:=hide C5;have LS:=hide lS;have LQ:=hide lQ;have HFQ:=hide hfq
 clear C1 C2 C3 C4 C5 lS lQ hfq
 go_enter Tryz.func94,Tryz.ntmps94
 go_wp2_with fail
 refine (uH K1).mono ?_
 rintro e w1 ⟨rfl,hb⟩
 replace ST:=hide ((uH ST).all hb)
 clear hb K1
 have y0:=(uH ST).a.c0;have y1:=(uH ST).a.c1;have y2:=(uH ST).a.c2
 go_wp2_with fail
 clear y0 y1 y2
 refine (uH K2 _ (uH ST).bel).mono ?_
 rintro e w2 ⟨hans,hb⟩
 have S2:=hide ((uH ST).all hb)
 have HZ:=hide (show w.heap.size≤w1.heap.size from (uH ST).bel.size)
 clear hb ST K2
 rcases hans with ⟨hok,ro,rc,v,R,rfl,hn,hq,hl,hRl,hRm,hRW⟩ | ⟨hok,rfl⟩
 ·obtain ⟨lo,lc,hvl⟩:=hl.slice
  rw [hRl] at hvl
  subst hvl
  have ba:=below_alloc9 w2 (.cells #[.int .i64 r,.int .i64 c,.slice ro n rc] 24)
  have HGB:=hide (uH S2).r2.lt
  have RB:=hide (BoxM.new w2 (.int .i64 r) (.int .i64 c) (.slice ro n rc))
  replace S2:=hide ((uH S2).all ba)
  have HQ:=hide (hq.below ba)
  have HRW:=hide (RowIf.all hRW ba)
  have HN:=hide (hn.least (uH HZ))
  have HL:=hide ((hl.least (Nat.zero_le _)).below ba)
  have HRL:=hide hRl;have HRM:=hide hRm;have HOK:=hide hok
  clear ba hq hn hl hRl hRm hok HZ hRW
  have y0:=(uH S2).a.c0
  go_wp2_with fail
  clear y0
  refine (uH K3 _ lo lc R (uH S2).bel (uH HL) (uH HRL) (uH HRM)).mono ?_
  rintro e w3 ⟨Q,qo,qc,hQ,lQ,rfl,hn,hq,hb⟩
  have ba:=below_alloc9 w3 (.cells #[.int .i64 r,.int .i64 r,.slice qo nq qc] 24)
  have HGA:=hide ((uH S2).all hb).r2.lt
  have QB:=hide (BoxM.new w3 (.int .i64 r) (.int .i64 r) (.slice qo nq qc))
  have HN3:=hide (hn.least (uH S2).bel.size)
  have HOF:=hide (show 0 < K→∀ g,ro = some ⟨g,0,none⟩→OffB (some g) qo (mxL Q) from fun hk g e=>OffB.new hn (fun k ek=>by
   obtain ⟨g',e',_,q⟩:=uH HRW hk
   rw [e'] at e
   cases e
   cases ek
   exact q.lt))
  replace HRW:=hide (((uH HRW).all hb).all ba)
  replace S2:=hide (((uH S2).all hb).all ba)
  replace RB:=hide (((uH RB).all hb).all ba)
  replace HQ:=hide (((uH HQ).below hb).below ba)
  have HQ3:=hide (hq.below ba)
  have HQQ:=hide hQ;have LQQ:=hide lQ
  clear hb ba hn hq HL hQ lQ K3
  have y2:=(uH QB).c2
  go_wp2_with fail
  clear y2
  refine (uH K4 _ Q qo qc (uH HQ3) (uH LQQ)).mono ?_
  rintro e w4 ⟨rfl,hb⟩
  replace S2:=hide ((uH S2).all hb)
  replace RB:=hide ((uH RB).all hb)
  replace QB:=hide ((uH QB).all hb)
  replace HQ:=hide ((uH HQ).below hb)
  replace HQ3:=hide ((uH HQ3).below hb)
  replace HRW:=hide ((uH HRW).all hb)
  clear hb K4
  cases hfQ:fnK (mxL Q) nq with
  | false =>
   have hno:Hid ((ok && (fq && fr)) = false):=hide (by
    rcases uH HQQ with e | e
    ·rw [e,uH HFQ] at hfQ
     rw [hfQ];cases ok <;> rfl
    ·rw [e.2];cases ok <;> rfl)
   clear RB QB HQ HQ3
   have X1:=(uH S2).r1;have X2:=(uH S2).r2
   have s0:=X1.c0;have s1:=X1.c1;have s2:=X1.c2
   have f0:=X1.free 0;have f1:=X1.free 1;have f2:=X1.free 2
   have Y1:=X1.put (.int .i64 0) (.int .i64 0) (.slice none 0 0)
   have Y2:=X2.three14 (g:=w.heap.size+1) (by omega) (.int .i64 0) (.int .i64 0) (.slice none 0 0)
   have s3:=Y2.c0;have s4:=Y2.c1;have s5:=Y2.c2
   have f3:=Y2.free 0;have f4:=Y2.free 1;have f5:=Y2.free 2
   have Z1:=Y1.three14 (g:=w.heap.size+1+1) (by omega) (.int .i64 0) (.int .i64 0) (.slice none 0 0)
   have Z2:=Y2.put (.int .i64 0) (.int .i64 0) (.slice none 0 0)
   have z0:=Z1.c0;have z1:=Z1.c1;have z2:=Z1.c2;have z3:=Z2.c0;have z4:=Z2.c1;have z5:=Z2.c2
   have BP:=hide (below_putM (below_putM (uH S2).bel (b:=w.heap.size+1) (by omega) (.int .i64 0) (.int .i64 0) (.slice none 0 0)) (b:=w.heap.size+1+1) (by omega) (.int .i64 0) (.int .i64 0) (.slice none 0 0))
   clear X1 X2 Y1 Y2 Z1 Z2 S2
   go_wp2_with fail
   exact bodyPost_ret (v:=.tuple #[.agg #[.int .i64 0,.int .i64 0,.slice none 0 0],.agg #[.int .i64 0,.int .i64 0,.slice none 0 0],.int .i64 2]) (by simp [results,Tryz.results94,go_sem,z0,z1,z2,z3,z4,z5]) rfl ⟨.inr ⟨uH hno,_,_,rfl,NewM.zero _ _,NewM.zero _ _⟩,uH BP⟩
  | true =>
   have hQe:Q = QF:=by
    rcases uH HQQ with e | e
    ·exact e
    ·rw [e.1] at hfQ;cases hfQ
   subst hQe
   have hfq:fq = true:=by rw [← uH HFQ];exact hfQ
   have y2:=(uH RB).c2
   go_wp2_with fail
   clear y2
   refine (uH K5 _ ro rc (uH HQ)).mono ?_
   rintro e w5 ⟨rfl,hb⟩
   replace S2:=hide ((uH S2).all hb)
   replace RB:=hide ((uH RB).all hb)
   replace QB:=hide ((uH QB).all hb)
   replace HQ:=hide ((uH HQ).below hb)
   replace HQ3:=hide ((uH HQ3).below hb)
   replace HRW:=hide ((uH HRW).all hb)
   clear hb K5
   cases hfr:fr with
   | false =>
    have hno:Hid ((ok && (fq && fr)) = false):=hide (by rw [hfr];cases ok <;> cases fq <;> rfl)
    clear RB QB HQ HQ3
    have X1:=(uH S2).r1;have X2:=(uH S2).r2
    have s0:=X1.c0;have s1:=X1.c1;have s2:=X1.c2
    have f0:=X1.free 0;have f1:=X1.free 1;have f2:=X1.free 2
    have Y1:=X1.put (.int .i64 0) (.int .i64 0) (.slice none 0 0)
    have Y2:=X2.three14 (g:=w.heap.size+1) (by omega) (.int .i64 0) (.int .i64 0) (.slice none 0 0)
    have s3:=Y2.c0;have s4:=Y2.c1;have s5:=Y2.c2
    have f3:=Y2.free 0;have f4:=Y2.free 1;have f5:=Y2.free 2
    have Z1:=Y1.three14 (g:=w.heap.size+1+1) (by omega) (.int .i64 0) (.int .i64 0) (.slice none 0 0)
    have Z2:=Y2.put (.int .i64 0) (.int .i64 0) (.slice none 0 0)
    have z0:=Z1.c0;have z1:=Z1.c1;have z2:=Z1.c2;have z3:=Z2.c0;have z4:=Z2.c1;have z5:=Z2.c2
    have BP:=hide (below_putM (below_putM (uH S2).bel (b:=w.heap.size+1) (by omega) (.int .i64 0) (.int .i64 0) (.slice none 0 0)) (b:=w.heap.size+1+1) (by omega) (.int .i64 0) (.int .i64 0) (.slice none 0 0))
    clear X1 X2 Y1 Y2 Z1 Z2 S2
    go_wp2_with fail
    exact bodyPost_ret (v:=.tuple #[.agg #[.int .i64 0,.int .i64 0,.slice none 0 0],.agg #[.int .i64 0,.int .i64 0,.slice none 0 0],.int .i64 2]) (by simp [results,Tryz.results94,go_sem,z0,z1,z2,z3,z4,z5]) rfl ⟨.inr ⟨uH hno,_,_,rfl,NewM.zero _ _,NewM.zero _ _⟩,uH BP⟩
   | true =>
    have hyes:Hid ((ok && (fq && fr)) = true):=hide (by rw [uH HOK,hfq,hfr];rfl)
    clear hfQ HFQ HQQ hfq hfr
    go_wp2_with fail
    refine at_world (fun W=>FcSt w W r c ao n cap∧BoxM W w2.heap.size (.int .i64 r) (.int .i64 c) (.slice ro n rc)∧BoxM W w3.heap.size (.int .i64 r) (.int .i64 r) (.slice qo nq qc)∧BitsAt W ro rc (mxL S)∧BitsAt W qo qc (mxL Q)∧RowIf K n W ro rc S) ⟨uH S2,uH RB,uH QB,uH HQ,uH HQ3,uH HRW⟩ ?_
    clear S2 RB QB HQ HQ3 HRW
    rintro W ⟨s2,rb,qb,hq,hq3,hrw⟩
    have S2:=hide (s2)
    have y0:=(rb).c0;have y1:=(rb).c1;have y2:=(rb).c2
    have y3:=(qb).c0;have y4:=(qb).c1;have y5:=(qb).c2
    have Q1:=hq;have Q3:=hq3
    clear s2 rb qb hq hq3
    have X1:=(uH S2).r1;have X2:=(uH S2).r2
    have s0:=X1.c0;have s1:=X1.c1;have s2:=X1.c2
    have f0:=X1.free 0;have f1:=X1.free 1;have f2:=X1.free 2
    have Y1:=X1.put (.int .i64 r) (.int .i64 r) (.slice qo nq qc)
    have Y2:=X2.three14 (g:=w.heap.size+1) (by omega) (.int .i64 r) (.int .i64 r) (.slice qo nq qc)
    have s3:=Y2.c0;have s4:=Y2.c1;have s5:=Y2.c2
    have f3:=Y2.free 0;have f4:=Y2.free 1;have f5:=Y2.free 2
    have Z1:=Y1.three14 (g:=w.heap.size+1+1) (by omega) (.int .i64 r) (.int .i64 c) (.slice ro n rc)
    have Z2:=Y2.put (.int .i64 r) (.int .i64 c) (.slice ro n rc)
    have z0:=Z1.c0;have z1:=Z1.c1;have z2:=Z1.c2;have z3:=Z2.c0;have z4:=Z2.c1;have z5:=Z2.c2
    have BP:=hide (below_putM (below_putM (uH S2).bel (b:=w.heap.size+1) (by omega) (.int .i64 r) (.int .i64 r) (.slice qo nq qc)) (b:=w.heap.size+1+1) (by omega) (.int .i64 r) (.int .i64 c) (.slice ro n rc))
    have PR:=hide ((Q1.putM X1 (.int .i64 r) (.int .i64 r) (.slice qo nq qc)).putM Y2 (.int .i64 r) (.int .i64 c) (.slice ro n rc))
    have PW:=hide ((hrw.putM X1 (.int .i64 r) (.int .i64 r) (.slice qo nq qc)).putM Y2 (.int .i64 r) (.int .i64 c) (.slice ro n rc))
    have PQ:=hide ((Q3.putM X1 (.int .i64 r) (.int .i64 r) (.slice qo nq qc)).putM Y2 (.int .i64 r) (.int .i64 c) (.slice ro n rc))
    clear X1 X2 Y1 Y2 Z1 Z2 S2 Q1 Q3 hrw
    have HS0:=hide (show _∧_∧_∧_∧_∧_ from ⟨cell_drew14 y3,cell_drew14 y4,cell_drew14 y5,cell_drew14 y0,cell_drew14 y1,cell_drew14 y2⟩)
    have HP2:=hide (show _∧_∧_∧_∧_∧_ from ⟨cell_three14 (u:=.int .i64 r) (u':=.int .i64 r) (u'':=.slice qo nq qc) (show w3.heap.size ≠ w.heap.size+1 by have:=uH HGA;omega) y3,cell_three14 (u:=.int .i64 r) (u':=.int .i64 r) (u'':=.slice qo nq qc) (show w3.heap.size ≠ w.heap.size+1 by have:=uH HGA;omega) y4,cell_three14 (u:=.int .i64 r) (u':=.int .i64 r) (u'':=.slice qo nq qc) (show w3.heap.size ≠ w.heap.size+1 by have:=uH HGA;omega) y5,cell_three14 (u:=.int .i64 r) (u':=.int .i64 r) (u'':=.slice qo nq qc) (show w2.heap.size ≠ w.heap.size+1 by have:=uH HGB;omega) y0,cell_three14 (u:=.int .i64 r) (u':=.int .i64 r) (u'':=.slice qo nq qc) (show w2.heap.size ≠ w.heap.size+1 by have:=uH HGB;omega) y1,cell_three14 (u:=.int .i64 r) (u':=.int .i64 r) (u'':=.slice qo nq qc) (show w2.heap.size ≠ w.heap.size+1 by have:=uH HGB;omega) y2⟩)
    have HS2:=hide (show _∧_∧_∧_∧_∧_ from ⟨cell_three14d (u:=.int .i64 r) (u':=.int .i64 r) (u'':=.slice qo nq qc) (show w3.heap.size ≠ w.heap.size+1 by have:=uH HGA;omega) y3,cell_three14d (u:=.int .i64 r) (u':=.int .i64 r) (u'':=.slice qo nq qc) (show w3.heap.size ≠ w.heap.size+1 by have:=uH HGA;omega) y4,cell_three14d (u:=.int .i64 r) (u':=.int .i64 r) (u'':=.slice qo nq qc) (show w3.heap.size ≠ w.heap.size+1 by have:=uH HGA;omega) y5,cell_three14d (u:=.int .i64 r) (u':=.int .i64 r) (u'':=.slice qo nq qc) (show w2.heap.size ≠ w.heap.size+1 by have:=uH HGB;omega) y0,cell_three14d (u:=.int .i64 r) (u':=.int .i64 r) (u'':=.slice qo nq qc) (show w2.heap.size ≠ w.heap.size+1 by have:=uH HGB;omega) y1,cell_three14d (u:=.int .i64 r) (u':=.int .i64 r) (u'':=.slice qo nq qc) (show w2.heap.size ≠ w.heap.size+1 by have:=uH HGB;omega) y2⟩)
    have HS3:=hide (show _∧_∧_∧_∧_∧_ from ⟨cell_three14d (u:=.int .i64 r) (u':=.int .i64 c) (u'':=.slice ro n rc) (show w3.heap.size ≠ w.heap.size+1+1 by have:=uH HGA;omega) (uH HP2).1,cell_three14d (u:=.int .i64 r) (u':=.int .i64 c) (u'':=.slice ro n rc) (show w3.heap.size ≠ w.heap.size+1+1 by have:=uH HGA;omega) (uH HP2).2.1,cell_three14d (u:=.int .i64 r) (u':=.int .i64 c) (u'':=.slice ro n rc) (show w3.heap.size ≠ w.heap.size+1+1 by have:=uH HGA;omega) (uH HP2).2.2.1,cell_three14d (u:=.int .i64 r) (u':=.int .i64 c) (u'':=.slice ro n rc) (show w2.heap.size ≠ w.heap.size+1+1 by have:=uH HGB;omega) (uH HP2).2.2.2.1,cell_three14d (u:=.int .i64 r) (u':=.int .i64 c) (u'':=.slice ro n rc) (show w2.heap.size ≠ w.heap.size+1+1 by have:=uH HGB;omega) (uH HP2).2.2.2.2.1,cell_three14d (u:=.int .i64 r) (u':=.int .i64 c) (u'':=.slice ro n rc) (show w2.heap.size ≠ w.heap.size+1+1 by have:=uH HGB;omega) (uH HP2).2.2.2.2.2⟩)
    clear y0 y1 y2 y3 y4 y5
    refine wp_region_held_drew (S:=(fun w'=>w'.cell? ⟨w3.heap.size,0,none⟩ = some (.int .i64 (r:Int))∧w'.cell? ⟨w3.heap.size,1,none⟩ = some (.int .i64 (r:Int))∧w'.cell? ⟨w3.heap.size,2,none⟩ = some (.slice qo nq qc)∧w'.cell? ⟨w2.heap.size,0,none⟩ = some (.int .i64 (r:Int))∧w'.cell? ⟨w2.heap.size,1,none⟩ = some (.int .i64 (c:Int))∧w'.cell? ⟨w2.heap.size,2,none⟩ = some (.slice ro n rc))) (by kernel_rfl) ?_ (fun hHeld=>?_)
    ·exact uH HS0
    refine wpAnyH_take (i:=0) (oi:={ dst:=some 44,op:=Op.load 24 (Operand.tmp 9),type:=24,pos := "qr.go:25",after:=#[],guard:=none }) (v:=(Value.agg #[.int .i64 (r:Int),.int .i64 (r:Int),.slice qo nq qc])) rfl (by kernel_rfl) (by kernel_rfl) (by kernel_rfl) (fun _ _ _ h=>h) (Or.inl ⟨by rfl,?_⟩) (by assumption) ?_
    ·(intro w hSw;(try dsimp only at hSw);go_simp)
    simp only [Act.put,List.setIfInBounds_toArray,List.set_cons_zero,List.set_cons_succ]
    refine wpAnyH_take (i:=1) (oi:={ dst:=some 45,op:=Op.load 24 (Operand.tmp 6),type:=24,pos := "qr.go:25",after:=#[{ on:=2,ground:=Ground.gcOnly Departure.lateStores }],guard:=none }) (v:=(Value.agg #[.int .i64 (r:Int),.int .i64 (c:Int),.slice ro n rc])) rfl (by kernel_rfl) (by kernel_rfl) (by kernel_rfl) (fun _ _ _ h=>h) (Or.inl ⟨by rfl,?_⟩) (by assumption) ?_
    ·(intro w hSw;(try dsimp only at hSw);go_simp)
    simp only [Act.put,List.setIfInBounds_toArray,List.set_cons_zero,List.set_cons_succ]
    refine wpAnyH_ready (rs:=[2]) (by kernel_rfl) (by simp) ?_
    refine AllReadyH.cons (o:={ dst:=none,op:=Op.store 24 (Operand.tmp 2) (Operand.tmp 44),type:=0,pos := "qr.go:25",after:=#[{ on:=0,ground:=Ground.data },{ on:=0,ground:=Ground.phase },{ on:=1,ground:=Ground.textOnly Departure.lateStores }],guard:=none }) rfl (fun KK hK=>?_) AllReadyH.nil
    go_simp
    refine hK.out _ _ ?_ (fun hHeld=>?_)
    ·exact uH HS2
    clear hK KK
    refine wpAnyH_ready (rs:=[3]) (by kernel_rfl) (by simp) ?_
    refine AllReadyH.cons (o:={ dst:=none,op:=Op.store 24 (Operand.tmp 3) (Operand.tmp 45),type:=0,pos := "qr.go:25",after:=#[{ on:=1,ground:=Ground.data },{ on:=2,ground:=Ground.chain },{ on:=0,ground:=Ground.phase },{ on:=1,ground:=Ground.phase },{ on:=2,ground:=Ground.phase }],guard:=none }) rfl (fun KK hK=>?_) AllReadyH.nil
    go_simp
    refine hK.out _ _ ?_ (fun hHeld=>?_)
    ·exact uH HS3
    clear hK KK
    refine wpAnyH_ready (rs:=[4]) (by kernel_rfl) (by simp) ?_
    refine AllReadyH.cons (o:={ dst:=some 4,op:=Op.assign (Operand.const (Value.int IntKind.i64 0)),type:=27,pos := "qr.go:25",after:=#[{ on:=3,ground:=Ground.chain },{ on:=0,ground:=Ground.phase },{ on:=1,ground:=Ground.phase },{ on:=2,ground:=Ground.phase },{ on:=3,ground:=Ground.phase }],guard:=none }) rfl (fun KK hK=>?_) AllReadyH.nil
    go_simp
    refine hK.out _ _ ?_ (fun hHeld=>?_)
    ·exact uH HS3
    clear hK KK
    refine wpAnyH_done (by kernel_rfl) ?_ _
    clear HS0 HS2 HS3 HP2
    go_wp2_with fail
    refine bodyPost_ret (v:=.tuple #[.agg #[.int .i64 r,.int .i64 r,.slice qo nq qc],.agg #[.int .i64 r,.int .i64 c,.slice ro n rc],.int .i64 0]) (by simp [results,Tryz.results94,go_sem,z0,z1,z2,z3,z4,z5]) rfl ⟨.inl ⟨uH hyes,qo,qc,ro,rc,rfl,uH HN3,(uH PQ).below (Below.refl _ _).drew,uH HN,(uH PR).below (Below.refl _ _).drew,(uH PW).all (Below.refl _ _).drew,uH HOF⟩,(uH BP).drew⟩
 ·have hno:Hid ((ok && (fq && fr)) = false):=hide (by rw [hok];rfl)
  have ba:=below_alloc9 w2 (.cells #[.int .i64 0,.int .i64 0,.slice none 0 0] 24)
  replace S2:=hide ((uH S2).all ba)
  clear ba hok HZ
  have X1:=(uH S2).r1;have X2:=(uH S2).r2
  have s0:=X1.c0;have s1:=X1.c1;have s2:=X1.c2
  have f0:=X1.free 0;have f1:=X1.free 1;have f2:=X1.free 2
  have Y1:=X1.put (.int .i64 0) (.int .i64 0) (.slice none 0 0)
  have Y2:=X2.three14 (g:=w.heap.size+1) (by omega) (.int .i64 0) (.int .i64 0) (.slice none 0 0)
  have s3:=Y2.c0;have s4:=Y2.c1;have s5:=Y2.c2
  have f3:=Y2.free 0;have f4:=Y2.free 1;have f5:=Y2.free 2
  have Z1:=Y1.three14 (g:=w.heap.size+1+1) (by omega) (.int .i64 0) (.int .i64 0) (.slice none 0 0)
  have Z2:=Y2.put (.int .i64 0) (.int .i64 0) (.slice none 0 0)
  have z0:=Z1.c0;have z1:=Z1.c1;have z2:=Z1.c2;have z3:=Z2.c0;have z4:=Z2.c1;have z5:=Z2.c2
  have BP:=hide (below_putM (below_putM (uH S2).bel (b:=w.heap.size+1) (by omega) (.int .i64 0) (.int .i64 0) (.slice none 0 0)) (b:=w.heap.size+1+1) (by omega) (.int .i64 0) (.int .i64 0) (.slice none 0 0))
  clear X1 X2 Y1 Y2 Z1 Z2 S2
  go_wp2_with fail
  exact bodyPost_ret (v:=.tuple #[.agg #[.int .i64 0,.int .i64 0,.slice none 0 0],.agg #[.int .i64 0,.int .i64 0,.slice none 0 0],.int .i64 2]) (by simp [results,Tryz.results94,go_sem,z0,z1,z2,z3,z4,z5]) rfl ⟨.inr ⟨uH hno,_,_,rfl,NewM.zero _ _,NewM.zero _ _⟩,uH BP⟩
end Go.Proofs.YtcbcmlaogehimaaGreatDoor
namespace Go.Proofs.YtcbcmlaogehimaaGreatDoor
open Go.RowKit
attribute [local go_sem ↓] Go.wp_at_zero Go.wp_at_succ
theorem thin_err (r c:Int) (ao:Option Addr) (n cap:Nat) (er:Int) (w:World) (her:er = 1 ∨ er = 4 ∨ er = 2)
  (C1:∀ w',Below w.heap.size w w'→Calls Tryz.prog 94 #[.agg #[.int .i64 r,.int .i64 c,.slice ao n cap]] w' fun e w''=>∃ v u,e = .returned (.tuple #[v,u,.int .i64 er])∧NewM w'.heap.size w'' 0 0 [] v∧NewM w'.heap.size w'' 0 0 [] u∧Below w'.heap.size w' w'') :
  Calls Tryz.prog 49 #[.agg #[.int .i64 r,.int .i64 c,.slice ao n cap]] w fun e w'=>∃ v u,e = .returned (.tuple #[v,u,.int .i64 er])∧NewM w.heap.size w' 0 0 [] v∧NewM w.heap.size w' 0 0 [] u∧Below w.heap.size w w':=by
 have ST:=hide (FcSt.start w r c ao n cap)
 have K1:=hide (C1 _ (uH ST).bel)
 clear C1
 rcases her with rfl | rfl | rfl
 all_goals
  go_enter Tryz.func49,Tryz.ntmps49
  go_wp2_with fail
  refine (uH K1).mono ?_
  rintro e w1 ⟨v,u,rfl,⟨vo,vc,rfl,_,_⟩,⟨uo,uc,rfl,_,_⟩,hb⟩
  simp only [List.length_nil]
  have b1:=below_alloc9 w1 (.cells #[.int .i64 0,.int .i64 0,.slice vo 0 vc] 24)
  have b2:=below_alloc9 (w1.alloc (.cells #[.int .i64 0,.int .i64 0,.slice vo 0 vc] 24)) (.cells #[.int .i64 0,.int .i64 0,.slice uo 0 uc] 24)
  replace ST:=hide ((((uH ST).all hb).all b1).all b2)
  clear hb K1 b1 b2
  have X1:=(uH ST).r1;have X2:=(uH ST).r2
  have s0:=X1.c0;have s1:=X1.c1;have s2:=X1.c2
  have f0:=X1.free 0;have f1:=X1.free 1;have f2:=X1.free 2
  have Y1:=X1.put (.int .i64 0) (.int .i64 0) (.slice none 0 0)
  have Y2:=X2.three14 (g:=w.heap.size+1) (by omega) (.int .i64 0) (.int .i64 0) (.slice none 0 0)
  have s3:=Y2.c0;have s4:=Y2.c1;have s5:=Y2.c2
  have f3:=Y2.free 0;have f4:=Y2.free 1;have f5:=Y2.free 2
  have Z1:=Y1.three14 (g:=w.heap.size+1+1) (by omega) (.int .i64 0) (.int .i64 0) (.slice none 0 0)
  have Z2:=Y2.put (.int .i64 0) (.int .i64 0) (.slice none 0 0)
  have z0:=Z1.c0;have z1:=Z1.c1;have z2:=Z1.c2;have z3:=Z2.c0;have z4:=Z2.c1;have z5:=Z2.c2
  have BP:=hide (below_putM (below_putM (uH ST).bel (b:=w.heap.size+1) (by omega) (.int .i64 0) (.int .i64 0) (.slice none 0 0)) (b:=w.heap.size+1+1) (by omega) (.int .i64 0) (.int .i64 0) (.slice none 0 0))
  clear X1 X2 Y1 Y2 Z1 Z2 ST
  go_wp2_with fail
  exact bodyPost_ret (v:=.tuple #[.agg #[.int .i64 0,.int .i64 0,.slice none 0 0],.agg #[.int .i64 0,.int .i64 0,.slice none 0 0],.int .i64 _]) (by simp [results,Tryz.results49,go_sem,z0,z1,z2,z3,z4,z5]) rfl ⟨_,_,rfl,NewM.zero _ _,NewM.zero _ _,uH BP⟩
theorem thin_of (r c n cap m n1 n2 n3 n4:Nat) (ao:Option Addr) (Q R Q2 R2:List Nat) (w:World) (hm:(m:Int) = min (r:Int) (c:Int)) (l1:Q.length = n1) (l2:R.length = n2) (l3:Q2.length = n3) (l4:R2.length = n4)
  (C1:∀ w',Below w.heap.size w w'→Calls Tryz.prog 94 #[.agg #[.int .i64 r,.int .i64 c,.slice ao n cap]] w' fun e w''=>∃ v u,e = .returned (.tuple #[v,u,.int .i64 0])∧NewM w'.heap.size w'' r r Q v∧NewM w'.heap.size w'' r c R u∧Below w'.heap.size w' w'')
  (C2:∀ w' qo qc,BitsAt w' qo qc (mxL Q)→Calls Tryz.prog 95 #[.agg #[.int .i64 r,.int .i64 r,.slice qo n1 qc],.int .i64 0,.int .i64 0,.int .i64 r,.int .i64 m] w' fun e w''=>∃ v,e = .returned (.tuple #[v,.int .i64 0])∧NewM w'.heap.size w'' r m Q2 v∧Below w'.heap.size w' w'')
  (C3:∀ w' ro rc,BitsAt w' ro rc (mxL R)→Calls Tryz.prog 95 #[.agg #[.int .i64 r,.int .i64 c,.slice ro n2 rc],.int .i64 0,.int .i64 0,.int .i64 m,.int .i64 c] w' fun e w''=>∃ v,e = .returned (.tuple #[v,.int .i64 0])∧NewM w'.heap.size w'' m c R2 v∧Below w'.heap.size w' w'') :
  Calls Tryz.prog 49 #[.agg #[.int .i64 r,.int .i64 c,.slice ao n cap]] w fun e w'=>∃ v u,e = .returned (.tuple #[v,u,.int .i64 0])∧NewM w.heap.size w' r m Q2 v∧NewM w.heap.size w' m c R2 u∧Below w.heap.size w w':=by
 have hmin:∀ (W:World) ts t,(Builtin.min_ ts t #[.int .i64 (r:Int),.int .i64 (c:Int)]).run Tryz.prog W = .ok (.int .i64 (m:Int)) W:=fun W ts t=>by rw [hm];exact min2_run _ W ts t _ _
 have ST:=hide (FcSt.start w r c ao n cap)
 have K1:=hide (C1 _ (uH ST).bel);have K2:=hide C2;have K3:=hide C3;have L1:=hide l1;have L2:=hide l2;have L3:=hide l3;have L4:=hide l4
 clear C1 C2 C3 l1 l2 l3 l4 hm
 go_enter Tryz.func49,Tryz.ntmps49
 go_wp2_with fail
 refine (uH K1).mono ?_
 rintro e w1 ⟨v,u,rfl,⟨qo,qc,rfl,_,hq⟩,⟨ro,rc,rfl,_,hr⟩,hb⟩
 rw [uH L1,uH L2]
 have b1:=below_alloc9 w1 (.cells #[.int .i64 r,.int .i64 r,.slice qo n1 qc] 24)
 have s1:=size_alloc9 w1 (.cells #[.int .i64 r,.int .i64 r,.slice qo n1 qc] 24)
 have b2:=below_alloc9 (w1.alloc (.cells #[.int .i64 r,.int .i64 r,.slice qo n1 qc] 24)) (.cells #[.int .i64 r,.int .i64 c,.slice ro n2 rc] 24)
 have QB:=hide ((BoxM.new w1 (.int .i64 r) (.int .i64 r) (.slice qo n1 qc)).all b2)
 have RB:=hide (BoxM.new (w1.alloc (.cells #[.int .i64 r,.int .i64 r,.slice qo n1 qc] 24)) (.int .i64 r) (.int .i64 c) (.slice ro n2 rc))
 rw [s1] at RB
 replace ST:=hide ((((uH ST).all hb).all b1).all b2)
 have HQ:=hide ((hq.below b1).below b2)
 have HR:=hide ((hr.below b1).below b2)
 clear hb b1 b2 s1 hq hr K1
 have y0:=(uH ST).a.c0;have y1:=(uH ST).a.c1
 have q0:=(uH QB).c0;have q1:=(uH QB).c1;have q2:=(uH QB).c2
 go_wp2_with fail
 clear y0 y1 q0 q1 q2 hmin
 refine (uH K2 _ qo qc (uH HQ)).mono ?_
 rintro e w2 ⟨v,rfl,⟨co,cc,rfl,hn,hq⟩,hb⟩
 rw [uH L3]
 have ba:=below_alloc9 w2 (.cells #[.int .i64 r,.int .i64 m,.slice co n3 cc] 24)
 have HGA:=hide ((uH ST).all hb).r2.lt
 have CB:=hide (BoxM.new w2 (.int .i64 r) (.int .i64 m) (.slice co n3 cc))
 have HN2:=hide (hn.least (uH ST).bel.size)
 replace ST:=hide (((uH ST).all hb).all ba)
 replace RB:=hide (((uH RB).all hb).all ba)
 replace HR:=hide (((uH HR).below hb).below ba)
 have HC:=hide (hq.below ba)
 clear hb ba hn hq K2 QB HQ
 have q0:=(uH RB).c0;have q1:=(uH RB).c1;have q2:=(uH RB).c2
 go_wp2_with fail
 clear q0 q1 q2
 refine (uH K3 _ ro rc (uH HR)).mono ?_
 rintro e w3 ⟨v,rfl,⟨to',tc,rfl,hn,hq⟩,hb⟩
 rw [uH L4]
 have ba:=below_alloc9 w3 (.cells #[.int .i64 m,.int .i64 c,.slice to' n4 tc] 24)
 have HGB:=hide ((uH ST).all hb).r2.lt
 have TB:=hide (BoxM.new w3 (.int .i64 m) (.int .i64 c) (.slice to' n4 tc))
 have HN3:=hide (hn.least (uH ST).bel.size)
 replace ST:=hide (((uH ST).all hb).all ba)
 replace CB:=hide (((uH CB).all hb).all ba)
 replace HC:=hide (((uH HC).below hb).below ba)
 have HT:=hide (hq.below ba)
 clear hb ba hn hq K3 RB HR
 go_wp2_with fail
 refine at_world (fun W=>FcSt w W r c ao n cap∧BoxM W w2.heap.size (.int .i64 r) (.int .i64 m) (.slice co n3 cc)∧BoxM W w3.heap.size (.int .i64 m) (.int .i64 c) (.slice to' n4 tc)∧BitsAt W co cc (mxL Q2)∧BitsAt W to' tc (mxL R2)) ⟨uH ST,uH CB,uH TB,uH HC,uH HT⟩ ?_
 clear ST CB TB HC HT
 rintro W ⟨s2,cb,tb,hq,hq3⟩
 have S2:=hide (s2)
 have y3:=(cb).c0;have y4:=(cb).c1;have y5:=(cb).c2
 have y0:=(tb).c0;have y1:=(tb).c1;have y2:=(tb).c2
 have Q1:=hq;have Q3:=hq3
 clear s2 cb tb hq hq3
 have X1:=(uH S2).r1;have X2:=(uH S2).r2
 have s0:=X1.c0;have s1:=X1.c1;have s2:=X1.c2
 have f0:=X1.free 0;have f1:=X1.free 1;have f2:=X1.free 2
 have Y1:=X1.put (.int .i64 r) (.int .i64 m) (.slice co n3 cc)
 have Y2:=X2.three14 (g:=w.heap.size+1) (by omega) (.int .i64 r) (.int .i64 m) (.slice co n3 cc)
 have s3:=Y2.c0;have s4:=Y2.c1;have s5:=Y2.c2
 have f3:=Y2.free 0;have f4:=Y2.free 1;have f5:=Y2.free 2
 have Z1:=Y1.three14 (g:=w.heap.size+1+1) (by omega) (.int .i64 m) (.int .i64 c) (.slice to' n4 tc)
 have Z2:=Y2.put (.int .i64 m) (.int .i64 c) (.slice to' n4 tc)
 have z0:=Z1.c0;have z1:=Z1.c1;have z2:=Z1.c2;have z3:=Z2.c0;have z4:=Z2.c1;have z5:=Z2.c2
 have BP:=hide (below_putM (below_putM (uH S2).bel (b:=w.heap.size+1) (by omega) (.int .i64 r) (.int .i64 m) (.slice co n3 cc)) (b:=w.heap.size+1+1) (by omega) (.int .i64 m) (.int .i64 c) (.slice to' n4 tc))
 have PQ:=hide ((Q1.putM X1 (.int .i64 r) (.int .i64 m) (.slice co n3 cc)).putM Y2 (.int .i64 m) (.int .i64 c) (.slice to' n4 tc))
 have PR:=hide ((Q3.putM X1 (.int .i64 r) (.int .i64 m) (.slice co n3 cc)).putM Y2 (.int .i64 m) (.int .i64 c) (.slice to' n4 tc))
 clear X1 X2 Y1 Y2 Z1 Z2 S2 Q1 Q3
 have HS0:=hide (show _∧_∧_∧_∧_∧_ from ⟨cell_drew14 y3,cell_drew14 y4,cell_drew14 y5,cell_drew14 y0,cell_drew14 y1,cell_drew14 y2⟩)
 have HP2:=hide (show _∧_∧_∧_∧_∧_ from ⟨cell_three14 (u:=.int .i64 r) (u':=.int .i64 m) (u'':=.slice co n3 cc) (show w2.heap.size ≠ w.heap.size+1 by have:=uH HGA;omega) y3,cell_three14 (u:=.int .i64 r) (u':=.int .i64 m) (u'':=.slice co n3 cc) (show w2.heap.size ≠ w.heap.size+1 by have:=uH HGA;omega) y4,cell_three14 (u:=.int .i64 r) (u':=.int .i64 m) (u'':=.slice co n3 cc) (show w2.heap.size ≠ w.heap.size+1 by have:=uH HGA;omega) y5,cell_three14 (u:=.int .i64 r) (u':=.int .i64 m) (u'':=.slice co n3 cc) (show w3.heap.size ≠ w.heap.size+1 by have:=uH HGB;omega) y0,cell_three14 (u:=.int .i64 r) (u':=.int .i64 m) (u'':=.slice co n3 cc) (show w3.heap.size ≠ w.heap.size+1 by have:=uH HGB;omega) y1,cell_three14 (u:=.int .i64 r) (u':=.int .i64 m) (u'':=.slice co n3 cc) (show w3.heap.size ≠ w.heap.size+1 by have:=uH HGB;omega) y2⟩)
 have HS2:=hide (show _∧_∧_∧_∧_∧_ from ⟨cell_three14d (u:=.int .i64 r) (u':=.int .i64 m) (u'':=.slice co n3 cc) (show w2.heap.size ≠ w.heap.size+1 by have:=uH HGA;omega) y3,cell_three14d (u:=.int .i64 r) (u':=.int .i64 m) (u'':=.slice co n3 cc) (show w2.heap.size ≠ w.heap.size+1 by have:=uH HGA;omega) y4,cell_three14d (u:=.int .i64 r) (u':=.int .i64 m) (u'':=.slice co n3 cc) (show w2.heap.size ≠ w.heap.size+1 by have:=uH HGA;omega) y5,cell_three14d (u:=.int .i64 r) (u':=.int .i64 m) (u'':=.slice co n3 cc) (show w3.heap.size ≠ w.heap.size+1 by have:=uH HGB;omega) y0,cell_three14d (u:=.int .i64 r) (u':=.int .i64 m) (u'':=.slice co n3 cc) (show w3.heap.size ≠ w.heap.size+1 by have:=uH HGB;omega) y1,cell_three14d (u:=.int .i64 r) (u':=.int .i64 m) (u'':=.slice co n3 cc) (show w3.heap.size ≠ w.heap.size+1 by have:=uH HGB;omega) y2⟩)
 have HS3:=hide (show _∧_∧_∧_∧_∧_ from ⟨cell_three14d (u:=.int .i64 m) (u':=.int .i64 c) (u'':=.slice to' n4 tc) (show w2.heap.size ≠ w.heap.size+1+1 by have:=uH HGA;omega) (uH HP2).1,cell_three14d (u:=.int .i64 m) (u':=.int .i64 c) (u'':=.slice to' n4 tc) (show w2.heap.size ≠ w.heap.size+1+1 by have:=uH HGA;omega) (uH HP2).2.1,cell_three14d (u:=.int .i64 m) (u':=.int .i64 c) (u'':=.slice to' n4 tc) (show w2.heap.size ≠ w.heap.size+1+1 by have:=uH HGA;omega) (uH HP2).2.2.1,cell_three14d (u:=.int .i64 m) (u':=.int .i64 c) (u'':=.slice to' n4 tc) (show w3.heap.size ≠ w.heap.size+1+1 by have:=uH HGB;omega) (uH HP2).2.2.2.1,cell_three14d (u:=.int .i64 m) (u':=.int .i64 c) (u'':=.slice to' n4 tc) (show w3.heap.size ≠ w.heap.size+1+1 by have:=uH HGB;omega) (uH HP2).2.2.2.2.1,cell_three14d (u:=.int .i64 m) (u':=.int .i64 c) (u'':=.slice to' n4 tc) (show w3.heap.size ≠ w.heap.size+1+1 by have:=uH HGB;omega) (uH HP2).2.2.2.2.2⟩)
 clear y0 y1 y2 y3 y4 y5
 refine wp_region_held_drew (S:=(fun w'=>w'.cell? ⟨w2.heap.size,0,none⟩ = some (.int .i64 (r:Int))∧w'.cell? ⟨w2.heap.size,1,none⟩ = some (.int .i64 (m:Int))∧w'.cell? ⟨w2.heap.size,2,none⟩ = some (.slice co n3 cc)∧w'.cell? ⟨w3.heap.size,0,none⟩ = some (.int .i64 (m:Int))∧w'.cell? ⟨w3.heap.size,1,none⟩ = some (.int .i64 (c:Int))∧w'.cell? ⟨w3.heap.size,2,none⟩ = some (.slice to' n4 tc))) (by kernel_rfl) ?_ (fun hHeld=>?_)
 ·exact uH HS0
 refine wpAnyH_take (i:=0) (oi:={ dst:=some 45,op:=Op.load 24 (Operand.tmp 9),type:=24,pos := "qr.go:51",after:=#[],guard:=none }) (v:=(Value.agg #[.int .i64 (r:Int),.int .i64 (m:Int),.slice co n3 cc])) rfl (by kernel_rfl) (by kernel_rfl) (by kernel_rfl) (fun _ _ _ h=>h) (Or.inl ⟨by rfl,?_⟩) (by assumption) ?_
 ·(intro w hSw;(try dsimp only at hSw);go_simp)
 simp only [Act.put,List.setIfInBounds_toArray,List.set_cons_zero,List.set_cons_succ]
 refine wpAnyH_take (i:=1) (oi:={ dst:=some 46,op:=Op.load 24 (Operand.tmp 11),type:=24,pos := "qr.go:51",after:=#[{ on:=2,ground:=Ground.gcOnly Departure.lateStores }],guard:=none }) (v:=(Value.agg #[.int .i64 (m:Int),.int .i64 (c:Int),.slice to' n4 tc])) rfl (by kernel_rfl) (by kernel_rfl) (by kernel_rfl) (fun _ _ _ h=>h) (Or.inl ⟨by rfl,?_⟩) (by assumption) ?_
 ·(intro w hSw;(try dsimp only at hSw);go_simp)
 simp only [Act.put,List.setIfInBounds_toArray,List.set_cons_zero,List.set_cons_succ]
 refine wpAnyH_ready (rs:=[2]) (by kernel_rfl) (by simp) ?_
 refine AllReadyH.cons (o:={ dst:=none,op:=Op.store 24 (Operand.tmp 2) (Operand.tmp 45),type:=0,pos := "qr.go:51",after:=#[{ on:=0,ground:=Ground.data },{ on:=0,ground:=Ground.phase },{ on:=1,ground:=Ground.textOnly Departure.lateStores }],guard:=none }) rfl (fun KK hK=>?_) AllReadyH.nil
 go_simp
 refine hK.out _ _ ?_ (fun hHeld=>?_)
 ·exact uH HS2
 clear hK KK
 refine wpAnyH_ready (rs:=[3]) (by kernel_rfl) (by simp) ?_
 refine AllReadyH.cons (o:={ dst:=none,op:=Op.store 24 (Operand.tmp 3) (Operand.tmp 46),type:=0,pos := "qr.go:51",after:=#[{ on:=1,ground:=Ground.data },{ on:=2,ground:=Ground.chain },{ on:=0,ground:=Ground.phase },{ on:=1,ground:=Ground.phase },{ on:=2,ground:=Ground.phase }],guard:=none }) rfl (fun KK hK=>?_) AllReadyH.nil
 go_simp
 refine hK.out _ _ ?_ (fun hHeld=>?_)
 ·exact uH HS3
 clear hK KK
 refine wpAnyH_ready (rs:=[4]) (by kernel_rfl) (by simp) ?_
 refine AllReadyH.cons (o:={ dst:=some 4,op:=Op.assign (Operand.const (Value.int IntKind.i64 0)),type:=27,pos := "qr.go:51",after:=#[{ on:=3,ground:=Ground.chain },{ on:=0,ground:=Ground.phase },{ on:=1,ground:=Ground.phase },{ on:=2,ground:=Ground.phase },{ on:=3,ground:=Ground.phase }],guard:=none }) rfl (fun KK hK=>?_) AllReadyH.nil
 go_simp
 refine hK.out _ _ ?_ (fun hHeld=>?_)
 ·exact uH HS3
 clear hK KK
 refine wpAnyH_done (by kernel_rfl) ?_ _
 clear HS0 HS2 HS3 HP2
 go_wp2_with fail
 refine bodyPost_ret (v:=.tuple #[.agg #[.int .i64 r,.int .i64 m,.slice co n3 cc],.agg #[.int .i64 m,.int .i64 c,.slice to' n4 tc],.int .i64 0]) (by simp [results,Tryz.results49,go_sem,z0,z1,z2,z3,z4,z5]) rfl ⟨_,_,rfl,⟨co,cc,by rw [uH L3],uH HN2,(uH PQ).below (Below.refl _ _).drew⟩,⟨to',tc,by rw [uH L4],uH HN3,(uH PR).below (Below.refl _ _).drew⟩,(uH BP).drew⟩
theorem qturned_of (r c:Int) (ao:Option Addr) (n cap:Nat) (p s:Int) (bo:Option Addr) (m d n1 n2 x y u v:Nat) (T M:List Nat) (er:Int) (w:World) (l1:T.length = n1) (l2:M.length = n2)
  (C1:∀ w',Below w.heap.size w w'→Calls Tryz.prog 103 #[.agg #[.int .i64 r,.int .i64 c,.slice ao n cap]] w' fun e w''=>∃ v,e = .returned (.tuple #[v,.int .i64 0])∧NewM w'.heap.size w'' x y T v∧Below w'.heap.size w' w'')
  (C2:∀ w' po pc,Below w.heap.size w w'→BitsAt w' po pc (mxL T)→Calls Tryz.prog 75 #[.agg #[.int .i64 x,.int .i64 y,.slice po n1 pc],.agg #[.int .i64 p,.int .i64 s,.slice bo m d]] w' fun e w''=>∃ k,e = .returned (.tuple #[k,.int .i64 er])∧NewM w'.heap.size w'' u v M k∧Below w'.heap.size w' w'') :
  Calls Tryz.prog 51 #[.agg #[.int .i64 r,.int .i64 c,.slice ao n cap],.agg #[.int .i64 p,.int .i64 s,.slice bo m d]] w fun e w'=>∃ k,e = .returned (.tuple #[k,.int .i64 er])∧NewM w.heap.size w' u v M k∧Below w.heap.size w w':=by
 have hbx:=boxes3 w (.int .i64 r) (.int .i64 c) (.slice ao n cap) (.int .i64 p) (.int .i64 s) (.slice bo m d) (.int .i64 0) (.int .i64 0) (.slice none 0 0) _ (Below.refl _ _)
 have K1:=hide (C1 _ hbx.1);have K2:=hide C2;have L1:=hide l1;have L2:=hide l2
 have HB:=hide hbx.1;have HX:=hide hbx.2.2.2;have HM:=hide hbx.2.2.1
 clear C1 C2 hbx l1 l2
 go_enter Tryz.func51,Tryz.ntmps51
 go_wp2_with fail
 refine (uH K1).mono ?_
 rintro e w1 ⟨v1,rfl,⟨vo,vc,rfl,_,hq⟩,hb⟩
 rw [uH L1]
 have ba:=below_alloc9 w1 (.cells #[.int .i64 x,.int .i64 y,.slice vo n1 vc] 24)
 have TB:=hide (BoxM.new w1 (.int .i64 x) (.int .i64 y) (.slice vo n1 vc))
 replace HX:=hide (((uH HX).all hb).all ba)
 replace HM:=hide (((uH HM).all hb).all ba)
 have HQ:=hide (hq.below ba)
 have b1:=(uH HB).trans (hb.mono (uH HB).size)
 replace HB:=hide (b1.trans (ba.mono b1.size))
 clear K1 hb ba b1 hq
 have q0:=(uH TB).c0;have q1:=(uH TB).c1;have q2:=(uH TB).c2
 have q3:=(uH HM).c0;have q4:=(uH HM).c1;have q5:=(uH HM).c2
 go_wp2_with fail
 clear q0 q1 q2 q3 q4 q5
 refine (uH K2 _ vo vc (uH HB) (uH HQ)).mono ?_
 rintro e w2 ⟨k,rfl,⟨ko,kc,rfl,hn,hq⟩,hb⟩
 rw [uH L2]
 have hX:=(uH HX).all hb
 have HN:=hide (hn.least (uH HB).size)
 have hB:=(uH HB).trans (hb.mono (uH HB).size)
 have f0:=hX.free 0;have f1:=hX.free 1;have f2:=hX.free 2
 have s0:=hX.c0;have s1:=hX.c1;have s2:=hX.c2
 have XP:=hX.put (.int .i64 u) (.int .i64 v) (.slice ko n2 kc)
 have z0:=XP.c0;have z1:=XP.c1;have z2:=XP.c2
 have BP:=hide (below_putM hB (b:=w.heap.size+1+1) (by omega) (.int .i64 u) (.int .i64 v) (.slice ko n2 kc))
 have QP:=hide (hq.putM hX (.int .i64 u) (.int .i64 v) (.slice ko n2 kc))
 clear XP hX hB hb hn hq HB HX HM TB HQ K2
 go_wp2_with fail
 refine bodyPost_ret (v:=.tuple #[.agg #[.int .i64 u,.int .i64 v,.slice ko n2 kc],.int .i64 er]) (by simp [results,Tryz.results51,go_sem,z0,z1,z2]) rfl ⟨_,rfl,⟨ko,kc,by rw [uH L2],uH HN,uH QP⟩,uH BP⟩
end Go.Proofs.YtcbcmlaogehimaaGreatDoor
namespace Go.Proofs.YtcbcmlaogehimaaGreatDoor
open Go.RowKit
attribute [local go_sem ↓] Go.wp_at_zero Go.wp_at_succ
def BoxR (w:World) (b:Nat) (x y:Value):Prop:=w.heap[b]? = some (.cells #[x,y] 176 (0,0))
theorem BoxR.c0 {w:World} {b:Nat} {x y:Value} (h:BoxR w b x y):w.cell? ⟨b,0,none⟩ = some x:=by rw [cell_of_row w b 0 _ _ _ h];rfl
theorem BoxR.c1 {w:World} {b:Nat} {x y:Value} (h:BoxR w b x y):w.cell? ⟨b,1,none⟩ = some y:=by rw [cell_of_row w b 1 _ _ _ h];rfl
theorem BoxR.free {w:World} {b:Nat} {x y:Value} (h:BoxR w b x y) (j:Nat):w.frozen? ⟨b,j,none⟩ = false:=frozen_of_row w b j _ _ h
theorem BoxR.lt {w:World} {b:Nat} {x y:Value} (h:BoxR w b x y):b < w.heap.size:=(Array.getElem?_eq_some_iff.1 h).1
theorem BoxR.below {w w':World} {b:Nat} {x y:Value} (h:BoxR w b x y) {B:Nat} (hb:Below B w w') (hlt:b < B):BoxR w' b x y:=(hb.block b hlt).trans h
theorem BoxR.new (w:World) (x y:Value):BoxR (w.alloc (.cells #[x,y] 176)) w.heap.size x y:=heap_alloc_new w _
theorem BoxR.all {w w':World} {b:Nat} {x y:Value} (h:BoxR w b x y) (hb:Below w.heap.size w w'):BoxR w' b x y:=h.below hb h.lt
theorem BoxR.other {w:World} {b:Nat} {x y:Value} (h:BoxR w b x y) {p:Addr} (hp:b ≠ p.block) (u:Value):BoxR (w.setCell p u) b x y:=(Below.heap_setCell w p u b hp).trans h
theorem BoxR.three {w:World} {b g:Nat} {x y:Value} (h:BoxR w b x y) (hg:b ≠ g) (u u' u'':Value):BoxR (((w.setCell ⟨g,0,none⟩ u).setCell ⟨g,1,none⟩ u').setCell ⟨g,2,none⟩ u'') b x y :=
 ((h.other (p:=⟨g,0,none⟩) hg _).other (p:=⟨g,1,none⟩) hg _).other (p:=⟨g,2,none⟩) hg _
theorem BoxR.put {w:World} {b:Nat} {x y:Value} (h:BoxR w b x y) (u u':Value):BoxR ((w.setCell ⟨b,0,none⟩ u).setCell ⟨b,1,none⟩ u') b u u':=by
 have h1:=heap_setCell_same w b 0 _ _ u h
 have h2:=heap_setCell_same (w.setCell ⟨b,0,none⟩ u) b 1 _ _ u' h1
 unfold BoxR
 rw [h2]
 simp
theorem BoxR.grown {w w':World} {b:Nat} {x y:Value} (h:BoxR w b x y) {o:Option Nat} (hg:w.grownBy w' o) (ho:o ≠ some b):BoxR w' b x y :=
 (hg.block b h.lt ho.symm).trans h
theorem BoxM.two16 {w:World} {b g:Nat} {x y z:Value} (h:BoxM w b x y z) (hg:b ≠ g) (u u':Value):BoxM ((w.setCell ⟨g,0,none⟩ u).setCell ⟨g,1,none⟩ u') b x y z :=
 (h.other (p:=⟨g,0,none⟩) hg _).other (p:=⟨g,1,none⟩) hg _
theorem RowB.two16 {w:World} {b g:Nat} {S:List Nat} (h:RowB w b S) (hg:b ≠ g) (u u':Value):RowB ((w.setCell ⟨g,0,none⟩ u).setCell ⟨g,1,none⟩ u') b S:=by
 unfold RowB
 rw [Below.heap_setCell _ ⟨g,1,none⟩ u' b hg,Below.heap_setCell _ ⟨g,0,none⟩ u b hg]
 exact h
theorem below_putR {w w':World} {B b:Nat} (h:Below B w w') (hb:B≤b) (u u':Value):Below B w ((w'.setCell ⟨b,0,none⟩ u).setCell ⟨b,1,none⟩ u') :=
 (h.setCell hb _).setCell hb _
theorem bits_putR {w:World} {g:Nat} {ao:Option Addr} {cap:Nat} {I:List Int} (h:BitsAt w ao cap I) (ho:OffB (some g) ao I) (u u':Value):BitsAt ((w.setCell ⟨g,0,none⟩ u).setCell ⟨g,1,none⟩ u') ao cap I :=
 bits_grownOff (bits_grownOff h ho (grown_set14 w g 0 u)) ho (grown_set14 _ g 1 u')
structure DwSt (w wr:World) (r c n cap:Nat) (ro:Option Addr) (S:List Nat):Prop where
 bel:Below w.heap.size w wr
 a:BoxM wr w.heap.size (.int .i64 r) (.int .i64 c) (.slice ro n cap)
 res:BoxM wr (w.heap.size+1) (.int .i64 0) (.int .i64 0) (.slice none 0 0)
 mi:BoxR wr (w.heap.size+1+1) (.slice none 0 0) (.int .u64 0)
 bits:BitsAt wr ro cap (mxL S)
theorem DwSt.all {w wr w':World} {r c n cap:Nat} {ro:Option Addr} {S:List Nat} (t:DwSt w wr r c n cap ro S) (hb:Below wr.heap.size wr w'):DwSt w w' r c n cap ro S :=
 ⟨t.bel.trans (hb.mono t.bel.size),t.a.all hb,t.res.all hb,t.mi.all hb,t.bits.below hb⟩
theorem DwSt.start {w:World} {r c n cap:Nat} {ro:Option Addr} {S:List Nat} (hS:BitsAt w ro cap (mxL S)):DwSt w (((w.alloc (.cells #[.int .i64 r,.int .i64 c,.slice ro n cap] 24)).alloc (.cells #[.int .i64 0,.int .i64 0,.slice none 0 0] 24)).alloc (.cells #[.slice none 0 0,.int .u64 0] 176)) r c n cap ro S:=by
 have b0:=below_alloc9 w (.cells #[.int .i64 r,.int .i64 c,.slice ro n cap] 24)
 have s0:=size_alloc9 w (.cells #[.int .i64 r,.int .i64 c,.slice ro n cap] 24)
 have x0:=BoxM.new w (.int .i64 r) (.int .i64 c) (.slice ro n cap)
 generalize w.alloc (.cells #[.int .i64 r,.int .i64 c,.slice ro n cap] 24) = w0 at *
 have b1:=below_alloc9 w0 (.cells #[.int .i64 0,.int .i64 0,.slice none 0 0] 24)
 have s1:=size_alloc9 w0 (.cells #[.int .i64 0,.int .i64 0,.slice none 0 0] 24)
 have x1:=BoxM.new w0 (.int .i64 0) (.int .i64 0) (.slice none 0 0)
 generalize w0.alloc (.cells #[.int .i64 0,.int .i64 0,.slice none 0 0] 24) = w1 at *
 have b2:=below_alloc9 w1 (.cells #[.slice none 0 0,.int .u64 0] 176)
 have x2:=BoxR.new w1 (.slice none 0 0) (.int .u64 0)
 rw [s0] at x1 s1
 rw [s1] at x2
 have c1:=b0.trans (b1.mono b0.size)
 exact ⟨c1.trans (b2.mono c1.size),(x0.all b1).all b2,x1.all b2,x2,((hS.below b0).below b1).below b2⟩
def DnAns (w w':World) (ok:Bool) (r c n L:Nat) (S V:List Nat) (tau:Nat) (e:Ending):Prop :=
 (ok = true∧∃ g vo vc,e = .returned (.tuple #[.agg #[.int .i64 r,.int .i64 c,.slice (some ⟨g,0,none⟩) n n],.agg #[.slice vo L vc,.int .u64 tau],.int .i64 0])∧w.heap.size≤g∧RowB w' g S∧NewB w.heap.size vo (mxL V)∧BitsAt w' vo vc (mxL V)∧OffB (some g) vo (mxL V)) ∨
 (ok = false∧e = .returned (.tuple #[.agg #[.int .i64 0,.int .i64 0,.slice none 0 0],.agg #[.slice none 0 0,.int .u64 0],.int .i64 2]))
theorem down_of (r c n cap j L tau beta:Nat) (ro:Option Addr) (S AP NX X V:List Nat) (ok:Bool) (w:World) (hr:r≤6) (hj:j < r) (hL:r - j = L) (hS:BitsAt w ro cap (mxL S))
  (C2:∀ w',BitsAt w' ro cap (mxL S)→Calls Tryz.prog 95 #[.agg #[.int .i64 r,.int .i64 c,.slice ro n cap],.int .i64 (j:Nat),.int .i64 (j:Nat),.int .i64 (L:Nat),.int .i64 1] w' fun e w''=>∃ bo d,e = .returned (.tuple #[.agg #[.int .i64 (L:Nat),.int .i64 1,.slice bo L d],.int .i64 0])∧BitsAt w'' bo d (mxL X)∧Below w'.heap.size w' w'')
  (C3:∀ w' bo d,ok = true→Below w.heap.size w w'→BitsAt w' bo d (mxL X)→Calls Tryz.prog 225 #[.slice bo L d] w' fun e w''=>∃ vo vc,e = .returned (.tuple #[.slice vo L vc,.int .u64 (tau:Nat),.int .u64 (beta:Nat),.int .i64 0])∧NewB w'.heap.size vo (mxL V)∧BitsAt w'' vo vc (mxL V)∧Below w'.heap.size w' w'')
  (C4:∀ w' bo d,ok = false→Below w.heap.size w w'→BitsAt w' bo d (mxL X)→Calls Tryz.prog 225 #[.slice bo L d] w' fun e w''=>∃ so cs er,e = .returned (.tuple #[.slice so 0 cs,.int .u64 0,.int .u64 0,.int .i64 er])∧(er = 2 ∨ er = 4)∧Below w'.heap.size w' w'')
  (C5:∀ w' vo vc,Below w.heap.size w w'→BitsAt w' ro cap (mxL S)→BitsAt w' vo vc (mxL V)→Calls Tryz.prog 196 #[.agg #[.int .i64 r,.int .i64 c,.slice ro n cap],.int .i64 (j:Nat),.int .i64 (j:Nat),.slice vo L vc,.int .u64 (tau:Nat)] w' fun e w''=>∃ g,e = .returned (.tuple #[.agg #[.int .i64 r,.int .i64 c,.slice (some ⟨g,0,none⟩) n n],.int .i64 0])∧w'.heap.size≤g∧RowB w'' g AP∧Below w'.heap.size w' w'')
  (C6:∀ w' g,RowB w' g AP→Calls Tryz.prog 226 #[.agg #[.int .i64 r,.int .i64 c,.slice (some ⟨g,0,none⟩) n n],.int .i64 (j:Nat),.int .u64 (beta:Nat)] w' fun e w''=>e = .returned (.tuple #[])∧RowB w'' g NX∧w'.grownBy w'' (some g)) :
  Calls Tryz.prog 195 #[.agg #[.int .i64 r,.int .i64 c,.slice ro n cap],.int .i64 (j:Nat)] w fun e w'=>DnAns w w' ok r c n L NX V tau e∧Below w.heap.size w w':=by
 have ST:=hide (DwSt.start (r:=r) (c:=c) (n:=n) hS)
 have K2:=hide (C2 _ (uH ST).bits);have K3:=hide C3;have K4:=hide C4;have K5:=hide C5;have K6:=hide C6
 have eL:IntKind.i64.wrap ((r:Int) - (j:Int)) = (L:Int):=(wrap_in _ (by omega)).trans (by omega)
 have eL2:(r:Int) - (j:Int) = (L:Int):=by omega
 have y0:=(uH ST).a.c0;have y1:=(uH ST).a.c1;have y2:=(uH ST).a.c2
 clear C2 C3 C4 C5 C6 hS hL
 go_enter Tryz.func195,Tryz.ntmps195
 go_wp2_with fail
 clear y0 y1 y2 eL eL2
 refine (uH K2).mono ?_
 rintro e w1 ⟨bo,d,rfl,hx,hb⟩
 have ba:=below_alloc9 w1 (.cells #[.int .i64 (L:Int),.int .i64 1,.slice bo L d] 24)
 have CB:=BoxM.new w1 (.int .i64 (L:Int)) (.int .i64 1) (.slice bo L d)
 replace ST:=hide (((uH ST).all hb).all ba)
 have HX:=hide (hx.below ba)
 have y2:=CB.c2
 clear hb hx ba K2 CB
 go_wp2_with fail
 clear y2
 cases ok with
 | false =>
  refine (uH K4 _ bo d rfl (uH ST).bel (uH HX)).mono ?_
  rintro e w2 ⟨so,cs,er,rfl,her,hb⟩
  have S3:=(uH ST).all hb
  have s0:=S3.res.c0;have s1:=S3.res.c1;have s2:=S3.res.c2
  have f0:=S3.res.free 0;have f1:=S3.res.free 1;have f2:=S3.res.free 2
  have Y1:=S3.res.put (.int .i64 0) (.int .i64 0) (.slice none 0 0)
  have M1:=S3.mi.three (g:=w.heap.size+1) (by omega) (.int .i64 0) (.int .i64 0) (.slice none 0 0)
  have s3:=M1.c0;have s4:=M1.c1
  have f3:=M1.free 0;have f4:=M1.free 1
  have Z1:=Y1.two16 (g:=w.heap.size+1+1) (by omega) (.slice none 0 0) (.int .u64 0)
  have Z2:=M1.put (.slice none 0 0) (.int .u64 0)
  have z0:=Z1.c0;have z1:=Z1.c1;have z2:=Z1.c2;have z3:=Z2.c0;have z4:=Z2.c1
  have BP:=hide (below_putR (below_putM S3.bel (b:=w.heap.size+1) (by omega) (.int .i64 0) (.int .i64 0) (.slice none 0 0)) (b:=w.heap.size+1+1) (by omega) (.slice none 0 0) (.int .u64 0))
  clear Y1 M1 Z1 Z2 S3 ST hb HX K3 K4 K5 K6
  rcases her with rfl | rfl
  all_goals
   go_wp2_with fail
   exact bodyPost_ret (v:=.tuple #[.agg #[.int .i64 0,.int .i64 0,.slice none 0 0],.agg #[.slice none 0 0,.int .u64 0],.int .i64 2]) (by simp [results,Tryz.results195,go_sem,z0,z1,z2,z3,z4]) rfl ⟨.inr ⟨rfl,rfl⟩,uH BP⟩
 | true =>
  refine (uH K3 _ bo d rfl (uH ST).bel (uH HX)).mono ?_
  rintro e w2 ⟨vo,vc,rfl,hn,hv,hb⟩
  have HZ:=hide ((uH ST).bel.size)
  have HM:=hide ((uH ST).mi.lt)
  have HNV:=hide hn
  replace ST:=hide ((uH ST).all hb)
  have HV:=hide hv
  clear hn hv hb HX K3 K4
  have q0:=(uH ST).a.c0;have q1:=(uH ST).a.c1;have q2:=(uH ST).a.c2
  go_wp2_with fail
  clear q0 q1 q2
  refine (uH K5 _ vo vc (uH ST).bel (uH ST).bits (uH HV)).mono ?_
  rintro e w3 ⟨g,rfl,hg,hrow,hb⟩
  have O4:=hide (OffB.old (uH HV) (g:=some g) (fun k hk=>by cases hk;exact hg))
  have HG:=hide (show w.heap.size+1+1 < g from Nat.lt_of_lt_of_le (uH ST).mi.lt hg)
  replace ST:=hide ((uH ST).all hb)
  have ba:=below_alloc9 w3 (.cells #[.int .i64 r,.int .i64 c,.slice (some ⟨g,0,none⟩) n n] 24)
  have NB:=hide (BoxM.new w3 (.int .i64 r) (.int .i64 c) (.slice (some ⟨g,0,none⟩) n n))
  have HGN:=hide (show g ≠ w3.heap.size from Nat.ne_of_lt hrow.lt)
  replace ST:=hide ((uH ST).all ba)
  have V4:=hide (((uH HV).below hb).below ba)
  have R4:=hide (hrow.below ba hrow.lt)
  have q0:=(uH NB).c0;have q1:=(uH NB).c1;have q2:=(uH NB).c2
  clear hb ba hrow hg K5 HV
  go_wp2_with fail
  clear q0 q1 q2
  refine (uH K6 _ g (uH R4)).mono ?_
  rintro e w4 ⟨rfl,hrow,hg4⟩
  have V5:=bits_grownOff (uH V4) (uH O4) hg4
  have N5:=(uH NB).grown hg4 (fun e=>by cases e;exact uH HGN rfl)
  have hgg:=uH HG
  have B5:Below w.heap.size w w4:=(uH ST).bel.grown hg4 (uH ST).bel.size (fun k hk=>by cases hk;omega)
  have X5:=(uH ST).res.grown hg4 (fun e=>by cases e;omega)
  have M5:=(uH ST).mi.grown hg4 (fun e=>by cases e;omega)
  have q0:=N5.c0;have q1:=N5.c1;have q2:=N5.c2
  have s0:=X5.c0;have s1:=X5.c1;have s2:=X5.c2
  have f0:=X5.free 0;have f1:=X5.free 1;have f2:=X5.free 2
  have Y1:=X5.put (.int .i64 r) (.int .i64 c) (.slice (some ⟨g,0,none⟩) n n)
  have M1:=M5.three (g:=w.heap.size+1) (by omega) (.int .i64 r) (.int .i64 c) (.slice (some ⟨g,0,none⟩) n n)
  have s3:=M1.c0;have s4:=M1.c1
  have f3:=M1.free 0;have f4:=M1.free 1
  have Z1:=Y1.two16 (g:=w.heap.size+1+1) (by omega) (.slice vo L vc) (.int .u64 tau)
  have Z2:=M1.put (.slice vo L vc) (.int .u64 tau)
  have z0:=Z1.c0;have z1:=Z1.c1;have z2:=Z1.c2;have z3:=Z2.c0;have z4:=Z2.c1
  have BP:=hide (below_putR (below_putM B5 (b:=w.heap.size+1) (by omega) (.int .i64 r) (.int .i64 c) (.slice (some ⟨g,0,none⟩) n n)) (b:=w.heap.size+1+1) (by omega) (.slice vo L vc) (.int .u64 tau))
  have RP:=hide ((hrow.three (g:=w.heap.size+1) (by omega) (.int .i64 r) (.int .i64 c) (.slice (some ⟨g,0,none⟩) n n)).two16 (g:=w.heap.size+1+1) (by omega) (.slice vo L vc) (.int .u64 tau))
  have OM:OffB (some (w.heap.size+1+1)) vo (mxL V):=by
   rcases uH HNV with e | ⟨b,off,rfl,hb2⟩
   ·exact .inl e
   ·exact .inr ⟨b,off,rfl,fun e=>by cases e;have:=uH HM;omega⟩
  have VP:=hide (bits_putR (V5.putM X5 (.int .i64 r) (.int .i64 c) (.slice (some ⟨g,0,none⟩) n n)) OM (.slice vo L vc) (.int .u64 tau))
  have HN:=hide ((uH HNV).least (uH HZ))
  clear Y1 M1 Z1 Z2 X5 M5 B5 N5 V5 hrow hg4 ST V4 R4 NB K6 OM HNV
  go_wp2_with fail
  exact bodyPost_ret (v:=.tuple #[.agg #[.int .i64 r,.int .i64 c,.slice (some ⟨g,0,none⟩) n n],.agg #[.slice vo L vc,.int .u64 tau],.int .i64 0]) (by simp [results,Tryz.results195,go_sem,z0,z1,z2,z3,z4]) rfl ⟨.inl ⟨rfl,g,vo,vc,rfl,by omega,uH RP,uH HN,uH VP,uH O4⟩,uH BP⟩
end Go.Proofs.YtcbcmlaogehimaaGreatDoor
namespace Go.Proofs.YtcbcmlaogehimaaGreatDoor
open Go.RowKit
attribute [local go_sem ↓] Go.wp_at_zero Go.wp_at_succ
theorem step_append16 {P:Program} (w:World) {ops:Array Oper} {o:Oper} {a:Act} {K:Act→World→Prop} {Q:Exit→Act→World→Prop} {E:Prop} (hgd:o.guard = none) (s x:Operand) (t:TypeId)
  (ho:o.op = .call { callee:=.builtin .append,args:=#[s,x],argTypes:=#[t,t] }) (v1 v2:Value) (F:Value→World→Prop) (hs:a.eval s = v1) (hx:a.eval x = v2)
  (hr:∃ v' w',(Builtin.append_ #[t,t] o.type #[v1,v2]).run P w = .ok v' w'∧F v' w') (h:∀ v' w',F v' w'→K (a.put o.dst v') w') :
  if Region.wanted o (yielded ops a.tmps) = true then Oper.wp P o a w K Q else E:=by
 have hw:Region.wanted o (yielded ops a.tmps) = true:=by simp [Region.wanted,hgd]
 rw [if_pos hw]
 obtain ⟨v',w',hrun,hF⟩:=hr
 unfold Oper.wp execOp
 simp only [ho,resolve,invoke,builtin,Sem.run_bind,Sem.run_pure,Result.andThen_ok,List.map_toArray,List.map_cons,List.map_nil,hs,hx,hrun]
 exact h v' w' hF
theorem avM_off {x:Mr} {g:Option Nat} (h:OffB g x.ao (mxL x.V)):AvM g x:=by
 rcases h with e | e
 ·exact .inl (by cases hV:x.V with
   | nil=>rfl
   | cons y ys=>rw [hV] at e;cases e)
 ·exact .inr e
theorem OwnMt.apartM {base:Nat} {w:World} {v:Value} {R:List Mr} (h:OwnMt base w v R) {g:Nat} {x y z:Value} (hx:BoxM w g x y z):v.ownBlock ≠ some g:=by
 intro e
 rcases h.1.2 with ⟨e1,_⟩ | ⟨k,cap,cur,hv,hk,hh,rest⟩
 ·rw [e1] at e;simp [Value.ownBlock] at e
 ·rw [hv] at e
  simp [Value.ownBlock] at e
  subst e
  have e:=hh.symm.trans hx
  simp at e
theorem cell_three16 {w:World} {b g j:Nat} {u u' u'' v:Value} (hne:b ≠ g) (h:w.cell? ⟨b,j,none⟩ = some v):(((w.setCell ⟨g,0,none⟩ u).setCell ⟨g,1,none⟩ u').setCell ⟨g,2,none⟩ u'').cell? ⟨b,j,none⟩ = some v:=by
 rw [cell_setCell_other _ _ _ _ hne,cell_setCell_other _ _ _ _ hne,cell_setCell_other _ _ _ _ hne]
 exact h
theorem TrSt.pushed {w wr:World} {h r c n cap:Nat} {ao:Option Addr} {S U:List Nat} {ro:Option Addr} {rc:Nat} {v:Value} {R:List Mr} (t:TrSt w wr h r c n cap ao S ro rc v R) (x:Mr) (hx:BitsAt wr x.ao x.cap (mxL x.V)) (ha:OffB v.ownBlock x.ao (mxL x.V)) (hl:R.length≤1000000) {g nb mb:Nat} (hg:RowB wr g U) (hgv:v.ownBlock ≠ some g) (hg2:w.heap.size+1+1≤g) (hf:∀ x ∈ U,x < 18446744073709551616) (hlU:U.length = n) {y1 y2 y3 y4 y5:Value} (hN:BoxM wr nb y1 y2 y3) (hM:BoxR wr mb y4 y5) (hMv:v.ownBlock ≠ some mb) (ty:TypeId) :
  ∃ v' w',(Builtin.append_ #[147,147] ty #[v,.slice (some ⟨wr.heap.size,0,none⟩) 1 1]).run Tryz.prog (wr.alloc (.cells #[.slice x.ao x.V.length x.cap,.int .u64 (x.tau:Nat)] 176)) = .ok v' w'∧BoxM w' h (.int .i64 r) (.int .i64 c) (.slice ro n rc)∧(TrSt w (((w'.setCell ⟨h,0,none⟩ (.int .i64 r)).setCell ⟨h,1,none⟩ (.int .i64 c)).setCell ⟨h,2,none⟩ (.slice (some ⟨g,0,none⟩) n n)) h r c n cap ao U (some ⟨g,0,none⟩) n v' (R ++ [x])∧RowB (((w'.setCell ⟨h,0,none⟩ (.int .i64 r)).setCell ⟨h,1,none⟩ (.int .i64 c)).setCell ⟨h,2,none⟩ (.slice (some ⟨g,0,none⟩) n n)) g U)∧BoxM w' nb y1 y2 y3∧BoxR w' mb y4 y5:=by
 have hlt:=t.rb.lt
 have hh:=t.hh
 have hv:=t.l.apartM t.rb
 obtain ⟨v',w',e1,e2,e3,e4,e5⟩:=t.l.push x hx (avM_off ha) hl (by omega) ty
 have b1:=below_alloc9 wr (.cells #[.slice x.ao x.V.length x.cap,.int .u64 (x.tau:Nat)] 176)
 have t1:=t.all b1
 have X1:=t1.rb.grown e4 hv
 have G1:RowB w' g U:=(e4.block g (hg.below b1 hg.lt).lt (fun e=>hgv e.symm)).trans (hg.below b1 hg.lt)
 have n0:w.heap.size ≠ h:=by omega
 have n1:w.heap.size+1 ≠ h:=by omega
 have hbits:=G1.bits hf
 rw [hlU] at hbits
 have q:BitsAt w' (some ⟨g,0,none⟩) n (mxL U):=hbits
 have hgl:=hg.lt
 refine ⟨v',w',e1,X1,⟨⟨below_putM (t.bel.trans (e3.mono (by omega))) (by omega) _ _ _,hh,(t.a.below e3 (by omega)).three14 n0 _ _ _,(t.res.below e3 (by omega)).three14 n1 _ _ _,X1.put _ _ _,q.putM X1 _ _ _,.inr ⟨g,0,rfl,by omega⟩,hlU,e2.putQ X1 _ _ _,.inr ⟨g,0,rfl,fun e=>?_⟩⟩,G1.three (rowB_neM G1 X1) _ _ _⟩,(hN.all b1).grown e4 (t.l.apartM hN),(hM.all b1).grown e4 hMv⟩
 rcases e5 with z | z
 ·rw [z] at e;exact hgv e.symm
 ·rw [z] at e;cases e;omega
theorem qtri_of (r c n cap K:Nat) (m:Int) (ao:Option Addr) (RJ V:Nat→List Nat) (tau:Nat→Nat) (o:Nat→Bool) (ok:Bool) (w:World) (hr:r≤6) (hc:c≤6) (hm:m = min (c:Int) ((r:Int) - 1)) (hK:∀ j:Nat,j < K ↔ (j:Int) < m)
  (lR:∀ j,(RJ j).length = n) (lV:∀ j,(V j).length = r - j) (hf:∀ j,j < K→∀ x ∈ RJ (j+1),x < 18446744073709551616)
  (hok:ok = true ↔ ∀ j,j < K→o j = true)
  (C1:∀ w',Below w.heap.size w w'→Calls Tryz.prog 95 #[.agg #[.int .i64 r,.int .i64 c,.slice ao n cap],.int .i64 0,.int .i64 0,.int .i64 r,.int .i64 c] w' fun e w''=>∃ po pc,e = .returned (.tuple #[.agg #[.int .i64 r,.int .i64 c,.slice po n pc],.int .i64 0])∧NewB w'.heap.size po (mxL (RJ 0))∧BitsAt w'' po pc (mxL (RJ 0))∧Below w'.heap.size w' w'')
  (C5:∀ w' j po pc,j < K→Below w.heap.size w w'→BitsAt w' po pc (mxL (RJ j))→Calls Tryz.prog 195 #[.agg #[.int .i64 r,.int .i64 c,.slice po n pc],.int .i64 (j:Nat)] w' fun e w''=>DnAns w' w'' (o j) r c n (r - j) (RJ (j+1)) (V j) (tau j) e∧Below w'.heap.size w' w'') :
  Calls Tryz.prog 151 #[.agg #[.int .i64 r,.int .i64 c,.slice ao n cap]] w fun e w'=>TriAns w w' ok r c n K (RJ K) V tau e∧Below w.heap.size w w':=by
 have hmin:∀ (W:World) ts t,(Builtin.min_ ts t #[.int .i64 (c:Int),.int .i64 ((r:Int) - 1)]).run Tryz.prog W = .ok (.int .i64 m) W:=fun W ts t=>by rw [hm];exact min2_run _ W ts t _ _
 have hw1:IntKind.i64.wrap ((r:Int) - 1) = (r:Int) - 1:=wrap_in _ (by omega)
 have hK6:K≤6:=by
  rcases Nat.lt_or_ge 6 K with g | g
  ·have:=(hK 6).1 g
   omega
  ·exact g
 have HKR:=hide (show ∀ j,j < K→j < r from fun j hj=>by have:=(hK j).1 hj;omega)
 have HK:=hide hK;have LR:=hide lR;have LV:=hide lV;have HF:=hide hf;have HOK:=hide hok
 have K1:=hide (C1 ((w.alloc (.cells #[.int .i64 r,.int .i64 c,.slice ao n cap] 24)).alloc (.cells #[.int .i64 0,.int .i64 0,.slice none 0 0] 24)) (by
  have b1:=below_alloc9 w (.cells #[.int .i64 r,.int .i64 c,.slice ao n cap] 24)
  have b2:=below_alloc9 (w.alloc (.cells #[.int .i64 r,.int .i64 c,.slice ao n cap] 24)) (.cells #[.int .i64 0,.int .i64 0,.slice none 0 0] 24)
  exact b1.trans (b2.mono b1.size)))
 simp only [size_alloc9] at K1
 have KB:=hide (boxes2 w (.int .i64 r) (.int .i64 c) (.slice ao n cap) (.int .i64 0) (.int .i64 0) (.slice none 0 0))
 have K5:=hide C5
 clear hm hK lR lV hf hok C1 C5
 go_enter Tryz.func151,Tryz.ntmps151
 go_wp2_with fail
 refine (uH K1).mono ?_
 rintro e w1 ⟨po,pc,rfl,hn,hq,hb1⟩
 obtain ⟨hB,hA,hX⟩:=uH KB w1 hb1
 have ST:=hide (TrSt.start hB hA hX hq (hn.least (by omega)) (uH LR 0))
 have y0:=(uH ST).a.c0;have y1:=(uH ST).a.c1
 clear K1 KB hb1 hB hA hX hn hq
 go_wp2_with fail
 clear y0 y1 hmin hw1
 generalize w1.heap.size = h at *
 go_loopw [7,27] (fun v a wr=>∃ (j:Nat) (ro:Option Addr) (rc:Nat) (R:List Mr),j≤K∧a = .int .i64 j∧Hid (R.length = j)∧Hid (∀ k,k < j→(mrAt R k).V = V k∧(mrAt R k).tau = tau k)∧Hid (∀ k,k < j→o k = true)∧Hid (TrSt w wr h r c n cap ao (RJ j) ro rc v R)∧Hid (RowIf j n wr ro rc (RJ j))) (fun _ a _=>K - (intOf a).toNat)
 case atStart=>exact ⟨0,po,pc,[],Nat.zero_le _,rfl,rfl,fun k hk=>absurd hk (Nat.not_lt_zero k),fun k hk=>absurd hk (Nat.not_lt_zero k),ST,fun hk=>absurd hk (Nat.lt_irrefl 0)⟩
 case round =>
  clear ST
  obtain ⟨j,ro,rc,R,hjK,rfl,hRl,hRm,hO,hS,hRW⟩:=hrel
  by_cases hlt:j < K
  ·have hjm:=(uH HK j).1 hlt
   clear hRW
   have hjr:=uH HKR j hlt
   obtain ⟨L,hL⟩:∃ L,r - j = L:=⟨_,rfl⟩
   have G5:=hide (fun w' po pc=>uH K5 w' j po pc hlt)
   have LV1:=hide (uH LV j);have LR1:=hide (uH LR (j+1));have HF1:=hide (uH HF j hlt)
   rw [hL] at G5 LV1
   generalize hTJ:tau j = tj at *
   generalize hVJ:V j = vj at *
   generalize hNJ:RJ (j+1) = nj at *
   generalize hRJ:RJ j = rj at *
   have q0:=(uH hS).rb.c0;have q1:=(uH hS).rb.c1;have q2:=(uH hS).rb.c2
   clear hL
   go_wp2_with fail
   clear q0 q1 q2
   refine (uH G5 _ ro rc (uH hS).bel (uH hS).bits).mono ?_
   rintro e w5 ⟨hans,hb⟩
   have HOWN:=hide (fun k hk=>((uH hS).l.lt k hk).2)
   have HHS:=hide (show w.heap.size+1+1≤_ from Nat.le_trans (uH hS).hh (Nat.le_of_lt (uH hS).rb.lt))
   have HSZ:=hide hb.size
   have HHL:=hide (uH hS).rb.lt
   have P4:=hide ((uH hS).all hb)
   clear hb G5 hS
   rcases hans with ⟨ho,g2,vo,vc,rfl,hg2,hrow,hn,hv,hof⟩ | ⟨ho,rfl⟩
   ·have ba1:=below_alloc9 w5 (.cells #[.int .i64 r,.int .i64 c,.slice (some ⟨g2,0,none⟩) n n] 24)
    have sa1:=size_alloc9 w5 (.cells #[.int .i64 r,.int .i64 c,.slice (some ⟨g2,0,none⟩) n n] 24)
    have nb1:=BoxM.new w5 (.int .i64 r) (.int .i64 c) (.slice (some ⟨g2,0,none⟩) n n)
    have ba2:=below_alloc9 (w5.alloc (.cells #[.int .i64 r,.int .i64 c,.slice (some ⟨g2,0,none⟩) n n] 24)) (.cells #[.slice vo L vc,.int .u64 (tj:Nat)] 176)
    have mb1:=BoxR.new (w5.alloc (.cells #[.int .i64 r,.int .i64 c,.slice (some ⟨g2,0,none⟩) n n] 24)) (.slice vo L vc) (.int .u64 (tj:Nat))
    rw [sa1] at mb1
    have ST6:=hide (show TrSt _ _ _ _ _ _ _ _ _ _ _ _ _∧BoxM _ _ _ _ _∧BoxR _ _ _ _∧RowB _ _ _∧BitsAt _ _ _ _ from ⟨((uH P4).all ba1).all ba2,nb1.all ba2,mb1,(hrow.below ba1 hrow.lt).below ba2 (hrow.below ba1 hrow.lt).lt,(hv.below ba1).below ba2⟩)
    have HO:=hide ho
    have HG2:=hide hg2;have HN:=hide hn
    have HNB:=hide (show _≤w5.heap.size from uH HSZ)
    clear ba1 sa1 nb1 ba2 mb1 hrow hv hg2 hn hof ho P4
    go_wp2_with fail
    refine at_world (fun W=>TrSt w W h r c n cap ao rj ro rc u7 R∧BoxM W w5.heap.size (.int .i64 r) (.int .i64 c) (.slice (some ⟨g2,0,none⟩) n n)∧BoxR W (w5.heap.size+1) (.slice vo L vc) (.int .u64 (tj:Nat))∧RowB W g2 nj∧BitsAt W vo vc (mxL vj)) (uH ST6) ?_
    clear ST6
    rintro W6 ⟨p6,n6,m6,row6,v6⟩
    have OWN9:∀ q,(∀ k,u7.ownBlock = some k→k < q)→u7.ownBlock ≠ some q:=fun q hq e=>Nat.lt_irrefl q (hq q e)
    have hd:=(Below.refl W6.heap.size W6).drew
    have APP:=TrSt.pushed (p6.all hd) ⟨vo,vc,vj,tj,0⟩ (v6.below hd) (OffB.new (uH HN) (fun k hk=>uH HOWN k hk)) (by rw [uH hRl];omega) (row6.below hd row6.lt) (OWN9 _ (fun k hk=>Nat.lt_of_lt_of_le (uH HOWN k hk) (uH HG2))) (Nat.le_trans (uH HHS) (uH HG2)) (uH HF1) (uH LR1) (n6.all hd) (m6.all hd) (OWN9 _ (fun k hk=>Nat.lt_of_lt_of_le (uH HOWN k hk) (Nat.le_trans (uH HNB) (Nat.le_succ _)))) 147
    dsimp only at APP
    rw [uH LV1] at APP
    obtain ⟨v9,w9,a1,a2,a3,a4,a5⟩:=APP
    have APP:=hide (show ∃ v' w',_ = _∧(BoxM w' h (.int .i64 r) (.int .i64 c) (.slice ro n rc)∧(TrSt w (((w'.setCell ⟨h,0,none⟩ (.int .i64 r)).setCell ⟨h,1,none⟩ (.int .i64 c)).setCell ⟨h,2,none⟩ (.slice (some ⟨g2,0,none⟩) n n)) h r c n cap ao nj (some ⟨g2,0,none⟩) n v' (R ++ [⟨vo,vc,vj,tj,0⟩])∧RowB (((w'.setCell ⟨h,0,none⟩ (.int .i64 r)).setCell ⟨h,1,none⟩ (.int .i64 c)).setCell ⟨h,2,none⟩ (.slice (some ⟨g2,0,none⟩) n n)) g2 nj)∧(w'.cell? ⟨w5.heap.size,0,none⟩ = some (.int .i64 (r:Nat))∧w'.cell? ⟨w5.heap.size,1,none⟩ = some (.int .i64 (c:Nat))∧w'.cell? ⟨w5.heap.size,2,none⟩ = some (.slice (some ⟨g2,0,none⟩) n n))∧w'.cell? ⟨w5.heap.size+1,0,none⟩ = some (.slice vo L vc)∧w'.cell? ⟨w5.heap.size+1,1,none⟩ = some (.int .u64 (tj:Nat))) from ⟨v9,w9,a1,a2,a3,⟨a4.c0,a4.c1,a4.c2⟩,a5.c0,a5.c1⟩)
    clear a1 a2 a3 a4 a5
    have KEEP:=hide (fun W' (hb:Below W6.drew.heap.size W6.drew W')=>(show (W'.cell? ⟨w5.heap.size,0,none⟩ = some (.int .i64 (r:Nat))∧W'.cell? ⟨w5.heap.size,1,none⟩ = some (.int .i64 (c:Nat))∧W'.cell? ⟨w5.heap.size,2,none⟩ = some (.slice (some ⟨g2,0,none⟩) n n))∧W'.cell? ⟨w5.heap.size+1,0,none⟩ = some (.slice vo L vc)∧W'.cell? ⟨w5.heap.size+1,1,none⟩ = some (.int .u64 (tj:Nat)) from
     have x:=(n6.all hd).all hb;have y:=(m6.all hd).all hb;⟨⟨x.c0,x.c1,x.c2⟩,y.c0,y.c1⟩))
    have hhl:w5.heap.size ≠ h:=fun e=>by have:=uH HHL;have:=uH HNB;omega
    have hhm:w5.heap.size+1 ≠ h:=fun e=>by have:=uH HHL;have:=uH HNB;omega
    have KEEP3:=hide (fun (W':World) (k:(W'.cell? ⟨w5.heap.size,0,none⟩ = some (.int .i64 (r:Nat))∧W'.cell? ⟨w5.heap.size,1,none⟩ = some (.int .i64 (c:Nat))∧W'.cell? ⟨w5.heap.size,2,none⟩ = some (.slice (some ⟨g2,0,none⟩) n n))∧W'.cell? ⟨w5.heap.size+1,0,none⟩ = some (.slice vo L vc)∧W'.cell? ⟨w5.heap.size+1,1,none⟩ = some (.int .u64 (tj:Nat)))=>(show ((((W'.setCell ⟨h,0,none⟩ (.int .i64 r)).setCell ⟨h,1,none⟩ (.int .i64 c)).setCell ⟨h,2,none⟩ (.slice (some ⟨g2,0,none⟩) n n)).cell? ⟨w5.heap.size,0,none⟩ = some (.int .i64 (r:Nat))∧(((W'.setCell ⟨h,0,none⟩ (.int .i64 r)).setCell ⟨h,1,none⟩ (.int .i64 c)).setCell ⟨h,2,none⟩ (.slice (some ⟨g2,0,none⟩) n n)).cell? ⟨w5.heap.size,1,none⟩ = some (.int .i64 (c:Nat))∧(((W'.setCell ⟨h,0,none⟩ (.int .i64 r)).setCell ⟨h,1,none⟩ (.int .i64 c)).setCell ⟨h,2,none⟩ (.slice (some ⟨g2,0,none⟩) n n)).cell? ⟨w5.heap.size,2,none⟩ = some (.slice (some ⟨g2,0,none⟩) n n))∧(((W'.setCell ⟨h,0,none⟩ (.int .i64 r)).setCell ⟨h,1,none⟩ (.int .i64 c)).setCell ⟨h,2,none⟩ (.slice (some ⟨g2,0,none⟩) n n)).cell? ⟨w5.heap.size+1,0,none⟩ = some (.slice vo L vc)∧(((W'.setCell ⟨h,0,none⟩ (.int .i64 r)).setCell ⟨h,1,none⟩ (.int .i64 c)).setCell ⟨h,2,none⟩ (.slice (some ⟨g2,0,none⟩) n n)).cell? ⟨w5.heap.size+1,1,none⟩ = some (.int .u64 (tj:Nat)) from
     ⟨⟨cell_three16 (u:=.int .i64 r) (u':=.int .i64 c) (u'':=.slice (some ⟨g2,0,none⟩) n n) hhl k.1.1,cell_three16 hhl k.1.2.1,cell_three16 hhl k.1.2.2⟩,cell_three16 hhm k.2.1,cell_three16 hhm k.2.2⟩))
    have NB:=hide (n6.all hd);have MB:=hide (m6.all hd)
    generalize w5.heap.size = nb at *
    clear p6 n6 m6 row6 v6 hd hhl hhm OWN9 HHL HNB HG2 HOWN HHS HSZ HN
    refine wp_region_held_drew (S:=fun w'=>(w'.cell? ⟨nb,0,none⟩ = some (.int .i64 (r:Nat))∧w'.cell? ⟨nb,1,none⟩ = some (.int .i64 (c:Nat))∧w'.cell? ⟨nb,2,none⟩ = some (.slice (some ⟨g2,0,none⟩) n n))∧w'.cell? ⟨nb+1,0,none⟩ = some (.slice vo L vc)∧w'.cell? ⟨nb+1,1,none⟩ = some (.int .u64 (tj:Nat))) (by kernel_rfl) ?_ (fun hHeld=>?_)
    ·exact ⟨⟨(uH NB).c0,(uH NB).c1,(uH NB).c2⟩,(uH MB).c0,(uH MB).c1⟩
    refine wpAnyH_take (i:=0) (oi:={ dst:=some 41,op:=Op.load 24 (Operand.tmp 9),type:=24,pos := "qr.go:37",after:=#[],guard:=none }) (v:=Value.agg #[.int .i64 r,.int .i64 c,.slice (some ⟨g2,0,none⟩) n n]) rfl (by kernel_rfl) (by kernel_rfl) (by kernel_rfl) (fun _ _ _ h=>h) (Or.inl ⟨by rfl,?_⟩) (by assumption) ?_
    ·(intro w hSw;(try dsimp only at hSw);go_simp)
    simp only [Act.put,List.setIfInBounds_toArray,List.set_cons_zero,List.set_cons_succ]
    refine wpAnyH_take (i:=1) (oi:={ dst:=some 42,op:=Op.move (Operand.tmp 7),type:=147,pos := "qr.go:37",after:=#[],guard:=none }) (v:=u7) rfl (by kernel_rfl) (by kernel_rfl) (by kernel_rfl) (fun _ _ _ h=>h) (Or.inl ⟨by rfl,?_⟩) (by assumption) ?_
    ·(intro w hSw;(try dsimp only at hSw);go_simp)
    simp only [Act.put,List.setIfInBounds_toArray,List.set_cons_zero,List.set_cons_succ]
    refine wpAnyH_take (i:=2) (oi:={ dst:=some 43,op:=Op.load 176 (Operand.tmp 10),type:=176,pos := "qr.go:37",after:=#[],guard:=none }) (v:=Value.agg #[.slice vo L vc,.int .u64 (tj:Nat)]) rfl (by kernel_rfl) (by kernel_rfl) (by kernel_rfl) (fun _ _ _ h=>h) (Or.inl ⟨by rfl,?_⟩) (by assumption) ?_
    ·(intro w hSw;(try dsimp only at hSw);go_simp)
    simp only [Act.put,List.setIfInBounds_toArray,List.set_cons_zero,List.set_cons_succ]
    refine wpAnyH_ready (rs:=[3]) (by kernel_rfl) (by simp) ?_
    refine AllReadyH.cons (o:={ dst:=some 44,op:=Op.buildSlice 147 1 #[(0,Operand.tmp 43)],type:=147,pos := "qr.go:37",after:=#[{ on:=2,ground:=Ground.data }],guard:=none }) rfl (fun K0 hK0=>?_) AllReadyH.nil
    go_simp
    refine hK0.out _ _ ?_ (fun hHeld=>?_)
    ·exact uH KEEP _ (below_alloc9 _ _)
    clear hK0 K0
    refine wpAnyH_ready (rs:=[4]) (by kernel_rfl) (by simp) ?_
    refine AllReadyH.cons (o:={ dst:=some 45,op:=Op.call { callee:=Callee.builtin Builtin.append,args:=#[Operand.tmp 42,Operand.tmp 44],argTypes:=#[147,147] },type:=147,pos := "qr.go:37",after:=#[{ on:=1,ground:=Ground.data },{ on:=3,ground:=Ground.data }],guard:=none }) rfl (fun K0 hK0=>?_) AllReadyH.nil
    refine step_append16 _ (by rfl) _ _ 147 (by rfl) _ _ _ (by rfl) (by rfl) (uH APP) ?_
    clear APP
    rintro v9 w9 ⟨hbx,hst,hkp⟩
    have BX:=hide hbx;have P9:=hide hst
    clear hbx hst
    refine hK0.out _ _ ?_ (fun hHeld=>?_)
    ·exact hkp
    have KP9:=hide hkp
    clear hK0 K0 hkp
    refine wpAnyH_ready (rs:=[5]) (by kernel_rfl) (by simp) ?_
    refine AllReadyH.cons (o:={ dst:=none,op:=Op.store 24 (Operand.tmp 5) (Operand.tmp 41),type:=0,pos := "qr.go:37",after:=#[{ on:=0,ground:=Ground.data },{ on:=4,ground:=Ground.chain },{ on:=0,ground:=Ground.phase },{ on:=1,ground:=Ground.textOnly Departure.lateStores },{ on:=2,ground:=Ground.textOnly Departure.lateStores },{ on:=3,ground:=Ground.textOnly Departure.lateStores },{ on:=4,ground:=Ground.textOnly Departure.lateStoresUnsure }],guard:=none }) rfl (fun K0 hK0=>?_) AllReadyH.nil
    have q0:=(uH BX).c0;have q1:=(uH BX).c1;have q2:=(uH BX).c2
    have f0:=(uH BX).free 0;have f1:=(uH BX).free 1;have f2:=(uH BX).free 2
    go_simp
    clear q0 q1 q2 f0 f1 f2
    refine hK0.out _ _ ?_ (fun hHeld=>?_)
    ·exact uH KEEP3 _ (uH KP9)
    clear hK0 K0
    refine wpAnyH_take (i:=6) (oi:={ dst:=some 7,op:=Op.assign (Operand.tmp 45),type:=147,pos := "qr.go:37",after:=#[{ on:=4,ground:=Ground.data },{ on:=5,ground:=Ground.chain },{ on:=0,ground:=Ground.phase },{ on:=1,ground:=Ground.phase },{ on:=2,ground:=Ground.phase },{ on:=3,ground:=Ground.phase },{ on:=4,ground:=Ground.phase },{ on:=5,ground:=Ground.phase }],guard:=none }) (v:=v9) rfl (by kernel_rfl) (by kernel_rfl) (by kernel_rfl) (fun _ _ _ h=>h) (Or.inl ⟨by rfl,?_⟩) (by assumption) ?_
    ·(intro w hSw;(try dsimp only at hSw);go_simp)
    simp only [Act.put,List.setIfInBounds_toArray,List.set_cons_zero,List.set_cons_succ]
    refine wpAnyH_done (by kernel_rfl) ?_ _
    clear KEEP KEEP3 BX KP9 NB MB
    go_wp2_with fail
    go_round
    case rel =>
     refine ⟨j+1,some ⟨g2,0,none⟩,n,R ++ [⟨vo,vc,vj,tj,0⟩],by omega,by go_num,?_,?_,?_,by rw [hNJ];exact hide (uH P9).1,hide (fun _=>⟨g2,rfl,rfl,by rw [hNJ];exact (uH P9).2⟩)⟩
     ·show (R ++ [_]).length = j+1
      rw [List.length_append,uH hRl];rfl
     ·show ∀ k,k < j+1→_
      intro k hk
      rw [mrAt_snoc2 R _ k (by rw [uH hRl];exact hk)]
      by_cases g:k < R.length
      ·rw [if_pos g];exact uH hRm k (by rw [← uH hRl];exact g)
      ·rw [if_neg g,show k = j by have:=uH hRl;omega,hVJ,hTJ];exact ⟨rfl,rfl⟩
     ·show ∀ k,k < j+1→_
      intro k hk
      by_cases g:k < j
      ·exact uH hO k g
      ·rw [show k = j by omega];exact uH HO
    case measure=>first | (simp [intOf];done) | (simp [intOf];omega)
   ·have hno:Hid (ok = false):=hide (by
     cases hk:ok with
     | false=>rfl
     | true=>exact absurd ((uH HOK).1 hk j hlt) (by rw [ho];decide))
    have ba1:=below_alloc9 w5 (.cells #[.int .i64 0,.int .i64 0,.slice none 0 0] 24)
    have ba2:=below_alloc9 (w5.alloc (.cells #[.int .i64 0,.int .i64 0,.slice none 0 0] 24)) (.cells #[.slice none 0 0,.int .u64 0] 176)
    have X3:=((uH P4).all ba1).all ba2
    have s0:=X3.res.c0;have s1:=X3.res.c1;have s2:=X3.res.c2
    have f0:=X3.res.free 0;have f1:=X3.res.free 1;have f2:=X3.res.free 2
    have XP:=X3.res.put (.int .i64 0) (.int .i64 0) (.slice none 0 0)
    have z0:=XP.c0;have z1:=XP.c1;have z2:=XP.c2
    have BP:=hide (below_putM X3.bel (b:=w.heap.size+1) (by omega) (.int .i64 0) (.int .i64 0) (.slice none 0 0))
    clear ba1 ba2 ho XP X3 P4
    go_wp2_with fail
    exact bodyPost_ret (v:=.tuple #[.agg #[.int .i64 0,.int .i64 0,.slice none 0 0],.slice none 0 0,.int .i64 2]) (by simp [results,Tryz.results151,go_sem,z0,z1,z2]) rfl ⟨.inr ⟨uH hno,rfl⟩,uH BP⟩
  ·have hjj:j = K:=by omega
   subst hjj
   have hjm:¬ ((j:Int) < m):=fun q=>hlt ((uH HK j).2 q)
   have hyes:Hid (ok = true):=hide ((uH HOK).2 (uH hO))
   have S3:=uH hS
   have q0:=S3.rb.c0;have q1:=S3.rb.c1;have q2:=S3.rb.c2
   have s0:=S3.res.c0;have s1:=S3.res.c1;have s2:=S3.res.c2
   have f0:=S3.res.free 0;have f1:=S3.res.free 1;have f2:=S3.res.free 2
   have XP:=S3.res.put (.int .i64 r) (.int .i64 c) (.slice ro n rc)
   have z0:=XP.c0;have z1:=XP.c1;have z2:=XP.c2
   have BP:=hide (below_putM S3.bel (b:=w.heap.size+1) (by omega) (.int .i64 r) (.int .i64 c) (.slice ro n rc))
   have QB:=hide (S3.bits.putM S3.res (.int .i64 r) (.int .i64 c) (.slice ro n rc))
   have QL:=hide (S3.l.putQ S3.res (.int .i64 r) (.int .i64 c) (.slice ro n rc))
   have HN:=hide S3.new
   have HRW:=hide ((uH hRW).putM S3.res (.int .i64 r) (.int .i64 c) (.slice ro n rc))
   clear XP S3 hS hRW
   go_wp2_with fail
   exact bodyPost_ret (v:=.tuple #[.agg #[.int .i64 r,.int .i64 c,.slice ro n rc],_,.int .i64 0]) (by simp [results,Tryz.results151,go_sem,z0,z1,z2]) rfl ⟨.inl ⟨uH hyes,_,_,_,R,rfl,uH HN,uH QB,uH QL,uH hRl,uH hRm,uH HRW⟩,uH BP⟩
end Go.Proofs.YtcbcmlaogehimaaGreatDoor
namespace Go.Proofs.YtcbcmlaogehimaaGreatDoor
open Go.RowKit
attribute [local go_sem ↓] Go.wp_at_zero Go.wp_at_succ
def nilAt (N:List Rw) (i c:Nat):Prop:=(nmAt (rwAt N i).R c).L.length = 0
end Go.Proofs.YtcbcmlaogehimaaGreatDoor
namespace Go.Proofs.YtcbcmlaogehimaaGreatDoor
open Go.RowKit
def KK:Nat→Nat
 | 0=>2098
 | c+1=>2 * KK c+1
end Go.Proofs.YtcbcmlaogehimaaGreatDoor
namespace Go.Proofs.YtcbcmlaogehimaaGreatDoor
open Go.RowKit
attribute [local go_sem ↓] Go.wp_at_zero Go.wp_at_succ
def mkJ (g:Nat→Nat) (j:Nat):List Nat:=4607182418800017408 :: fsL g (j - 1)
end Go.Proofs.YtcbcmlaogehimaaGreatDoor
