/- Part 42 of the texts. -/
import Derived.Test.YtnnfjeieennffaaGreatDoorPartf41
import Derived.Test.YtnnfjeieennffaaGreatDoorPartf36
import Derived.Test.YtnnfjeieennffaaGreatDoorPartf39
import Derived.Test.YtnnfjeieennffaaGreatDoorPartf40
import Derived.Test.YtnnfjeieennffaaGreatDoorPartf28
import Derived.Deep.RegionHeld3
import Derived.Test.YtnnfjeieennffaaGreatDoorPartf37
import Derived.Deep.RegionLaw
import Derived.Deep.RegionWith
import Derived.Test.YtnnfjeieennffaaGreatDoorPartf33
import Derived.Test.YtnnfjeieennffaaGreatDoorPartf34
import Derived.Test.YtnnfjeieennffaaGreatDoorPartf29
import Derived.Test.YtnnfjeieennffaaGreatDoorPartf35
import Derived.Test.YtnnfjeieennffaaGreatDoorPartf08
set_option maxHeartbeats 8000000
set_option maxRecDepth 20000
namespace Go.Proofs.YtnnfjeieennffaaGreatDoor
open Go.RowKit
attribute [local go_sem ↓] Go.wp_at_zero Go.wp_at_succ
theorem cell_three14 {w:World} {b g j:Nat} {u u' u'' v:Value} (hne:b ≠ g) (h:w.cell? ⟨b,j,none⟩ = some v):(((w.setCell ⟨g,0,none⟩ u).setCell ⟨g,1,none⟩ u').setCell ⟨g,2,none⟩ u'').cell? ⟨b,j,none⟩ = some v:=by
 rw [cell_setCell_other _ _ _ _ hne,cell_setCell_other _ _ _ _ hne,cell_setCell_other _ _ _ _ hne]
 exact h
theorem cell_drew14 {w:World} {a:Addr} {v:Value} (h:w.cell? a = some v):w.drew.cell? a = some v:=h
theorem cell_three14d {w:World} {b g j:Nat} {u u' u'' v:Value} (hne:b ≠ g) (h:w.cell? ⟨b,j,none⟩ = some v):(((w.setCell ⟨g,0,none⟩ u).setCell ⟨g,1,none⟩ u').setCell ⟨g,2,none⟩ u'').drew.cell? ⟨b,j,none⟩ = some v:=cell_drew14 (cell_three14 hne h)
structure FcSt (w wr:World) (x y:Int) (ao:Option Addr) (n cap:Nat):Prop where
 bel:Below w.heap.size w wr
 a:BoxM wr w.heap.size (.int .i64 x) (.int .i64 y) (.slice ao n cap)
 r1:BoxM wr (w.heap.size+1) (.int .i64 0) (.int .i64 0) (.slice none 0 0)
 r2:BoxM wr (w.heap.size+1+1) (.int .i64 0) (.int .i64 0) (.slice none 0 0)
theorem FcSt.all {w wr w':World} {x y:Int} {ao:Option Addr} {n cap:Nat} (t:FcSt w wr x y ao n cap) (hb:Below wr.heap.size wr w'):FcSt w w' x y ao n cap:=⟨t.bel.trans (hb.mono t.bel.size),t.a.all hb,t.r1.all hb,t.r2.all hb⟩
theorem FcSt.start (w:World) (x y:Int) (ao:Option Addr) (n cap:Nat):FcSt w (((w.alloc (.cells #[.int .i64 x,.int .i64 y,.slice ao n cap] 24)).alloc (.cells #[.int .i64 0,.int .i64 0,.slice none 0 0] 24)).alloc (.cells #[.int .i64 0,.int .i64 0,.slice none 0 0] 24)) x y ao n cap:=by
 obtain ⟨h1,h2,h3,h4⟩:=boxes3 w (.int .i64 x) (.int .i64 y) (.slice ao n cap) (.int .i64 0) (.int .i64 0) (.slice none 0 0) (.int .i64 0) (.int .i64 0) (.slice none 0 0) _ (Below.refl _ _)
 exact ⟨h1,h2,h3,h4⟩
end Go.Proofs.YtnnfjeieennffaaGreatDoor
namespace Go.Proofs.YtnnfjeieennffaaGreatDoor
open Go.RowKit
attribute [local go_sem ↓] Go.wp_at_zero Go.wp_at_succ
theorem gfactor_err (r c:Int) (ao:Option Addr) (n cap:Nat) (er:Int) (w:World) (her:er = 1 ∨ er = 4)
  (C1:∀ w',Below w.heap.size w w'→Calls Tryz.prog 30 #[.agg #[.int .i64 r,.int .i64 c,.slice ao n cap]] w' fun e w''=>e = .returned (.int .i64 er)∧Below w'.heap.size w' w'') :
  Calls Tryz.prog 9 #[.agg #[.int .i64 r,.int .i64 c,.slice ao n cap]] w fun e w'=>∃ v u,e = .returned (.tuple #[v,u,.slice none 0 0,.int .i64 er])∧NewM w.heap.size w' 0 0 [] v∧NewM w.heap.size w' 0 0 [] u∧Below w.heap.size w w':=by
 have ST:=hide (FcSt.start w r c ao n cap)
 have K1:=hide (C1 _ (uH ST).bel)
 clear C1
 rcases her with rfl | rfl
 all_goals
  go_enter Tryz.func9,Tryz.ntmps9
  go_wp2_with fail
  refine (uH K1).mono ?_
  rintro e w1 ⟨rfl,hb⟩
  replace ST:=hide ((uH ST).all hb)
  clear hb K1
  have X1:=(uH ST).r1;have X2:=(uH ST).r2
  have s0:=X1.c0;have s1:=X1.c1;have s2:=X1.c2
  have f0:=X1.free 0;have f1:=X1.free 1;have f2:=X1.free 2
  have Y1:=X1.put (.int .i64 0) (.int .i64 0) (.slice none 0 0)
  have Y2:=X2.three14 (g:=w.heap.size+1) (by omega) (.int .i64 0) (.int .i64 0) (.slice none 0 0)
  have s3:=Y2.c0;have s4:=Y2.c1;have s5:=Y2.c2
  have f3:=Y2.free 0;have f4:=Y2.free 1;have f5:=Y2.free 2
  have Z1:=Y1.three14 (g:=w.heap.size+1+1) (by omega) (.int .i64 0) (.int .i64 0) (.slice none 0 0)
  have Z2:=Y2.put (.int .i64 0) (.int .i64 0) (.slice none 0 0)
  have z0:=Z1.c0;have z1:=Z1.c1;have z2:=Z1.c2;have z3:=Z2.c0;have z4:=Z2.c1;have z5:=Z2.c2
  have BP:=hide (below_putM (below_putM (uH ST).bel (b:=w.heap.size+1) (by omega) (.int .i64 0) (.int .i64 0) (.slice none 0 0)) (b:=w.heap.size+1+1) (by omega) (.int .i64 0) (.int .i64 0) (.slice none 0 0))
  clear X1 X2 Y1 Y2 Z1 Z2 ST
  go_wp2_with fail
  exact bodyPost_ret (v:=.tuple #[.agg #[.int .i64 0,.int .i64 0,.slice none 0 0],.agg #[.int .i64 0,.int .i64 0,.slice none 0 0],.slice none 0 0,.int .i64 _]) (by simp [results,Tryz.results9,go_sem,z0,z1,z2,z3,z4,z5]) rfl ⟨_,_,rfl,NewM.zero _ _,NewM.zero _ _,uH BP⟩
theorem gfactor_of (r c n nq K cap:Nat) (ao:Option Addr) (S QF P:List Nat) (V:Nat→List Nat) (tau:Nat→Nat) (ok fq fr:Bool) (w:World) (lS:S.length = n) (lQ:QF.length = nq) (hfq:fnK (mxL QF) nq = fq)
  (C1:∀ w',Below w.heap.size w w'→Calls Tryz.prog 30 #[.agg #[.int .i64 r,.int .i64 c,.slice ao n cap]] w' fun e w''=>e = .returned (.int .i64 0)∧Below w'.heap.size w' w'')
  (C2:∀ w',Below w.heap.size w w'→Calls Tryz.prog 31 #[.agg #[.int .i64 r,.int .i64 c,.slice ao n cap]] w' fun e w''=>TpAns w' w'' ok r c n K S P V tau e∧Below w'.heap.size w' w'')
  (C3:∀ w' lo lc R,Below w.heap.size w w'→OwnMt 0 w' (.slice lo K lc) R→R.length = K→(∀ k,k < K→(mrAt R k).V = V k∧(mrAt R k).tau = tau k)→Calls Tryz.prog 32 #[.int .i64 r,.slice lo K lc] w' fun e w''=>∃ Q qo qc,(Q = QF ∨ (fnK (mxL Q) nq = false∧fq = false))∧Q.length = nq∧e = .returned (.agg #[.int .i64 r,.int .i64 r,.slice qo nq qc])∧NewB w'.heap.size qo (mxL Q)∧BitsAt w'' qo qc (mxL Q)∧Below w'.heap.size w' w'')
  (C4:∀ w' Q qo qc,BitsAt w' qo qc (mxL Q)→Q.length = nq→Calls Tryz.prog 33 #[.slice qo nq qc] w' fun e w''=>e = .returned (.bool (fnK (mxL Q) nq))∧Below w'.heap.size w' w'')
  (C5:∀ w' ro rc,BitsAt w' ro rc (mxL S)→Calls Tryz.prog 33 #[.slice ro n rc] w' fun e w''=>e = .returned (.bool fr)∧Below w'.heap.size w' w'') :
  Calls Tryz.prog 9 #[.agg #[.int .i64 r,.int .i64 c,.slice ao n cap]] w fun e w'=>(((ok && (fq && fr)) = true∧∃ v u pg,e = .returned (.tuple #[v,u,.slice (some ⟨pg,0,none⟩) c c,.int .i64 0])∧NewM w.heap.size w' r r QF v∧NewM w.heap.size w' r c S u∧w.heap.size≤pg∧RowI w' pg P) ∨ ((ok && (fq && fr)) = false∧∃ v u,e = .returned (.tuple #[v,u,.slice none 0 0,.int .i64 2])∧NewM w.heap.size w' 0 0 [] v∧NewM w.heap.size w' 0 0 [] u))∧Below w.heap.size w w':=by
 have ST:=hide (FcSt.start w r c ao n cap)
 have K1:=hide (C1 _ (uH ST).bel);have K2:=hide C2;have K3:=hide C3;have K4:=hide C4;have K5:=hide C5;have LS:=hide lS;have LQ:=hide lQ;have HFQ:=hide hfq
 clear C1 C2 C3 C4 C5 lS lQ hfq
 go_enter Tryz.func9,Tryz.ntmps9
 go_wp2_with fail
 refine (uH K1).mono ?_
 rintro e w1 ⟨rfl,hb⟩
 replace ST:=hide ((uH ST).all hb)
 clear hb K1
 have y0:=(uH ST).a.c0;have y1:=(uH ST).a.c1;have y2:=(uH ST).a.c2
 go_wp2_with fail
 clear y0 y1 y2
 refine (uH K2 _ (uH ST).bel).mono ?_
 rintro e w2 ⟨hans,hb⟩
 have S2:=hide ((uH ST).all hb)
 have HZ:=hide (show w.heap.size≤w1.heap.size from (uH ST).bel.size)
 have HZ2:=hide (show w.heap.size+1+1 < w1.heap.size from (uH ST).r2.lt)
 clear hb ST K2
 rcases hans with ⟨hok,ro,rc,pg,v,R,rfl,hn,hq,hpg,hpl,hl,hRl,hRm⟩ | ⟨hok,rfl⟩
 ·obtain ⟨lo,lc,hvl⟩:=hl.slice
  rw [hRl] at hvl
  subst hvl
  have ba:=below_alloc9 w2 (.cells #[.int .i64 r,.int .i64 c,.slice ro n rc] 24)
  have HGB:=hide (uH S2).r2.lt
  have RB:=hide (BoxM.new w2 (.int .i64 r) (.int .i64 c) (.slice ro n rc))
  replace S2:=hide ((uH S2).all ba)
  have HQ:=hide (hq.below ba)
  have HPL:=hide (hpl.all ba)
  have HPG:=hide (show w.heap.size+1+1 < pg from Nat.lt_of_lt_of_le (uH HZ2) hpg)
  have HN:=hide (hn.least (uH HZ))
  have HL:=hide ((hl.least (Nat.zero_le _)).below ba)
  have HRL:=hide hRl;have HRM:=hide hRm;have HOK:=hide hok
  clear ba hq hn hl hRl hRm hok HZ HZ2 hpg hpl
  have y0:=(uH S2).a.c0
  go_wp2_with fail
  clear y0
  refine (uH K3 _ lo lc R (uH S2).bel (uH HL) (uH HRL) (uH HRM)).mono ?_
  rintro e w3 ⟨Q,qo,qc,hQ,lQ,rfl,hn,hq,hb⟩
  have ba:=below_alloc9 w3 (.cells #[.int .i64 r,.int .i64 r,.slice qo nq qc] 24)
  have HGA:=hide ((uH S2).all hb).r2.lt
  have QB:=hide (BoxM.new w3 (.int .i64 r) (.int .i64 r) (.slice qo nq qc))
  have HN3:=hide (hn.least (uH S2).bel.size)
  replace S2:=hide (((uH S2).all hb).all ba)
  replace RB:=hide (((uH RB).all hb).all ba)
  replace HQ:=hide (((uH HQ).below hb).below ba)
  replace HPL:=hide (((uH HPL).all hb).all ba)
  have HQ3:=hide (hq.below ba)
  have HQQ:=hide hQ;have LQQ:=hide lQ
  clear hb ba hn hq HL hQ lQ K3
  have y2:=(uH QB).c2
  go_wp2_with fail
  clear y2
  refine (uH K4 _ Q qo qc (uH HQ3) (uH LQQ)).mono ?_
  rintro e w4 ⟨rfl,hb⟩
  replace S2:=hide ((uH S2).all hb)
  replace RB:=hide ((uH RB).all hb)
  replace QB:=hide ((uH QB).all hb)
  replace HQ:=hide ((uH HQ).below hb)
  replace HPL:=hide ((uH HPL).all hb)
  replace HQ3:=hide ((uH HQ3).below hb)
  clear hb K4
  cases hfQ:fnK (mxL Q) nq with
  | false =>
   have hno:Hid ((ok && (fq && fr)) = false):=hide (by
    rcases uH HQQ with e | e
    ·rw [e,uH HFQ] at hfQ
     rw [hfQ];cases ok <;> rfl
    ·rw [e.2];cases ok <;> rfl)
   clear RB QB HQ HQ3
   have X1:=(uH S2).r1;have X2:=(uH S2).r2
   have s0:=X1.c0;have s1:=X1.c1;have s2:=X1.c2
   have f0:=X1.free 0;have f1:=X1.free 1;have f2:=X1.free 2
   have Y1:=X1.put (.int .i64 0) (.int .i64 0) (.slice none 0 0)
   have Y2:=X2.three14 (g:=w.heap.size+1) (by omega) (.int .i64 0) (.int .i64 0) (.slice none 0 0)
   have s3:=Y2.c0;have s4:=Y2.c1;have s5:=Y2.c2
   have f3:=Y2.free 0;have f4:=Y2.free 1;have f5:=Y2.free 2
   have Z1:=Y1.three14 (g:=w.heap.size+1+1) (by omega) (.int .i64 0) (.int .i64 0) (.slice none 0 0)
   have Z2:=Y2.put (.int .i64 0) (.int .i64 0) (.slice none 0 0)
   have z0:=Z1.c0;have z1:=Z1.c1;have z2:=Z1.c2;have z3:=Z2.c0;have z4:=Z2.c1;have z5:=Z2.c2
   have BP:=hide (below_putM (below_putM (uH S2).bel (b:=w.heap.size+1) (by omega) (.int .i64 0) (.int .i64 0) (.slice none 0 0)) (b:=w.heap.size+1+1) (by omega) (.int .i64 0) (.int .i64 0) (.slice none 0 0))
   clear X1 X2 Y1 Y2 Z1 Z2 S2
   go_wp2_with fail
   exact bodyPost_ret (v:=.tuple #[.agg #[.int .i64 0,.int .i64 0,.slice none 0 0],.agg #[.int .i64 0,.int .i64 0,.slice none 0 0],.slice none 0 0,.int .i64 2]) (by simp [results,Tryz.results9,go_sem,z0,z1,z2,z3,z4,z5]) rfl ⟨.inr ⟨uH hno,_,_,rfl,NewM.zero _ _,NewM.zero _ _⟩,uH BP⟩
  | true =>
   have hQe:Q = QF:=by
    rcases uH HQQ with e | e
    ·exact e
    ·rw [e.1] at hfQ;cases hfQ
   subst hQe
   have hfq:fq = true:=by rw [← uH HFQ];exact hfQ
   have y2:=(uH RB).c2
   go_wp2_with fail
   clear y2
   refine (uH K5 _ ro rc (uH HQ)).mono ?_
   rintro e w5 ⟨rfl,hb⟩
   replace S2:=hide ((uH S2).all hb)
   replace RB:=hide ((uH RB).all hb)
   replace QB:=hide ((uH QB).all hb)
   replace HQ:=hide ((uH HQ).below hb)
   replace HPL:=hide ((uH HPL).all hb)
   replace HQ3:=hide ((uH HQ3).below hb)
   clear hb K5
   cases hfr:fr with
   | false =>
    have hno:Hid ((ok && (fq && fr)) = false):=hide (by rw [hfr];cases ok <;> cases fq <;> rfl)
    clear RB QB HQ HQ3
    have X1:=(uH S2).r1;have X2:=(uH S2).r2
    have s0:=X1.c0;have s1:=X1.c1;have s2:=X1.c2
    have f0:=X1.free 0;have f1:=X1.free 1;have f2:=X1.free 2
    have Y1:=X1.put (.int .i64 0) (.int .i64 0) (.slice none 0 0)
    have Y2:=X2.three14 (g:=w.heap.size+1) (by omega) (.int .i64 0) (.int .i64 0) (.slice none 0 0)
    have s3:=Y2.c0;have s4:=Y2.c1;have s5:=Y2.c2
    have f3:=Y2.free 0;have f4:=Y2.free 1;have f5:=Y2.free 2
    have Z1:=Y1.three14 (g:=w.heap.size+1+1) (by omega) (.int .i64 0) (.int .i64 0) (.slice none 0 0)
    have Z2:=Y2.put (.int .i64 0) (.int .i64 0) (.slice none 0 0)
    have z0:=Z1.c0;have z1:=Z1.c1;have z2:=Z1.c2;have z3:=Z2.c0;have z4:=Z2.c1;have z5:=Z2.c2
    have BP:=hide (below_putM (below_putM (uH S2).bel (b:=w.heap.size+1) (by omega) (.int .i64 0) (.int .i64 0) (.slice none 0 0)) (b:=w.heap.size+1+1) (by omega) (.int .i64 0) (.int .i64 0) (.slice none 0 0))
    clear X1 X2 Y1 Y2 Z1 Z2 S2
    go_wp2_with fail
    exact bodyPost_ret (v:=.tuple #[.agg #[.int .i64 0,.int .i64 0,.slice none 0 0],.agg #[.int .i64 0,.int .i64 0,.slice none 0 0],.slice none 0 0,.int .i64 2]) (by simp [results,Tryz.results9,go_sem,z0,z1,z2,z3,z4,z5]) rfl ⟨.inr ⟨uH hno,_,_,rfl,NewM.zero _ _,NewM.zero _ _⟩,uH BP⟩
   | true =>
    have hyes:Hid ((ok && (fq && fr)) = true):=hide (by rw [uH HOK,hfq,hfr];rfl)
    clear hfQ HFQ HQQ hfq hfr
    go_wp2_with fail
    refine at_world (fun W=>FcSt w W r c ao n cap∧BoxM W w2.heap.size (.int .i64 r) (.int .i64 c) (.slice ro n rc)∧BoxM W w3.heap.size (.int .i64 r) (.int .i64 r) (.slice qo nq qc)∧BitsAt W ro rc (mxL S)∧BitsAt W qo qc (mxL Q)∧RowI W pg P) ⟨uH S2,uH RB,uH QB,uH HQ,uH HQ3,uH HPL⟩ ?_
    clear S2 RB QB HQ HQ3 HPL
    rintro W ⟨s2,rb,qb,hq,hq3,hpl⟩
    have S2:=hide (s2)
    have y0:=(rb).c0;have y1:=(rb).c1;have y2:=(rb).c2
    have y3:=(qb).c0;have y4:=(qb).c1;have y5:=(qb).c2
    have Q1:=hq;have Q3:=hq3
    clear s2 rb qb hq hq3
    have X1:=(uH S2).r1;have X2:=(uH S2).r2
    have s0:=X1.c0;have s1:=X1.c1;have s2:=X1.c2
    have f0:=X1.free 0;have f1:=X1.free 1;have f2:=X1.free 2
    have Y1:=X1.put (.int .i64 r) (.int .i64 r) (.slice qo nq qc)
    have Y2:=X2.three14 (g:=w.heap.size+1) (by omega) (.int .i64 r) (.int .i64 r) (.slice qo nq qc)
    have s3:=Y2.c0;have s4:=Y2.c1;have s5:=Y2.c2
    have f3:=Y2.free 0;have f4:=Y2.free 1;have f5:=Y2.free 2
    have Z1:=Y1.three14 (g:=w.heap.size+1+1) (by omega) (.int .i64 r) (.int .i64 c) (.slice ro n rc)
    have Z2:=Y2.put (.int .i64 r) (.int .i64 c) (.slice ro n rc)
    have z0:=Z1.c0;have z1:=Z1.c1;have z2:=Z1.c2;have z3:=Z2.c0;have z4:=Z2.c1;have z5:=Z2.c2
    have BP:=hide (below_putM (below_putM (uH S2).bel (b:=w.heap.size+1) (by omega) (.int .i64 r) (.int .i64 r) (.slice qo nq qc)) (b:=w.heap.size+1+1) (by omega) (.int .i64 r) (.int .i64 c) (.slice ro n rc))
    have PR:=hide ((Q1.putM X1 (.int .i64 r) (.int .i64 r) (.slice qo nq qc)).putM Y2 (.int .i64 r) (.int .i64 c) (.slice ro n rc))
    have PQ:=hide ((Q3.putM X1 (.int .i64 r) (.int .i64 r) (.slice qo nq qc)).putM Y2 (.int .i64 r) (.int .i64 c) (.slice ro n rc))
    have PP:=hide ((hpl.three (g:=w.heap.size+1) (by have:=uH HPG;omega) (.int .i64 r) (.int .i64 r) (.slice qo nq qc)).three (g:=w.heap.size+1+1) (by have:=uH HPG;omega) (.int .i64 r) (.int .i64 c) (.slice ro n rc))
    clear X1 X2 Y1 Y2 Z1 Z2 S2 Q1 Q3 hpl
    have HS0:=hide (show _∧_∧_∧_∧_∧_ from ⟨cell_drew14 y3,cell_drew14 y4,cell_drew14 y5,cell_drew14 y0,cell_drew14 y1,cell_drew14 y2⟩)
    have HP2:=hide (show _∧_∧_∧_∧_∧_ from ⟨cell_three14 (u:=.int .i64 r) (u':=.int .i64 r) (u'':=.slice qo nq qc) (show w3.heap.size ≠ w.heap.size+1 by have:=uH HGA;omega) y3,cell_three14 (u:=.int .i64 r) (u':=.int .i64 r) (u'':=.slice qo nq qc) (show w3.heap.size ≠ w.heap.size+1 by have:=uH HGA;omega) y4,cell_three14 (u:=.int .i64 r) (u':=.int .i64 r) (u'':=.slice qo nq qc) (show w3.heap.size ≠ w.heap.size+1 by have:=uH HGA;omega) y5,cell_three14 (u:=.int .i64 r) (u':=.int .i64 r) (u'':=.slice qo nq qc) (show w2.heap.size ≠ w.heap.size+1 by have:=uH HGB;omega) y0,cell_three14 (u:=.int .i64 r) (u':=.int .i64 r) (u'':=.slice qo nq qc) (show w2.heap.size ≠ w.heap.size+1 by have:=uH HGB;omega) y1,cell_three14 (u:=.int .i64 r) (u':=.int .i64 r) (u'':=.slice qo nq qc) (show w2.heap.size ≠ w.heap.size+1 by have:=uH HGB;omega) y2⟩)
    have HS2:=hide (show _∧_∧_∧_∧_∧_ from ⟨cell_three14d (u:=.int .i64 r) (u':=.int .i64 r) (u'':=.slice qo nq qc) (show w3.heap.size ≠ w.heap.size+1 by have:=uH HGA;omega) y3,cell_three14d (u:=.int .i64 r) (u':=.int .i64 r) (u'':=.slice qo nq qc) (show w3.heap.size ≠ w.heap.size+1 by have:=uH HGA;omega) y4,cell_three14d (u:=.int .i64 r) (u':=.int .i64 r) (u'':=.slice qo nq qc) (show w3.heap.size ≠ w.heap.size+1 by have:=uH HGA;omega) y5,cell_three14d (u:=.int .i64 r) (u':=.int .i64 r) (u'':=.slice qo nq qc) (show w2.heap.size ≠ w.heap.size+1 by have:=uH HGB;omega) y0,cell_three14d (u:=.int .i64 r) (u':=.int .i64 r) (u'':=.slice qo nq qc) (show w2.heap.size ≠ w.heap.size+1 by have:=uH HGB;omega) y1,cell_three14d (u:=.int .i64 r) (u':=.int .i64 r) (u'':=.slice qo nq qc) (show w2.heap.size ≠ w.heap.size+1 by have:=uH HGB;omega) y2⟩)
    have HS3:=hide (show _∧_∧_∧_∧_∧_ from ⟨cell_three14d (u:=.int .i64 r) (u':=.int .i64 c) (u'':=.slice ro n rc) (show w3.heap.size ≠ w.heap.size+1+1 by have:=uH HGA;omega) (uH HP2).1,cell_three14d (u:=.int .i64 r) (u':=.int .i64 c) (u'':=.slice ro n rc) (show w3.heap.size ≠ w.heap.size+1+1 by have:=uH HGA;omega) (uH HP2).2.1,cell_three14d (u:=.int .i64 r) (u':=.int .i64 c) (u'':=.slice ro n rc) (show w3.heap.size ≠ w.heap.size+1+1 by have:=uH HGA;omega) (uH HP2).2.2.1,cell_three14d (u:=.int .i64 r) (u':=.int .i64 c) (u'':=.slice ro n rc) (show w2.heap.size ≠ w.heap.size+1+1 by have:=uH HGB;omega) (uH HP2).2.2.2.1,cell_three14d (u:=.int .i64 r) (u':=.int .i64 c) (u'':=.slice ro n rc) (show w2.heap.size ≠ w.heap.size+1+1 by have:=uH HGB;omega) (uH HP2).2.2.2.2.1,cell_three14d (u:=.int .i64 r) (u':=.int .i64 c) (u'':=.slice ro n rc) (show w2.heap.size ≠ w.heap.size+1+1 by have:=uH HGB;omega) (uH HP2).2.2.2.2.2⟩)
    clear y0 y1 y2 y3 y4 y5
    refine wp_region_held_drew (S:=(fun w'=>w'.cell? ⟨w3.heap.size,0,none⟩ = some (.int .i64 (r:Int))∧w'.cell? ⟨w3.heap.size,1,none⟩ = some (.int .i64 (r:Int))∧w'.cell? ⟨w3.heap.size,2,none⟩ = some (.slice qo nq qc)∧w'.cell? ⟨w2.heap.size,0,none⟩ = some (.int .i64 (r:Int))∧w'.cell? ⟨w2.heap.size,1,none⟩ = some (.int .i64 (c:Int))∧w'.cell? ⟨w2.heap.size,2,none⟩ = some (.slice ro n rc))) (by kernel_rfl) ?_ (fun hHeld=>?_)
    ·exact uH HS0
    refine wpAnyH_take (i:=0) (oi:={ dst:=some 47,op:=Op.load 24 (Operand.tmp 11),type:=24,pos := "pivot.go:30",after:=#[],guard:=none }) (v:=(Value.agg #[.int .i64 (r:Int),.int .i64 (r:Int),.slice qo nq qc])) rfl (by kernel_rfl) (by kernel_rfl) (by kernel_rfl) (fun _ _ _ h=>h) (Or.inl ⟨by rfl,?_⟩) (by assumption) ?_
    ·(intro w hSw;(try dsimp only at hSw);go_simp)
    simp only [Act.put,List.setIfInBounds_toArray,List.set_cons_zero,List.set_cons_succ]
    refine wpAnyH_take (i:=1) (oi:={ dst:=some 48,op:=Op.load 24 (Operand.tmp 7),type:=24,pos := "pivot.go:30",after:=#[{ on:=3,ground:=Ground.gcOnly Departure.lateStores }],guard:=none }) (v:=(Value.agg #[.int .i64 (r:Int),.int .i64 (c:Int),.slice ro n rc])) rfl (by kernel_rfl) (by kernel_rfl) (by kernel_rfl) (fun _ _ _ h=>h) (Or.inl ⟨by rfl,?_⟩) (by assumption) ?_
    ·(intro w hSw;(try dsimp only at hSw);go_simp)
    simp only [Act.put,List.setIfInBounds_toArray,List.set_cons_zero,List.set_cons_succ]
    refine wpAnyH_take (i:=2) (oi:={ dst:=some 49,op:=Op.move (Operand.tmp 8),type:=26,pos := "pivot.go:30",after:=#[{ on:=4,ground:=Ground.gcOnly Departure.lateStores }],guard:=none }) (v:=(Value.slice (some ⟨pg,0,none⟩) c c)) rfl (by kernel_rfl) (by kernel_rfl) (by kernel_rfl) (fun _ _ _ h=>h) (Or.inl ⟨by rfl,?_⟩) (by assumption) ?_
    ·(intro w hSw;(try dsimp only at hSw);go_simp)
    simp only [Act.put,List.setIfInBounds_toArray,List.set_cons_zero,List.set_cons_succ]
    refine wpAnyH_ready (rs:=[3]) (by kernel_rfl) (by simp) ?_
    refine AllReadyH.cons (o:={ dst:=none,op:=Op.store 24 (Operand.tmp 2) (Operand.tmp 47),type:=0,pos := "pivot.go:30",after:=#[{ on:=0,ground:=Ground.data },{ on:=0,ground:=Ground.phase },{ on:=1,ground:=Ground.textOnly Departure.lateStores },{ on:=2,ground:=Ground.textOnly Departure.lateStores }],guard:=none }) rfl (fun KK hK=>?_) AllReadyH.nil
    go_simp
    refine hK.out _ _ ?_ (fun hHeld=>?_)
    ·exact uH HS2
    clear hK KK
    refine wpAnyH_ready (rs:=[4]) (by kernel_rfl) (by simp) ?_
    refine AllReadyH.cons (o:={ dst:=none,op:=Op.store 24 (Operand.tmp 3) (Operand.tmp 48),type:=0,pos := "pivot.go:30",after:=#[{ on:=1,ground:=Ground.data },{ on:=3,ground:=Ground.chain },{ on:=0,ground:=Ground.phase },{ on:=1,ground:=Ground.phase },{ on:=2,ground:=Ground.textOnly Departure.lateStores },{ on:=3,ground:=Ground.phase }],guard:=none }) rfl (fun KK hK=>?_) AllReadyH.nil
    go_simp
    refine hK.out _ _ ?_ (fun hHeld=>?_)
    ·exact uH HS3
    clear hK KK
    refine wpAnyH_ready (rs:=[5]) (by kernel_rfl) (by simp) ?_
    refine AllReadyH.cons (o:={ dst:=some 4,op:=Op.assign (Operand.tmp 49),type:=26,pos := "pivot.go:30",after:=#[{ on:=2,ground:=Ground.data },{ on:=4,ground:=Ground.chain },{ on:=0,ground:=Ground.phase },{ on:=1,ground:=Ground.phase },{ on:=2,ground:=Ground.phase },{ on:=3,ground:=Ground.phase },{ on:=4,ground:=Ground.phase }],guard:=none }) rfl (fun KK hK=>?_) AllReadyH.nil
    go_simp
    refine hK.out _ _ ?_ (fun hHeld=>?_)
    ·exact uH HS3
    clear hK KK
    refine wpAnyH_ready (rs:=[6]) (by kernel_rfl) (by simp) ?_
    refine AllReadyH.cons (o:={ dst:=some 5,op:=Op.assign (Operand.const (Value.int IntKind.i64 0)),type:=27,pos := "pivot.go:30",after:=#[{ on:=5,ground:=Ground.chain },{ on:=0,ground:=Ground.phase },{ on:=1,ground:=Ground.phase },{ on:=2,ground:=Ground.phase },{ on:=3,ground:=Ground.phase },{ on:=4,ground:=Ground.phase },{ on:=5,ground:=Ground.phase }],guard:=none }) rfl (fun KK hK=>?_) AllReadyH.nil
    go_simp
    refine hK.out _ _ ?_ (fun hHeld=>?_)
    ·exact uH HS3
    clear hK KK
    refine wpAnyH_done (by kernel_rfl) ?_ _
    clear HS0 HS2 HS3 HP2
    go_wp2_with fail
    refine bodyPost_ret (v:=.tuple #[.agg #[.int .i64 r,.int .i64 r,.slice qo nq qc],.agg #[.int .i64 r,.int .i64 c,.slice ro n rc],.slice (some ⟨pg,0,none⟩) c c,.int .i64 0]) (by simp [results,Tryz.results9,go_sem,z0,z1,z2,z3,z4,z5]) rfl ⟨.inl ⟨uH hyes,_,_,pg,rfl,⟨qo,qc,by rw [uH LQ],uH HN3,(uH PQ).below (Below.refl _ _).drew⟩,⟨ro,rc,by rw [uH LS],uH HN,(uH PR).below (Below.refl _ _).drew⟩,by have:=uH HPG;omega,(uH PP).all (Below.refl _ _).drew⟩,(uH BP).drew⟩
 ·have hno:Hid ((ok && (fq && fr)) = false):=hide (by rw [hok];rfl)
  have ba:=below_alloc9 w2 (.cells #[.int .i64 0,.int .i64 0,.slice none 0 0] 24)
  replace S2:=hide ((uH S2).all ba)
  clear ba hok HZ HZ2
  have X1:=(uH S2).r1;have X2:=(uH S2).r2
  have s0:=X1.c0;have s1:=X1.c1;have s2:=X1.c2
  have f0:=X1.free 0;have f1:=X1.free 1;have f2:=X1.free 2
  have Y1:=X1.put (.int .i64 0) (.int .i64 0) (.slice none 0 0)
  have Y2:=X2.three14 (g:=w.heap.size+1) (by omega) (.int .i64 0) (.int .i64 0) (.slice none 0 0)
  have s3:=Y2.c0;have s4:=Y2.c1;have s5:=Y2.c2
  have f3:=Y2.free 0;have f4:=Y2.free 1;have f5:=Y2.free 2
  have Z1:=Y1.three14 (g:=w.heap.size+1+1) (by omega) (.int .i64 0) (.int .i64 0) (.slice none 0 0)
  have Z2:=Y2.put (.int .i64 0) (.int .i64 0) (.slice none 0 0)
  have z0:=Z1.c0;have z1:=Z1.c1;have z2:=Z1.c2;have z3:=Z2.c0;have z4:=Z2.c1;have z5:=Z2.c2
  have BP:=hide (below_putM (below_putM (uH S2).bel (b:=w.heap.size+1) (by omega) (.int .i64 0) (.int .i64 0) (.slice none 0 0)) (b:=w.heap.size+1+1) (by omega) (.int .i64 0) (.int .i64 0) (.slice none 0 0))
  clear X1 X2 Y1 Y2 Z1 Z2 S2
  go_wp2_with fail
  exact bodyPost_ret (v:=.tuple #[.agg #[.int .i64 0,.int .i64 0,.slice none 0 0],.agg #[.int .i64 0,.int .i64 0,.slice none 0 0],.slice none 0 0,.int .i64 2]) (by simp [results,Tryz.results9,go_sem,z0,z1,z2,z3,z4,z5]) rfl ⟨.inr ⟨uH hno,_,_,rfl,NewM.zero _ _,NewM.zero _ _⟩,uH BP⟩
end Go.Proofs.YtnnfjeieennffaaGreatDoor
namespace Go.Proofs.YtnnfjeieennffaaGreatDoor
open Go.RowKit
theorem elS_lt {S:List Nat} (h:∀ x ∈ S,x < 18446744073709551616) (c p q:Nat):elM c S p q < 18446744073709551616:=by
 unfold elM
 rw [List.getD_eq_getElem?_getD]
 cases e:S[p * c+q]? with
 | none=>decide
 | some x=>exact h x (List.mem_of_getElem? e)
theorem colL_lt {S:List Nat} (h:∀ x ∈ S,x < 18446744073709551616) (c i n q:Nat):∀ x ∈ colL c S i n q,x < 18446744073709551616:=by
 intro x hx
 obtain ⟨j,_,rfl⟩:=List.mem_map.1 hx
 exact elS_lt h c _ _
theorem apS_lt {r c:Nat} {S:List Nat} (hS:∀ x ∈ S,x < 18446744073709551616) (i k:Nat) (vs:List Nat) (tau:Nat):∀ x ∈ apM r c S i k vs tau,x < 18446744073709551616:=by
 intro x hx
 unfold apM mkM at hx
 obtain ⟨p,_,rfl⟩:=List.mem_map.1 hx
 show (if _ then _ else _) < _
 split
 ·exact apL_lt c S i _ vs tau (by omega) (fun p q=>elS_lt hS c p q)
 ·exact elS_lt hS c _ _
theorem clS_lt {r c:Nat} {S:List Nat} (hS:∀ x ∈ S,x < 18446744073709551616) (j b:Nat) (hb:b < 18446744073709551616):∀ x ∈ clM r c S j b,x < 18446744073709551616:=by
 intro x hx
 unfold clM clJ mkM at hx
 obtain ⟨p,_,rfl⟩:=List.mem_map.1 hx
 show (if _ then (if _ then _ else _) else _) < _
 split
 ·split
  ·exact hb
  ·decide
 ·exact elS_lt hS c _ _
end Go.Proofs.YtnnfjeieennffaaGreatDoor
namespace Go.Proofs.YtnnfjeieennffaaGreatDoor
open Go.RowKit
theorem coS_lt {r c:Nat} {S:List Nat} (hS:∀ x ∈ S,x < 18446744073709551616) (L:List Nat):∀ x ∈ coL r c S L,x < 18446744073709551616:=by
 intro x hx
 unfold coL mkM at hx
 obtain ⟨p,_,rfl⟩:=List.mem_map.1 hx
 exact elS_lt hS c _ _
theorem pvW_lt {r c:Nat} {S:List Nat} (hS:∀ x ∈ S,x < 18446744073709551616) (j:Nat):∀ x ∈ pvW r c S j,x < 18446744073709551616:=coS_lt hS _
theorem pvR_lt {r c:Nat} {S:List Nat} (hS:∀ x ∈ S,x < 18446744073709551616):∀ j,∀ x ∈ pvR r c S j,x < 18446744073709551616
 | 0=>hS
 | j+1=>by
  have h:=pvW_lt (r:=r) (c:=c) (pvR_lt (r:=r) (c:=c) hS j) j
  show ∀ x ∈ pvS r c (pvR r c S j) j,x < 18446744073709551616
  unfold pvS
  split
  ·exact clS_lt (apS_lt h _ _ _ _) _ _ (mrB_lt _ (colL_lt h _ _ _ _))
  ·exact h
theorem pvP_small (r c:Nat) (S:List Nat) {j:Nat} (hj:j≤c):∀ x ∈ pvP r c S j,x < c:=fun _ hx=>List.mem_range.1 ((pvP_perm r c S j hj).mem_iff.1 hx)
end Go.Proofs.YtnnfjeieennffaaGreatDoor
namespace Go.Proofs.YtnnfjeieennffaaGreatDoor
open Go.RowKit
def dg (v:Nat) (p:Int):Nat:=if 0≤p then v / 2 ^ p.toNat % 4294967296 else v * 2 ^ (-p).toNat % 4294967296
end Go.Proofs.YtnnfjeieennffaaGreatDoor
