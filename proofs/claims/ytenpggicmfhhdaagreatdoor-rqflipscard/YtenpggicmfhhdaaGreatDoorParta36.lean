/- Part 36 of the texts. -/
import Derived.Test.YtenpggicmfhhdaaGreatDoorParta33
import Derived.Test.YtenpggicmfhhdaaGreatDoorParta35
import Derived.Test.YtenpggicmfhhdaaGreatDoorParta32
import Derived.Test.YtenpggicmfhhdaaGreatDoorParta31
set_option maxHeartbeats 16000000
set_option maxRecDepth 20000
namespace Go.Proofs.YtenpggicmfhhdaaGreatDoor
open Go.RowKit
attribute [local go_sem ↓] Go.wp_at_zero Go.wp_at_succ
theorem lq_form (r c:Int) (ao:Option Addr) (n cap:Nat) (w:World)
  (C1:∀ w',Below w.heap.size w w'→Calls Tryz.prog 24 #[.agg #[.int .i64 r,.int .i64 c,.slice ao n cap]] w' fun e w''=>∃ v,e = .returned (.tuple #[v,.int .i64 1])∧NewM w'.heap.size w'' 0 0 [] v∧Below w'.heap.size w' w'') :
  Calls Tryz.prog 12 #[.agg #[.int .i64 r,.int .i64 c,.slice ao n cap]] w fun e w'=>∃ v u,e = .returned (.tuple #[v,u,.int .i64 1])∧NewM w.heap.size w' 0 0 [] v∧NewM w.heap.size w' 0 0 [] u∧Below w.heap.size w w':=by
 have ST:=hide (FcSt.start w r c ao n cap)
 have K1:=hide (C1 _ (uH ST).bel)
 clear C1
 go_enter Tryz.func12,Tryz.ntmps12
 go_wp2_with fail
 refine (uH K1).mono ?_
 rintro e w1 ⟨v,rfl,⟨vo,vc,rfl,_,_⟩,hb⟩
 simp only [List.length_nil]
 have ba:=below_alloc9 w1 (.cells #[.int .i64 0,.int .i64 0,.slice vo 0 vc] 24)
 replace ST:=hide (((uH ST).all hb).all ba)
 clear hb ba K1
 have X1:=(uH ST).r1;have X2:=(uH ST).r2
 have s0:=X1.c0;have s1:=X1.c1;have s2:=X1.c2
 have f0:=X1.free 0;have f1:=X1.free 1;have f2:=X1.free 2
 have Y1:=X1.put (.int .i64 0) (.int .i64 0) (.slice none 0 0)
 have Y2:=X2.three14 (g:=w.heap.size+1) (by omega) (.int .i64 0) (.int .i64 0) (.slice none 0 0)
 have s3:=Y2.c0;have s4:=Y2.c1;have s5:=Y2.c2
 have f3:=Y2.free 0;have f4:=Y2.free 1;have f5:=Y2.free 2
 have Z1:=Y1.three14 (g:=w.heap.size+1+1) (by omega) (.int .i64 0) (.int .i64 0) (.slice none 0 0)
 have Z2:=Y2.put (.int .i64 0) (.int .i64 0) (.slice none 0 0)
 have z0:=Z1.c0;have z1:=Z1.c1;have z2:=Z1.c2;have z3:=Z2.c0;have z4:=Z2.c1;have z5:=Z2.c2
 have BP:=hide (below_putM (below_putM (uH ST).bel (b:=w.heap.size+1) (by omega) (.int .i64 0) (.int .i64 0) (.slice none 0 0)) (b:=w.heap.size+1+1) (by omega) (.int .i64 0) (.int .i64 0) (.slice none 0 0))
 clear X1 X2 Y1 Y2 Z1 Z2 ST
 go_wp2_with fail
 exact bodyPost_ret (v:=.tuple #[.agg #[.int .i64 0,.int .i64 0,.slice none 0 0],.agg #[.int .i64 0,.int .i64 0,.slice none 0 0],.int .i64 1]) (by simp [results,Tryz.results12,go_sem,z0,z1,z2,z3,z4,z5]) rfl ⟨_,_,rfl,NewM.zero _ _,NewM.zero _ _,uH BP⟩
theorem lq_err (r c n cap n1:Nat) (ao:Option Addr) (T:List Nat) (er:Int) (w:World) (her:er = 4 ∨ er = 2) (l1:T.length = n1)
  (C1:∀ w',Below w.heap.size w w'→Calls Tryz.prog 24 #[.agg #[.int .i64 r,.int .i64 c,.slice ao n cap]] w' fun e w''=>∃ v,e = .returned (.tuple #[v,.int .i64 0])∧NewM w'.heap.size w'' c r T v∧Below w'.heap.size w' w'')
  (C2:∀ w' po pc,Below w.heap.size w w'→BitsAt w' po pc (mxL T)→Calls Tryz.prog 25 #[.agg #[.int .i64 c,.int .i64 r,.slice po n1 pc]] w' fun e w''=>∃ v u,e = .returned (.tuple #[v,u,.int .i64 er])∧NewM w'.heap.size w'' 0 0 [] v∧NewM w'.heap.size w'' 0 0 [] u∧Below w'.heap.size w' w'') :
  Calls Tryz.prog 12 #[.agg #[.int .i64 r,.int .i64 c,.slice ao n cap]] w fun e w'=>∃ v u,e = .returned (.tuple #[v,u,.int .i64 er])∧NewM w.heap.size w' 0 0 [] v∧NewM w.heap.size w' 0 0 [] u∧Below w.heap.size w w':=by
 have ST:=hide (FcSt.start w r c ao n cap)
 have K1:=hide (C1 _ (uH ST).bel);have K2:=hide C2;have L1:=hide l1
 clear C1 C2 l1
 rcases her with rfl | rfl
 all_goals
  go_enter Tryz.func12,Tryz.ntmps12
  go_wp2_with fail
  refine (uH K1).mono ?_
  rintro e w1 ⟨v,rfl,⟨o1,c1,rfl,hn,hq⟩,hb⟩
  rw [uH L1]
  have ba:=below_alloc9 w1 (.cells #[.int .i64 c,.int .i64 r,.slice o1 n1 c1] 24)
  have HG1:=hide ((uH ST).all hb).r2.lt
  have BX1:=hide (BoxM.new w1 (.int .i64 c) (.int .i64 r) (.slice o1 n1 c1))
  have HN1:=hide (hn.least (uH ST).bel.size)
  have HQ1:=hide (hq.below ba)
  replace ST:=hide (((uH ST).all hb).all ba)
  clear hb ba hn hq
  clear K1
  have q0:=(uH BX1).c0;have q1:=(uH BX1).c1;have q2:=(uH BX1).c2
  go_wp2_with fail
  clear q0 q1 q2
  refine (uH K2 _ o1 c1 (uH ST).bel (uH HQ1)).mono ?_
  rintro e w2 ⟨v,u,rfl,⟨vo,vc,rfl,_,_⟩,⟨uo,uc,rfl,_,_⟩,hb⟩
  simp only [List.length_nil]
  have b1:=below_alloc9 w2 (.cells #[.int .i64 0,.int .i64 0,.slice vo 0 vc] 24)
  have b2:=below_alloc9 (w2.alloc (.cells #[.int .i64 0,.int .i64 0,.slice vo 0 vc] 24)) (.cells #[.int .i64 0,.int .i64 0,.slice uo 0 uc] 24)
  replace ST:=hide ((((uH ST).all hb).all b1).all b2)
  clear hb b1 b2
  clear K2 BX1 HQ1 HG1 HN1
  have X1:=(uH ST).r1;have X2:=(uH ST).r2
  have s0:=X1.c0;have s1:=X1.c1;have s2:=X1.c2
  have f0:=X1.free 0;have f1:=X1.free 1;have f2:=X1.free 2
  have Y1:=X1.put (.int .i64 0) (.int .i64 0) (.slice none 0 0)
  have Y2:=X2.three14 (g:=w.heap.size+1) (by omega) (.int .i64 0) (.int .i64 0) (.slice none 0 0)
  have s3:=Y2.c0;have s4:=Y2.c1;have s5:=Y2.c2
  have f3:=Y2.free 0;have f4:=Y2.free 1;have f5:=Y2.free 2
  have Z1:=Y1.three14 (g:=w.heap.size+1+1) (by omega) (.int .i64 0) (.int .i64 0) (.slice none 0 0)
  have Z2:=Y2.put (.int .i64 0) (.int .i64 0) (.slice none 0 0)
  have z0:=Z1.c0;have z1:=Z1.c1;have z2:=Z1.c2;have z3:=Z2.c0;have z4:=Z2.c1;have z5:=Z2.c2
  have BP:=hide (below_putM (below_putM (uH ST).bel (b:=w.heap.size+1) (by omega) (.int .i64 0) (.int .i64 0) (.slice none 0 0)) (b:=w.heap.size+1+1) (by omega) (.int .i64 0) (.int .i64 0) (.slice none 0 0))
  clear X1 X2 Y1 Y2 Z1 Z2 ST
  go_wp2_with fail
  exact bodyPost_ret (v:=.tuple #[.agg #[.int .i64 0,.int .i64 0,.slice none 0 0],.agg #[.int .i64 0,.int .i64 0,.slice none 0 0],.int .i64 _]) (by simp [results,Tryz.results12,go_sem,z0,z1,z2,z3,z4,z5]) rfl ⟨_,_,rfl,NewM.zero _ _,NewM.zero _ _,uH BP⟩
theorem lq_of (r c n cap n1 n2 n3 n4 n5:Nat) (ao:Option Addr) (T P R L Q:List Nat) (w:World) (l1:T.length = n1) (l2:P.length = n2) (l3:R.length = n3) (l4:L.length = n4) (l5:Q.length = n5)
  (C1:∀ w',Below w.heap.size w w'→Calls Tryz.prog 24 #[.agg #[.int .i64 r,.int .i64 c,.slice ao n cap]] w' fun e w''=>∃ v,e = .returned (.tuple #[v,.int .i64 0])∧NewM w'.heap.size w'' c r T v∧Below w'.heap.size w' w'')
  (C2:∀ w' po pc,Below w.heap.size w w'→BitsAt w' po pc (mxL T)→Calls Tryz.prog 25 #[.agg #[.int .i64 c,.int .i64 r,.slice po n1 pc]] w' fun e w''=>∃ v u,e = .returned (.tuple #[v,u,.int .i64 0])∧NewM w'.heap.size w'' c c P v∧NewM w'.heap.size w'' c r R u∧Below w'.heap.size w' w'')
  (C3:∀ w' po pc,BitsAt w' po pc (mxL R)→Calls Tryz.prog 24 #[.agg #[.int .i64 c,.int .i64 r,.slice po n3 pc]] w' fun e w''=>∃ v,e = .returned (.tuple #[v,.int .i64 0])∧NewM w'.heap.size w'' r c L v∧Below w'.heap.size w' w'')
  (C4:∀ w' po pc,BitsAt w' po pc (mxL P)→Calls Tryz.prog 24 #[.agg #[.int .i64 c,.int .i64 c,.slice po n2 pc]] w' fun e w''=>∃ v,e = .returned (.tuple #[v,.int .i64 0])∧NewM w'.heap.size w'' c c Q v∧Below w'.heap.size w' w'') :
  Calls Tryz.prog 12 #[.agg #[.int .i64 r,.int .i64 c,.slice ao n cap]] w fun e w'=>∃ v u,e = .returned (.tuple #[v,u,.int .i64 0])∧NewM w.heap.size w' r c L v∧NewM w.heap.size w' c c Q u∧Below w.heap.size w w':=by
 have ST:=hide (FcSt.start w r c ao n cap)
 have K1:=hide (C1 _ (uH ST).bel);have K2:=hide C2;have K3:=hide C3;have K4:=hide C4;have L1:=hide l1;have L2:=hide l2;have L3:=hide l3;have L4:=hide l4;have L5:=hide l5
 clear C1 C2 C3 C4 l1 l2 l3 l4 l5
 go_enter Tryz.func12,Tryz.ntmps12
 go_wp2_with fail
 refine (uH K1).mono ?_
 rintro e w1 ⟨v,rfl,⟨o1,c1,rfl,hn,hq⟩,hb⟩
 rw [uH L1]
 have ba:=below_alloc9 w1 (.cells #[.int .i64 c,.int .i64 r,.slice o1 n1 c1] 24)
 have HG1:=hide ((uH ST).all hb).r2.lt
 have BX1:=hide (BoxM.new w1 (.int .i64 c) (.int .i64 r) (.slice o1 n1 c1))
 have HN1:=hide (hn.least (uH ST).bel.size)
 have HQ1:=hide (hq.below ba)
 replace ST:=hide (((uH ST).all hb).all ba)
 clear hb ba hn hq
 clear K1
 have q0:=(uH BX1).c0;have q1:=(uH BX1).c1;have q2:=(uH BX1).c2
 go_wp2_with fail
 clear q0 q1 q2
 refine (uH K2 _ o1 c1 (uH ST).bel (uH HQ1)).mono ?_
 rintro e w2 ⟨v,u,rfl,⟨p2,d2,rfl,_,hq⟩,⟨s2,f2,rfl,_,hr⟩,hb⟩
 rw [uH L2,uH L3]
 have b1:=below_alloc9 w2 (.cells #[.int .i64 c,.int .i64 c,.slice p2 n2 d2] 24)
 have s1:=size_alloc9 w2 (.cells #[.int .i64 c,.int .i64 c,.slice p2 n2 d2] 24)
 have b2:=below_alloc9 (w2.alloc (.cells #[.int .i64 c,.int .i64 c,.slice p2 n2 d2] 24)) (.cells #[.int .i64 c,.int .i64 r,.slice s2 n3 f2] 24)
 have BP2:=hide ((BoxM.new w2 (.int .i64 c) (.int .i64 c) (.slice p2 n2 d2)).all b2)
 have BS2:=hide (BoxM.new (w2.alloc (.cells #[.int .i64 c,.int .i64 c,.slice p2 n2 d2] 24)) (.int .i64 c) (.int .i64 r) (.slice s2 n3 f2))
 rw [s1] at BS2
 have HP2:=hide ((hq.below b1).below b2)
 have HS2:=hide ((hr.below b1).below b2)
 replace ST:=hide ((((uH ST).all hb).all b1).all b2)
 clear hb b1 b2 s1 hq hr
 clear K2 BX1 HQ1 HG1 HN1
 have q0:=(uH BS2).c0;have q1:=(uH BS2).c1;have q2:=(uH BS2).c2
 go_wp2_with fail
 clear q0 q1 q2
 refine (uH K3 _ s2 f2 (uH HS2)).mono ?_
 rintro e w3 ⟨v,rfl,⟨o3,c3,rfl,hn,hq⟩,hb⟩
 rw [uH L4]
 have ba:=below_alloc9 w3 (.cells #[.int .i64 r,.int .i64 c,.slice o3 n4 c3] 24)
 have HG3:=hide ((uH ST).all hb).r2.lt
 have BX3:=hide (BoxM.new w3 (.int .i64 r) (.int .i64 c) (.slice o3 n4 c3))
 have HN3:=hide (hn.least (uH ST).bel.size)
 have HQ3:=hide (hq.below ba)
 replace ST:=hide (((uH ST).all hb).all ba)
 replace BP2:=hide (((uH BP2).all hb).all ba)
 replace HP2:=hide (((uH HP2).below hb).below ba)
 clear hb ba hn hq
 clear K3 BS2 HS2
 have q0:=(uH BP2).c0;have q1:=(uH BP2).c1;have q2:=(uH BP2).c2
 go_wp2_with fail
 clear q0 q1 q2
 refine (uH K4 _ p2 d2 (uH HP2)).mono ?_
 rintro e w4 ⟨v,rfl,⟨o4,c4,rfl,hn,hq⟩,hb⟩
 rw [uH L5]
 have ba:=below_alloc9 w4 (.cells #[.int .i64 c,.int .i64 c,.slice o4 n5 c4] 24)
 have HG4:=hide ((uH ST).all hb).r2.lt
 have BX4:=hide (BoxM.new w4 (.int .i64 c) (.int .i64 c) (.slice o4 n5 c4))
 have HN4:=hide (hn.least (uH ST).bel.size)
 have HQ4:=hide (hq.below ba)
 replace ST:=hide (((uH ST).all hb).all ba)
 replace BX3:=hide (((uH BX3).all hb).all ba)
 replace HQ3:=hide (((uH HQ3).below hb).below ba)
 clear hb ba hn hq
 clear K4 BP2 HP2
 have HGA:=HG3;have HGB:=HG4
 clear HG3 HG4
 go_wp2_with fail
 refine at_world (fun W=>FcSt w W r c ao n cap∧BoxM W w3.heap.size (.int .i64 r) (.int .i64 c) (.slice o3 n4 c3)∧BoxM W w4.heap.size (.int .i64 c) (.int .i64 c) (.slice o4 n5 c4)∧BitsAt W o3 c3 (mxL L)∧BitsAt W o4 c4 (mxL Q)) ⟨uH ST,uH BX3,uH BX4,uH HQ3,uH HQ4⟩ ?_
 clear ST BX3 BX4 HQ3 HQ4
 rintro W ⟨s2,cb,tb,hq,hq3⟩
 have S2:=hide (s2)
 have y3:=(cb).c0;have y4:=(cb).c1;have y5:=(cb).c2
 have y0:=(tb).c0;have y1:=(tb).c1;have y2:=(tb).c2
 have Q1:=hq;have Q3:=hq3
 clear s2 cb tb hq hq3
 have X1:=(uH S2).r1;have X2:=(uH S2).r2
 have s0:=X1.c0;have s1:=X1.c1;have s2:=X1.c2
 have f0:=X1.free 0;have f1:=X1.free 1;have f2:=X1.free 2
 have Y1:=X1.put (.int .i64 r) (.int .i64 c) (.slice o3 n4 c3)
 have Y2:=X2.three14 (g:=w.heap.size+1) (by omega) (.int .i64 r) (.int .i64 c) (.slice o3 n4 c3)
 have s3:=Y2.c0;have s4:=Y2.c1;have s5:=Y2.c2
 have f3:=Y2.free 0;have f4:=Y2.free 1;have f5:=Y2.free 2
 have Z1:=Y1.three14 (g:=w.heap.size+1+1) (by omega) (.int .i64 c) (.int .i64 c) (.slice o4 n5 c4)
 have Z2:=Y2.put (.int .i64 c) (.int .i64 c) (.slice o4 n5 c4)
 have z0:=Z1.c0;have z1:=Z1.c1;have z2:=Z1.c2;have z3:=Z2.c0;have z4:=Z2.c1;have z5:=Z2.c2
 have BP:=hide (below_putM (below_putM (uH S2).bel (b:=w.heap.size+1) (by omega) (.int .i64 r) (.int .i64 c) (.slice o3 n4 c3)) (b:=w.heap.size+1+1) (by omega) (.int .i64 c) (.int .i64 c) (.slice o4 n5 c4))
 have PQ:=hide ((Q1.putM X1 (.int .i64 r) (.int .i64 c) (.slice o3 n4 c3)).putM Y2 (.int .i64 c) (.int .i64 c) (.slice o4 n5 c4))
 have PR:=hide ((Q3.putM X1 (.int .i64 r) (.int .i64 c) (.slice o3 n4 c3)).putM Y2 (.int .i64 c) (.int .i64 c) (.slice o4 n5 c4))
 clear X1 X2 Y1 Y2 Z1 Z2 S2 Q1 Q3
 have HS0:=hide (show _∧_∧_∧_∧_∧_ from ⟨cell_drew14 y3,cell_drew14 y4,cell_drew14 y5,cell_drew14 y0,cell_drew14 y1,cell_drew14 y2⟩)
 have HP2:=hide (show _∧_∧_∧_∧_∧_ from ⟨cell_three14 (u:=.int .i64 r) (u':=.int .i64 c) (u'':=.slice o3 n4 c3) (show w3.heap.size ≠ w.heap.size+1 by have:=uH HGA;omega) y3,cell_three14 (u:=.int .i64 r) (u':=.int .i64 c) (u'':=.slice o3 n4 c3) (show w3.heap.size ≠ w.heap.size+1 by have:=uH HGA;omega) y4,cell_three14 (u:=.int .i64 r) (u':=.int .i64 c) (u'':=.slice o3 n4 c3) (show w3.heap.size ≠ w.heap.size+1 by have:=uH HGA;omega) y5,cell_three14 (u:=.int .i64 r) (u':=.int .i64 c) (u'':=.slice o3 n4 c3) (show w4.heap.size ≠ w.heap.size+1 by have:=uH HGB;omega) y0,cell_three14 (u:=.int .i64 r) (u':=.int .i64 c) (u'':=.slice o3 n4 c3) (show w4.heap.size ≠ w.heap.size+1 by have:=uH HGB;omega) y1,cell_three14 (u:=.int .i64 r) (u':=.int .i64 c) (u'':=.slice o3 n4 c3) (show w4.heap.size ≠ w.heap.size+1 by have:=uH HGB;omega) y2⟩)
 have HS2:=hide (show _∧_∧_∧_∧_∧_ from ⟨cell_three14d (u:=.int .i64 r) (u':=.int .i64 c) (u'':=.slice o3 n4 c3) (show w3.heap.size ≠ w.heap.size+1 by have:=uH HGA;omega) y3,cell_three14d (u:=.int .i64 r) (u':=.int .i64 c) (u'':=.slice o3 n4 c3) (show w3.heap.size ≠ w.heap.size+1 by have:=uH HGA;omega) y4,cell_three14d (u:=.int .i64 r) (u':=.int .i64 c) (u'':=.slice o3 n4 c3) (show w3.heap.size ≠ w.heap.size+1 by have:=uH HGA;omega) y5,cell_three14d (u:=.int .i64 r) (u':=.int .i64 c) (u'':=.slice o3 n4 c3) (show w4.heap.size ≠ w.heap.size+1 by have:=uH HGB;omega) y0,cell_three14d (u:=.int .i64 r) (u':=.int .i64 c) (u'':=.slice o3 n4 c3) (show w4.heap.size ≠ w.heap.size+1 by have:=uH HGB;omega) y1,cell_three14d (u:=.int .i64 r) (u':=.int .i64 c) (u'':=.slice o3 n4 c3) (show w4.heap.size ≠ w.heap.size+1 by have:=uH HGB;omega) y2⟩)
 have HS3:=hide (show _∧_∧_∧_∧_∧_ from ⟨cell_three14d (u:=.int .i64 c) (u':=.int .i64 c) (u'':=.slice o4 n5 c4) (show w3.heap.size ≠ w.heap.size+1+1 by have:=uH HGA;omega) (uH HP2).1,cell_three14d (u:=.int .i64 c) (u':=.int .i64 c) (u'':=.slice o4 n5 c4) (show w3.heap.size ≠ w.heap.size+1+1 by have:=uH HGA;omega) (uH HP2).2.1,cell_three14d (u:=.int .i64 c) (u':=.int .i64 c) (u'':=.slice o4 n5 c4) (show w3.heap.size ≠ w.heap.size+1+1 by have:=uH HGA;omega) (uH HP2).2.2.1,cell_three14d (u:=.int .i64 c) (u':=.int .i64 c) (u'':=.slice o4 n5 c4) (show w4.heap.size ≠ w.heap.size+1+1 by have:=uH HGB;omega) (uH HP2).2.2.2.1,cell_three14d (u:=.int .i64 c) (u':=.int .i64 c) (u'':=.slice o4 n5 c4) (show w4.heap.size ≠ w.heap.size+1+1 by have:=uH HGB;omega) (uH HP2).2.2.2.2.1,cell_three14d (u:=.int .i64 c) (u':=.int .i64 c) (u'':=.slice o4 n5 c4) (show w4.heap.size ≠ w.heap.size+1+1 by have:=uH HGB;omega) (uH HP2).2.2.2.2.2⟩)
 clear y0 y1 y2 y3 y4 y5
 refine wp_region_held_drew (S:=(fun w'=>w'.cell? ⟨w3.heap.size,0,none⟩ = some (.int .i64 (r:Int))∧w'.cell? ⟨w3.heap.size,1,none⟩ = some (.int .i64 (c:Int))∧w'.cell? ⟨w3.heap.size,2,none⟩ = some (.slice o3 n4 c3)∧w'.cell? ⟨w4.heap.size,0,none⟩ = some (.int .i64 (c:Int))∧w'.cell? ⟨w4.heap.size,1,none⟩ = some (.int .i64 (c:Int))∧w'.cell? ⟨w4.heap.size,2,none⟩ = some (.slice o4 n5 c4))) (by kernel_rfl) ?_ (fun hHeld=>?_)
 ·exact uH HS0
 refine wpAnyH_take (i:=0) (oi:={ dst:=some 44,op:=Op.load 24 (Operand.tmp 9),type:=24,pos := "rq.go:47",after:=#[],guard:=none }) (v:=(Value.agg #[.int .i64 (r:Int),.int .i64 (c:Int),.slice o3 n4 c3])) rfl (by kernel_rfl) (by kernel_rfl) (by kernel_rfl) (fun _ _ _ h=>h) (Or.inl ⟨by rfl,?_⟩) (by assumption) ?_
 ·(intro w hSw;(try dsimp only at hSw);go_simp)
 simp only [Act.put,List.setIfInBounds_toArray,List.set_cons_zero,List.set_cons_succ]
 refine wpAnyH_take (i:=1) (oi:={ dst:=some 45,op:=Op.load 24 (Operand.tmp 11),type:=24,pos := "rq.go:47",after:=#[{ on:=2,ground:=Ground.gcOnly Departure.lateStores }],guard:=none }) (v:=(Value.agg #[.int .i64 (c:Int),.int .i64 (c:Int),.slice o4 n5 c4])) rfl (by kernel_rfl) (by kernel_rfl) (by kernel_rfl) (fun _ _ _ h=>h) (Or.inl ⟨by rfl,?_⟩) (by assumption) ?_
 ·(intro w hSw;(try dsimp only at hSw);go_simp)
 simp only [Act.put,List.setIfInBounds_toArray,List.set_cons_zero,List.set_cons_succ]
 refine wpAnyH_ready (rs:=[2]) (by kernel_rfl) (by simp) ?_
 refine AllReadyH.cons (o:={ dst:=none,op:=Op.store 24 (Operand.tmp 2) (Operand.tmp 44),type:=0,pos := "rq.go:47",after:=#[{ on:=0,ground:=Ground.data },{ on:=0,ground:=Ground.phase },{ on:=1,ground:=Ground.textOnly Departure.lateStores }],guard:=none }) rfl (fun KK hK=>?_) AllReadyH.nil
 go_simp
 refine hK.out _ _ ?_ (fun hHeld=>?_)
 ·exact uH HS2
 clear hK KK
 refine wpAnyH_ready (rs:=[3]) (by kernel_rfl) (by simp) ?_
 refine AllReadyH.cons (o:={ dst:=none,op:=Op.store 24 (Operand.tmp 3) (Operand.tmp 45),type:=0,pos := "rq.go:47",after:=#[{ on:=1,ground:=Ground.data },{ on:=2,ground:=Ground.chain },{ on:=0,ground:=Ground.phase },{ on:=1,ground:=Ground.phase },{ on:=2,ground:=Ground.phase }],guard:=none }) rfl (fun KK hK=>?_) AllReadyH.nil
 go_simp
 refine hK.out _ _ ?_ (fun hHeld=>?_)
 ·exact uH HS3
 clear hK KK
 refine wpAnyH_ready (rs:=[4]) (by kernel_rfl) (by simp) ?_
 refine AllReadyH.cons (o:={ dst:=some 4,op:=Op.assign (Operand.const (Value.int IntKind.i64 0)),type:=26,pos := "rq.go:47",after:=#[{ on:=3,ground:=Ground.chain },{ on:=0,ground:=Ground.phase },{ on:=1,ground:=Ground.phase },{ on:=2,ground:=Ground.phase },{ on:=3,ground:=Ground.phase }],guard:=none }) rfl (fun KK hK=>?_) AllReadyH.nil
 go_simp
 refine hK.out _ _ ?_ (fun hHeld=>?_)
 ·exact uH HS3
 clear hK KK
 refine wpAnyH_done (by kernel_rfl) ?_ _
 clear HS0 HS2 HS3 HP2
 go_wp2_with fail
 refine bodyPost_ret (v:=.tuple #[.agg #[.int .i64 r,.int .i64 c,.slice o3 n4 c3],.agg #[.int .i64 c,.int .i64 c,.slice o4 n5 c4],.int .i64 0]) (by simp [results,Tryz.results12,go_sem,z0,z1,z2,z3,z4,z5]) rfl ⟨_,_,rfl,⟨o3,c3,by rw [uH L4],uH HN3,(uH PQ).below (Below.refl _ _).drew⟩,⟨o4,c4,by rw [uH L5],uH HN4,(uH PR).below (Below.refl _ _).drew⟩,(uH BP).drew⟩
theorem rq_shape (r c n cap:Nat) (ao:Option Addr) (w:World) (hlt:c < r)
  (C0:∀ w',Below w.heap.size w w'→Calls Tryz.prog 19 #[.agg #[.int .i64 r,.int .i64 c,.slice ao n cap]] w' fun e w''=>e = .returned (.int .i64 0)∧Below w'.heap.size w' w'') :
  Calls Tryz.prog 13 #[.agg #[.int .i64 r,.int .i64 c,.slice ao n cap]] w fun e w'=>∃ v u,e = .returned (.tuple #[v,u,.int .i64 3])∧NewM w.heap.size w' 0 0 [] v∧NewM w.heap.size w' 0 0 [] u∧Below w.heap.size w w':=by
 have hI:(c:Int) < (r:Int):=by omega
 have ST:=hide (FcSt.start w r c ao n cap)
 have K0:=hide (C0 _ (uH ST).bel)
 clear C0
 go_enter Tryz.func13,Tryz.ntmps13
 go_wp2_with fail
 refine (uH K0).mono ?_
 rintro e w0 ⟨rfl,hb⟩
 replace ST:=hide ((uH ST).all hb)
 clear hb K0
 have y0:=(uH ST).a.c0;have y1:=(uH ST).a.c1;have y2:=(uH ST).a.c2
 have X1:=(uH ST).r1;have X2:=(uH ST).r2
 have s0:=X1.c0;have s1:=X1.c1;have s2:=X1.c2
 have f0:=X1.free 0;have f1:=X1.free 1;have f2:=X1.free 2
 have Y1:=X1.put (.int .i64 0) (.int .i64 0) (.slice none 0 0)
 have Y2:=X2.three14 (g:=w.heap.size+1) (by omega) (.int .i64 0) (.int .i64 0) (.slice none 0 0)
 have s3:=Y2.c0;have s4:=Y2.c1;have s5:=Y2.c2
 have f3:=Y2.free 0;have f4:=Y2.free 1;have f5:=Y2.free 2
 have Z1:=Y1.three14 (g:=w.heap.size+1+1) (by omega) (.int .i64 0) (.int .i64 0) (.slice none 0 0)
 have Z2:=Y2.put (.int .i64 0) (.int .i64 0) (.slice none 0 0)
 have z0:=Z1.c0;have z1:=Z1.c1;have z2:=Z1.c2;have z3:=Z2.c0;have z4:=Z2.c1;have z5:=Z2.c2
 have BP:=hide (below_putM (below_putM (uH ST).bel (b:=w.heap.size+1) (by omega) (.int .i64 0) (.int .i64 0) (.slice none 0 0)) (b:=w.heap.size+1+1) (by omega) (.int .i64 0) (.int .i64 0) (.slice none 0 0))
 clear X1 X2 Y1 Y2 Z1 Z2 ST
 go_wp2_with fail
 exact bodyPost_ret (v:=.tuple #[.agg #[.int .i64 0,.int .i64 0,.slice none 0 0],.agg #[.int .i64 0,.int .i64 0,.slice none 0 0],.int .i64 3]) (by simp [results,Tryz.results13,go_sem,z0,z1,z2,z3,z4,z5]) rfl ⟨_,_,rfl,NewM.zero _ _,NewM.zero _ _,uH BP⟩
theorem rq_err (r c n cap n1:Nat) (ao:Option Addr) (D:List Nat) (er:Int) (w:World) (her:er = 4 ∨ er = 2) (hle:r≤c) (l1:D.length = n1)
  (C0:∀ w',Below w.heap.size w w'→Calls Tryz.prog 19 #[.agg #[.int .i64 r,.int .i64 c,.slice ao n cap]] w' fun e w''=>e = .returned (.int .i64 0)∧Below w'.heap.size w' w'')
  (C1:∀ w',Below w.heap.size w w'→Calls Tryz.prog 7 #[.agg #[.int .i64 r,.int .i64 c,.slice ao n cap],.bool true,.bool false] w' fun e w''=>∃ v,e = .returned (.tuple #[v,.int .i64 0])∧NewM w'.heap.size w'' r c D v∧Below w'.heap.size w' w'')
  (C2:∀ w' po pc,Below w.heap.size w w'→BitsAt w' po pc (mxL D)→Calls Tryz.prog 12 #[.agg #[.int .i64 r,.int .i64 c,.slice po n1 pc]] w' fun e w''=>∃ v u,e = .returned (.tuple #[v,u,.int .i64 er])∧NewM w'.heap.size w'' 0 0 [] v∧NewM w'.heap.size w'' 0 0 [] u∧Below w'.heap.size w' w'') :
  Calls Tryz.prog 13 #[.agg #[.int .i64 r,.int .i64 c,.slice ao n cap]] w fun e w'=>∃ v u,e = .returned (.tuple #[v,u,.int .i64 er])∧NewM w.heap.size w' 0 0 [] v∧NewM w.heap.size w' 0 0 [] u∧Below w.heap.size w w':=by
 have hI:¬ (c:Int) < (r:Int):=by omega
 have ST:=hide (FcSt.start w r c ao n cap)
 have K0:=hide (C0 _ (uH ST).bel);have K1:=hide C1;have K2:=hide C2;have L1:=hide l1
 clear C0 C1 C2 l1
 rcases her with rfl | rfl
 all_goals
  go_enter Tryz.func13,Tryz.ntmps13
  go_wp2_with fail
  refine (uH K0).mono ?_
  rintro e w0 ⟨rfl,hb⟩
  replace ST:=hide ((uH ST).all hb)
  clear hb K0
  have y0:=(uH ST).a.c0;have y1:=(uH ST).a.c1;have y2:=(uH ST).a.c2
  go_wp2_with fail
  clear y0 y1 y2
  refine (uH K1 _ (uH ST).bel).mono ?_
  rintro e w1 ⟨v,rfl,⟨o1,c1,rfl,hn,hq⟩,hb⟩
  rw [uH L1]
  have ba:=below_alloc9 w1 (.cells #[.int .i64 r,.int .i64 c,.slice o1 n1 c1] 24)
  have HG1:=hide ((uH ST).all hb).r2.lt
  have BX1:=hide (BoxM.new w1 (.int .i64 r) (.int .i64 c) (.slice o1 n1 c1))
  have HN1:=hide (hn.least (uH ST).bel.size)
  have HQ1:=hide (hq.below ba)
  replace ST:=hide (((uH ST).all hb).all ba)
  clear hb ba hn hq
  clear K1
  have q0:=(uH BX1).c0;have q1:=(uH BX1).c1;have q2:=(uH BX1).c2
  go_wp2_with fail
  clear q0 q1 q2
  refine (uH K2 _ o1 c1 (uH ST).bel (uH HQ1)).mono ?_
  rintro e w2 ⟨v,u,rfl,⟨vo,vc,rfl,_,_⟩,⟨uo,uc,rfl,_,_⟩,hb⟩
  simp only [List.length_nil]
  have b1:=below_alloc9 w2 (.cells #[.int .i64 0,.int .i64 0,.slice vo 0 vc] 24)
  have b2:=below_alloc9 (w2.alloc (.cells #[.int .i64 0,.int .i64 0,.slice vo 0 vc] 24)) (.cells #[.int .i64 0,.int .i64 0,.slice uo 0 uc] 24)
  replace ST:=hide ((((uH ST).all hb).all b1).all b2)
  clear hb b1 b2
  clear K2 BX1 HQ1 HG1 HN1
  have X1:=(uH ST).r1;have X2:=(uH ST).r2
  have s0:=X1.c0;have s1:=X1.c1;have s2:=X1.c2
  have f0:=X1.free 0;have f1:=X1.free 1;have f2:=X1.free 2
  have Y1:=X1.put (.int .i64 0) (.int .i64 0) (.slice none 0 0)
  have Y2:=X2.three14 (g:=w.heap.size+1) (by omega) (.int .i64 0) (.int .i64 0) (.slice none 0 0)
  have s3:=Y2.c0;have s4:=Y2.c1;have s5:=Y2.c2
  have f3:=Y2.free 0;have f4:=Y2.free 1;have f5:=Y2.free 2
  have Z1:=Y1.three14 (g:=w.heap.size+1+1) (by omega) (.int .i64 0) (.int .i64 0) (.slice none 0 0)
  have Z2:=Y2.put (.int .i64 0) (.int .i64 0) (.slice none 0 0)
  have z0:=Z1.c0;have z1:=Z1.c1;have z2:=Z1.c2;have z3:=Z2.c0;have z4:=Z2.c1;have z5:=Z2.c2
  have BP:=hide (below_putM (below_putM (uH ST).bel (b:=w.heap.size+1) (by omega) (.int .i64 0) (.int .i64 0) (.slice none 0 0)) (b:=w.heap.size+1+1) (by omega) (.int .i64 0) (.int .i64 0) (.slice none 0 0))
  clear X1 X2 Y1 Y2 Z1 Z2 ST
  go_wp2_with fail
  exact bodyPost_ret (v:=.tuple #[.agg #[.int .i64 0,.int .i64 0,.slice none 0 0],.agg #[.int .i64 0,.int .i64 0,.slice none 0 0],.int .i64 _]) (by simp [results,Tryz.results13,go_sem,z0,z1,z2,z3,z4,z5]) rfl ⟨_,_,rfl,NewM.zero _ _,NewM.zero _ _,uH BP⟩
theorem rq_of (r c n cap n1 n2 n3 n4 n5:Nat) (ao:Option Addr) (D L P R Q:List Nat) (w:World) (hle:r≤c) (l1:D.length = n1) (l2:L.length = n2) (l3:P.length = n3) (l4:R.length = n4) (l5:Q.length = n5)
  (C0:∀ w',Below w.heap.size w w'→Calls Tryz.prog 19 #[.agg #[.int .i64 r,.int .i64 c,.slice ao n cap]] w' fun e w''=>e = .returned (.int .i64 0)∧Below w'.heap.size w' w'')
  (C1:∀ w',Below w.heap.size w w'→Calls Tryz.prog 7 #[.agg #[.int .i64 r,.int .i64 c,.slice ao n cap],.bool true,.bool false] w' fun e w''=>∃ v,e = .returned (.tuple #[v,.int .i64 0])∧NewM w'.heap.size w'' r c D v∧Below w'.heap.size w' w'')
  (C2:∀ w' po pc,Below w.heap.size w w'→BitsAt w' po pc (mxL D)→Calls Tryz.prog 12 #[.agg #[.int .i64 r,.int .i64 c,.slice po n1 pc]] w' fun e w''=>∃ v u,e = .returned (.tuple #[v,u,.int .i64 0])∧NewM w'.heap.size w'' r c L v∧NewM w'.heap.size w'' c c P u∧Below w'.heap.size w' w'')
  (C3:∀ w' po pc,BitsAt w' po pc (mxL L)→Calls Tryz.prog 7 #[.agg #[.int .i64 r,.int .i64 c,.slice po n2 pc],.bool true,.bool true] w' fun e w''=>∃ v,e = .returned (.tuple #[v,.int .i64 0])∧NewM w'.heap.size w'' r c R v∧Below w'.heap.size w' w'')
  (C4:∀ w' po pc,BitsAt w' po pc (mxL P)→Calls Tryz.prog 7 #[.agg #[.int .i64 c,.int .i64 c,.slice po n3 pc],.bool true,.bool false] w' fun e w''=>∃ v,e = .returned (.tuple #[v,.int .i64 0])∧NewM w'.heap.size w'' c c Q v∧Below w'.heap.size w' w'') :
  Calls Tryz.prog 13 #[.agg #[.int .i64 r,.int .i64 c,.slice ao n cap]] w fun e w'=>∃ v u,e = .returned (.tuple #[v,u,.int .i64 0])∧NewM w.heap.size w' r c R v∧NewM w.heap.size w' c c Q u∧Below w.heap.size w w':=by
 have hI:¬ (c:Int) < (r:Int):=by omega
 have ST:=hide (FcSt.start w r c ao n cap)
 have K0:=hide (C0 _ (uH ST).bel);have K1:=hide C1;have K2:=hide C2;have K3:=hide C3;have K4:=hide C4;have L1:=hide l1;have L2:=hide l2;have L3:=hide l3;have L4:=hide l4;have L5:=hide l5
 clear C0 C1 C2 C3 C4 l1 l2 l3 l4 l5
 go_enter Tryz.func13,Tryz.ntmps13
 go_wp2_with fail
 refine (uH K0).mono ?_
 rintro e w0 ⟨rfl,hb⟩
 replace ST:=hide ((uH ST).all hb)
 clear hb K0
 have y0:=(uH ST).a.c0;have y1:=(uH ST).a.c1;have y2:=(uH ST).a.c2
 go_wp2_with fail
 clear y0 y1 y2
 refine (uH K1 _ (uH ST).bel).mono ?_
 rintro e w1 ⟨v,rfl,⟨o1,c1,rfl,hn,hq⟩,hb⟩
 rw [uH L1]
 have ba:=below_alloc9 w1 (.cells #[.int .i64 r,.int .i64 c,.slice o1 n1 c1] 24)
 have HG1:=hide ((uH ST).all hb).r2.lt
 have BX1:=hide (BoxM.new w1 (.int .i64 r) (.int .i64 c) (.slice o1 n1 c1))
 have HN1:=hide (hn.least (uH ST).bel.size)
 have HQ1:=hide (hq.below ba)
 replace ST:=hide (((uH ST).all hb).all ba)
 clear hb ba hn hq
 clear K1
 have q0:=(uH BX1).c0;have q1:=(uH BX1).c1;have q2:=(uH BX1).c2
 go_wp2_with fail
 clear q0 q1 q2
 refine (uH K2 _ o1 c1 (uH ST).bel (uH HQ1)).mono ?_
 rintro e w2 ⟨v,u,rfl,⟨p2,d2,rfl,_,hq⟩,⟨s2,f2,rfl,_,hr⟩,hb⟩
 rw [uH L2,uH L3]
 have b1:=below_alloc9 w2 (.cells #[.int .i64 r,.int .i64 c,.slice p2 n2 d2] 24)
 have s1:=size_alloc9 w2 (.cells #[.int .i64 r,.int .i64 c,.slice p2 n2 d2] 24)
 have b2:=below_alloc9 (w2.alloc (.cells #[.int .i64 r,.int .i64 c,.slice p2 n2 d2] 24)) (.cells #[.int .i64 c,.int .i64 c,.slice s2 n3 f2] 24)
 have BP2:=hide ((BoxM.new w2 (.int .i64 r) (.int .i64 c) (.slice p2 n2 d2)).all b2)
 have BS2:=hide (BoxM.new (w2.alloc (.cells #[.int .i64 r,.int .i64 c,.slice p2 n2 d2] 24)) (.int .i64 c) (.int .i64 c) (.slice s2 n3 f2))
 rw [s1] at BS2
 have HP2:=hide ((hq.below b1).below b2)
 have HS2:=hide ((hr.below b1).below b2)
 replace ST:=hide ((((uH ST).all hb).all b1).all b2)
 clear hb b1 b2 s1 hq hr
 clear K2 BX1 HQ1 HG1 HN1
 have q0:=(uH BP2).c0;have q1:=(uH BP2).c1;have q2:=(uH BP2).c2
 go_wp2_with fail
 clear q0 q1 q2
 refine (uH K3 _ p2 d2 (uH HP2)).mono ?_
 rintro e w3 ⟨v,rfl,⟨o3,c3,rfl,hn,hq⟩,hb⟩
 rw [uH L4]
 have ba:=below_alloc9 w3 (.cells #[.int .i64 r,.int .i64 c,.slice o3 n4 c3] 24)
 have HG3:=hide ((uH ST).all hb).r2.lt
 have BX3:=hide (BoxM.new w3 (.int .i64 r) (.int .i64 c) (.slice o3 n4 c3))
 have HN3:=hide (hn.least (uH ST).bel.size)
 have HQ3:=hide (hq.below ba)
 replace ST:=hide (((uH ST).all hb).all ba)
 replace BS2:=hide (((uH BS2).all hb).all ba)
 replace HS2:=hide (((uH HS2).below hb).below ba)
 clear hb ba hn hq
 clear K3 BP2 HP2
 have q0:=(uH BS2).c0;have q1:=(uH BS2).c1;have q2:=(uH BS2).c2
 go_wp2_with fail
 clear q0 q1 q2
 refine (uH K4 _ s2 f2 (uH HS2)).mono ?_
 rintro e w4 ⟨v,rfl,⟨o4,c4,rfl,hn,hq⟩,hb⟩
 rw [uH L5]
 have ba:=below_alloc9 w4 (.cells #[.int .i64 c,.int .i64 c,.slice o4 n5 c4] 24)
 have HG4:=hide ((uH ST).all hb).r2.lt
 have BX4:=hide (BoxM.new w4 (.int .i64 c) (.int .i64 c) (.slice o4 n5 c4))
 have HN4:=hide (hn.least (uH ST).bel.size)
 have HQ4:=hide (hq.below ba)
 replace ST:=hide (((uH ST).all hb).all ba)
 replace BX3:=hide (((uH BX3).all hb).all ba)
 replace HQ3:=hide (((uH HQ3).below hb).below ba)
 clear hb ba hn hq
 clear K4 BS2 HS2
 have HGA:=HG3;have HGB:=HG4
 clear HG3 HG4
 go_wp2_with fail
 refine at_world (fun W=>FcSt w W r c ao n cap∧BoxM W w3.heap.size (.int .i64 r) (.int .i64 c) (.slice o3 n4 c3)∧BoxM W w4.heap.size (.int .i64 c) (.int .i64 c) (.slice o4 n5 c4)∧BitsAt W o3 c3 (mxL R)∧BitsAt W o4 c4 (mxL Q)) ⟨uH ST,uH BX3,uH BX4,uH HQ3,uH HQ4⟩ ?_
 clear ST BX3 BX4 HQ3 HQ4
 rintro W ⟨s2,cb,tb,hq,hq3⟩
 have S2:=hide (s2)
 have y3:=(cb).c0;have y4:=(cb).c1;have y5:=(cb).c2
 have y0:=(tb).c0;have y1:=(tb).c1;have y2:=(tb).c2
 have Q1:=hq;have Q3:=hq3
 clear s2 cb tb hq hq3
 have X1:=(uH S2).r1;have X2:=(uH S2).r2
 have s0:=X1.c0;have s1:=X1.c1;have s2:=X1.c2
 have f0:=X1.free 0;have f1:=X1.free 1;have f2:=X1.free 2
 have Y1:=X1.put (.int .i64 r) (.int .i64 c) (.slice o3 n4 c3)
 have Y2:=X2.three14 (g:=w.heap.size+1) (by omega) (.int .i64 r) (.int .i64 c) (.slice o3 n4 c3)
 have s3:=Y2.c0;have s4:=Y2.c1;have s5:=Y2.c2
 have f3:=Y2.free 0;have f4:=Y2.free 1;have f5:=Y2.free 2
 have Z1:=Y1.three14 (g:=w.heap.size+1+1) (by omega) (.int .i64 c) (.int .i64 c) (.slice o4 n5 c4)
 have Z2:=Y2.put (.int .i64 c) (.int .i64 c) (.slice o4 n5 c4)
 have z0:=Z1.c0;have z1:=Z1.c1;have z2:=Z1.c2;have z3:=Z2.c0;have z4:=Z2.c1;have z5:=Z2.c2
 have BP:=hide (below_putM (below_putM (uH S2).bel (b:=w.heap.size+1) (by omega) (.int .i64 r) (.int .i64 c) (.slice o3 n4 c3)) (b:=w.heap.size+1+1) (by omega) (.int .i64 c) (.int .i64 c) (.slice o4 n5 c4))
 have PQ:=hide ((Q1.putM X1 (.int .i64 r) (.int .i64 c) (.slice o3 n4 c3)).putM Y2 (.int .i64 c) (.int .i64 c) (.slice o4 n5 c4))
 have PR:=hide ((Q3.putM X1 (.int .i64 r) (.int .i64 c) (.slice o3 n4 c3)).putM Y2 (.int .i64 c) (.int .i64 c) (.slice o4 n5 c4))
 clear X1 X2 Y1 Y2 Z1 Z2 S2 Q1 Q3
 have HS0:=hide (show _∧_∧_∧_∧_∧_ from ⟨cell_drew14 y3,cell_drew14 y4,cell_drew14 y5,cell_drew14 y0,cell_drew14 y1,cell_drew14 y2⟩)
 have HP2:=hide (show _∧_∧_∧_∧_∧_ from ⟨cell_three14 (u:=.int .i64 r) (u':=.int .i64 c) (u'':=.slice o3 n4 c3) (show w3.heap.size ≠ w.heap.size+1 by have:=uH HGA;omega) y3,cell_three14 (u:=.int .i64 r) (u':=.int .i64 c) (u'':=.slice o3 n4 c3) (show w3.heap.size ≠ w.heap.size+1 by have:=uH HGA;omega) y4,cell_three14 (u:=.int .i64 r) (u':=.int .i64 c) (u'':=.slice o3 n4 c3) (show w3.heap.size ≠ w.heap.size+1 by have:=uH HGA;omega) y5,cell_three14 (u:=.int .i64 r) (u':=.int .i64 c) (u'':=.slice o3 n4 c3) (show w4.heap.size ≠ w.heap.size+1 by have:=uH HGB;omega) y0,cell_three14 (u:=.int .i64 r) (u':=.int .i64 c) (u'':=.slice o3 n4 c3) (show w4.heap.size ≠ w.heap.size+1 by have:=uH HGB;omega) y1,cell_three14 (u:=.int .i64 r) (u':=.int .i64 c) (u'':=.slice o3 n4 c3) (show w4.heap.size ≠ w.heap.size+1 by have:=uH HGB;omega) y2⟩)
 have HS2:=hide (show _∧_∧_∧_∧_∧_ from ⟨cell_three14d (u:=.int .i64 r) (u':=.int .i64 c) (u'':=.slice o3 n4 c3) (show w3.heap.size ≠ w.heap.size+1 by have:=uH HGA;omega) y3,cell_three14d (u:=.int .i64 r) (u':=.int .i64 c) (u'':=.slice o3 n4 c3) (show w3.heap.size ≠ w.heap.size+1 by have:=uH HGA;omega) y4,cell_three14d (u:=.int .i64 r) (u':=.int .i64 c) (u'':=.slice o3 n4 c3) (show w3.heap.size ≠ w.heap.size+1 by have:=uH HGA;omega) y5,cell_three14d (u:=.int .i64 r) (u':=.int .i64 c) (u'':=.slice o3 n4 c3) (show w4.heap.size ≠ w.heap.size+1 by have:=uH HGB;omega) y0,cell_three14d (u:=.int .i64 r) (u':=.int .i64 c) (u'':=.slice o3 n4 c3) (show w4.heap.size ≠ w.heap.size+1 by have:=uH HGB;omega) y1,cell_three14d (u:=.int .i64 r) (u':=.int .i64 c) (u'':=.slice o3 n4 c3) (show w4.heap.size ≠ w.heap.size+1 by have:=uH HGB;omega) y2⟩)
 have HS3:=hide (show _∧_∧_∧_∧_∧_ from ⟨cell_three14d (u:=.int .i64 c) (u':=.int .i64 c) (u'':=.slice o4 n5 c4) (show w3.heap.size ≠ w.heap.size+1+1 by have:=uH HGA;omega) (uH HP2).1,cell_three14d (u:=.int .i64 c) (u':=.int .i64 c) (u'':=.slice o4 n5 c4) (show w3.heap.size ≠ w.heap.size+1+1 by have:=uH HGA;omega) (uH HP2).2.1,cell_three14d (u:=.int .i64 c) (u':=.int .i64 c) (u'':=.slice o4 n5 c4) (show w3.heap.size ≠ w.heap.size+1+1 by have:=uH HGA;omega) (uH HP2).2.2.1,cell_three14d (u:=.int .i64 c) (u':=.int .i64 c) (u'':=.slice o4 n5 c4) (show w4.heap.size ≠ w.heap.size+1+1 by have:=uH HGB;omega) (uH HP2).2.2.2.1,cell_three14d (u:=.int .i64 c) (u':=.int .i64 c) (u'':=.slice o4 n5 c4) (show w4.heap.size ≠ w.heap.size+1+1 by have:=uH HGB;omega) (uH HP2).2.2.2.2.1,cell_three14d (u:=.int .i64 c) (u':=.int .i64 c) (u'':=.slice o4 n5 c4) (show w4.heap.size ≠ w.heap.size+1+1 by have:=uH HGB;omega) (uH HP2).2.2.2.2.2⟩)
 clear y0 y1 y2 y3 y4 y5
 refine wp_region_held_drew (S:=(fun w'=>w'.cell? ⟨w3.heap.size,0,none⟩ = some (.int .i64 (r:Int))∧w'.cell? ⟨w3.heap.size,1,none⟩ = some (.int .i64 (c:Int))∧w'.cell? ⟨w3.heap.size,2,none⟩ = some (.slice o3 n4 c3)∧w'.cell? ⟨w4.heap.size,0,none⟩ = some (.int .i64 (c:Int))∧w'.cell? ⟨w4.heap.size,1,none⟩ = some (.int .i64 (c:Int))∧w'.cell? ⟨w4.heap.size,2,none⟩ = some (.slice o4 n5 c4))) (by kernel_rfl) ?_ (fun hHeld=>?_)
 ·exact uH HS0
 refine wpAnyH_take (i:=0) (oi:={ dst:=some 55,op:=Op.load 24 (Operand.tmp 11),type:=24,pos := "rq.go:65",after:=#[],guard:=none }) (v:=(Value.agg #[.int .i64 (r:Int),.int .i64 (c:Int),.slice o3 n4 c3])) rfl (by kernel_rfl) (by kernel_rfl) (by kernel_rfl) (fun _ _ _ h=>h) (Or.inl ⟨by rfl,?_⟩) (by assumption) ?_
 ·(intro w hSw;(try dsimp only at hSw);go_simp)
 simp only [Act.put,List.setIfInBounds_toArray,List.set_cons_zero,List.set_cons_succ]
 refine wpAnyH_take (i:=1) (oi:={ dst:=some 56,op:=Op.load 24 (Operand.tmp 13),type:=24,pos := "rq.go:65",after:=#[{ on:=2,ground:=Ground.gcOnly Departure.lateStores }],guard:=none }) (v:=(Value.agg #[.int .i64 (c:Int),.int .i64 (c:Int),.slice o4 n5 c4])) rfl (by kernel_rfl) (by kernel_rfl) (by kernel_rfl) (fun _ _ _ h=>h) (Or.inl ⟨by rfl,?_⟩) (by assumption) ?_
 ·(intro w hSw;(try dsimp only at hSw);go_simp)
 simp only [Act.put,List.setIfInBounds_toArray,List.set_cons_zero,List.set_cons_succ]
 refine wpAnyH_ready (rs:=[2]) (by kernel_rfl) (by simp) ?_
 refine AllReadyH.cons (o:={ dst:=none,op:=Op.store 24 (Operand.tmp 2) (Operand.tmp 55),type:=0,pos := "rq.go:65",after:=#[{ on:=0,ground:=Ground.data },{ on:=0,ground:=Ground.phase },{ on:=1,ground:=Ground.textOnly Departure.lateStores }],guard:=none }) rfl (fun KK hK=>?_) AllReadyH.nil
 go_simp
 refine hK.out _ _ ?_ (fun hHeld=>?_)
 ·exact uH HS2
 clear hK KK
 refine wpAnyH_ready (rs:=[3]) (by kernel_rfl) (by simp) ?_
 refine AllReadyH.cons (o:={ dst:=none,op:=Op.store 24 (Operand.tmp 3) (Operand.tmp 56),type:=0,pos := "rq.go:65",after:=#[{ on:=1,ground:=Ground.data },{ on:=2,ground:=Ground.chain },{ on:=0,ground:=Ground.phase },{ on:=1,ground:=Ground.phase },{ on:=2,ground:=Ground.phase }],guard:=none }) rfl (fun KK hK=>?_) AllReadyH.nil
 go_simp
 refine hK.out _ _ ?_ (fun hHeld=>?_)
 ·exact uH HS3
 clear hK KK
 refine wpAnyH_ready (rs:=[4]) (by kernel_rfl) (by simp) ?_
 refine AllReadyH.cons (o:={ dst:=some 4,op:=Op.assign (Operand.const (Value.int IntKind.i64 0)),type:=26,pos := "rq.go:65",after:=#[{ on:=3,ground:=Ground.chain },{ on:=0,ground:=Ground.phase },{ on:=1,ground:=Ground.phase },{ on:=2,ground:=Ground.phase },{ on:=3,ground:=Ground.phase }],guard:=none }) rfl (fun KK hK=>?_) AllReadyH.nil
 go_simp
 refine hK.out _ _ ?_ (fun hHeld=>?_)
 ·exact uH HS3
 clear hK KK
 refine wpAnyH_done (by kernel_rfl) ?_ _
 clear HS0 HS2 HS3 HP2
 go_wp2_with fail
 refine bodyPost_ret (v:=.tuple #[.agg #[.int .i64 r,.int .i64 c,.slice o3 n4 c3],.agg #[.int .i64 c,.int .i64 c,.slice o4 n5 c4],.int .i64 0]) (by simp [results,Tryz.results13,go_sem,z0,z1,z2,z3,z4,z5]) rfl ⟨_,_,rfl,⟨o3,c3,by rw [uH L4],uH HN3,(uH PQ).below (Below.refl _ _).drew⟩,⟨o4,c4,by rw [uH L5],uH HN4,(uH PR).below (Below.refl _ _).drew⟩,(uH BP).drew⟩
end Go.Proofs.YtenpggicmfhhdaaGreatDoor
namespace Go.Proofs.YtenpggicmfhhdaaGreatDoor
theorem tu_fin (r c:Nat) (S:List Nat) (hl:S.length = r * c) (h:finL S = true):finL (tuM r c S) = true:=by
 rw [finL_all] at h ⊢
 intro x hx
 rw [tu_len] at hx
 obtain ⟨h1,h2,h3⟩:=place_in hx
 have e:(tuM r c S).getD x 0 = elM r (tuM r c S) (x / r) (x % r):=by unfold elM;rw [h3]
 rw [e,el_tu15 r c S h1 h2]
 unfold elM
 exact h _ (by rw [hl];exact place_lt h2 h1)
theorem tu_back (r c:Nat) (S:List Nat) (hl:S.length = r * c):tuM c r (tuM r c S) = S:=tu_tu r c S hl
theorem tu_fin_iff (r c:Nat) (S:List Nat) (hl:S.length = r * c):finL (tuM r c S) = finL S:=by
 cases h:finL S
 ·cases h2:finL (tuM r c S)
  ·rfl
  ·have:=tu_fin c r (tuM r c S) (tu_len _ _ _) h2
   rw [tu_back r c S hl,h] at this
   cases this
 ·exact tu_fin r c S hl h
theorem dn_fin (r c:Nat) (S:List Nat) (hl:S.length = r * c) (h:finL S = true):finL (dnM r c S) = true:=by
 rw [finL_all] at h ⊢
 intro x hx
 rw [dn_len] at hx
 obtain ⟨h1,h2,h3⟩:=place_in hx
 have e:(dnM r c S).getD x 0 = elM c (dnM r c S) (x / c) (x % c):=by unfold elM;rw [h3]
 rw [e,el_dn r c S h1 h2]
 unfold elM
 have hlt:r - 1 - x / c < r:=by
  clear e h3 hx h2
  generalize x / c = a at *
  omega
 exact h _ (by rw [hl];exact place_lt hlt h2)
theorem dn_dn (r c:Nat) (S:List Nat) (hl:S.length = r * c):dnM r c (dnM r c S) = S:=by
 conv=>rhs;rw [← mkM_of r c S hl]
 unfold dnM
 refine mkM_congr (fun p q hp hq=>?_)
 rw [el_mk r c _ (by omega) hq,show r - 1 - (r - 1 - p) = p by omega]
 rfl
theorem dn_fin_iff (r c:Nat) (S:List Nat) (hl:S.length = r * c):finL (dnM r c S) = finL S:=by
 cases h:finL S
 ·cases h2:finL (dnM r c S)
  ·rfl
  ·have:=dn_fin r c (dnM r c S) (dn_len _ _ _) h2
   rw [dn_dn r c S hl,h] at this
   cases this
 ·exact dn_fin r c S hl h
end Go.Proofs.YtenpggicmfhhdaaGreatDoor
namespace Go.Proofs.YtenpggicmfhhdaaGreatDoor
open Go.RowKit
attribute [local go_sem ↓] Go.wp_at_zero Go.wp_at_succ
theorem awake15_of (w:World)
  (C1:∀ w' ao,Below w.heap.size w w'→BitsAt w' ao 2 [((4613937818241073152:Nat):Int),((4616189618054758400:Nat):Int)]→Calls Tryz.prog 13 #[.agg #[.int .i64 1,.int .i64 2,.slice ao 2 2]] w' fun e w''=>∃ (a1 a2:Int) (qo:Option Addr) (nq qc:Nat) (ro:Option Addr) (rc:Nat),e = .returned (.tuple #[.agg #[.int .i64 1,.int .i64 2,.slice ro 2 rc],.agg #[.int .i64 a1,.int .i64 a2,.slice qo nq qc],.int .i64 0])∧BitsAt w'' ro rc (mxL [0,13840687554816376832])∧Below w'.heap.size w' w'') :
  Calls Tryz.prog 10 #[] w fun e w'=>e = .returned (.bool true)∧Below w.heap.size w w':=by
 have K1:=hide C1
 have TB:=hide (two_bits w 4613937818241073152 4616189618054758400 (by decide) (by decide))
 have BB:=hide (below_alloc9 w (.cells #[.int .u64 ((4613937818241073152:Nat):Int),.int .u64 ((4616189618054758400:Nat):Int)] 30))
 clear C1
 go_enter Tryz.func10,Tryz.ntmps10
 go_wp2_with fail
 refine (uH K1 _ _ (uH BB) (uH TB)).mono ?_
 rintro e w1 ⟨a1,a2,qo,nq,qc,ro,rc,rfl,bv,hb⟩
 obtain ⟨b,off,rfl,_,hc⟩:=bv.ne (by decide)
 have c0:w1.cell? ⟨b,off+0,none⟩ = some (.int .u64 0):=hc 0 (by decide)
 have c1:w1.cell? ⟨b,off+1,none⟩ = some (.int .u64 13840687554816376832):=hc 1 (by decide)
 rw [Nat.add_zero] at c0
 replace BB:=hide ((uH BB).trans (hb.mono (uH BB).size))
 clear hb K1 TB bv hc
 have ba:=below_alloc9 w1 (.cells #[.int .i64 1,.int .i64 2,.slice (some ⟨b,off,none⟩) 2 rc] 24)
 have bb:=below_alloc9 (w1.alloc (.cells #[.int .i64 1,.int .i64 2,.slice (some ⟨b,off,none⟩) 2 rc] 24)) (.cells #[.int .i64 a1,.int .i64 a2,.slice qo nq qc] 24)
 have BC:=hide ((uH BB).trans ((ba.trans (bb.mono ba.size)).mono (uH BB).size))
 clear ba bb BB
 go_wp2
 go_ret
 exact ⟨rfl,uH BC⟩
theorem rq345:rqR 1 2 [4613937818241073152,4616189618054758400] = [0,13840687554816376832]∧rqK 1 2 [4613937818241073152,4616189618054758400] = true:=by
 have e1:dnM 1 2 [4613937818241073152,4616189618054758400] = [4613937818241073152,4616189618054758400]:=rfl
 have e2:tuM 1 2 [4613937818241073152,4616189618054758400] = [4613937818241073152,4616189618054758400]:=rfl
 constructor
 ·unfold rqR lqL
  rw [e1,e2,r345]
  rfl
 ·unfold rqK lqK
  rw [e1,e2]
  exact k345
theorem fin345:finL [4613937818241073152,4616189618054758400] = true:=by
 show ((true && fFin 4613937818241073152) && fFin 4616189618054758400) = true
 rw [w13_facts.2.1,w13_facts.2.2.2.2.2.2.2.2.2.2.2.2]
 rfl
theorem rq_awake (w:World)
  (CY:∀ w' ao cap (r c:Nat) S,Below w.heap.size w w'→Mx w' ao cap r c S→r≤c→finL S = true→rqK r c S = true→Calls Tryz.prog 13 #[.agg #[.int .i64 r,.int .i64 c,.slice ao S.length cap]] w' fun e w''=>∃ v u,e = .returned (.tuple #[v,u,.int .i64 0])∧NewM 0 w'' r c (rqR r c S) v∧NewM 0 w'' c c (rqQ r c S) u∧Below w'.heap.size w' w'') :
  ∀ w',Below w.heap.size w w'→Calls Tryz.prog 10 #[] w' fun e w''=>e = .returned (.bool true)∧Below w'.heap.size w' w'':=by
 intro w' hb
 refine awake15_of w' (fun w2 ao hb2 hI=>?_)
 have hM:Mx w2 ao 2 1 2 [4613937818241073152,4616189618054758400]:=⟨hI,rfl,by decide,by decide⟩
 refine (CY w2 ao 2 1 2 _ (hb.trans (hb2.mono hb.size)) hM (by decide) fin345 rq345.2).mono ?_
 rintro e w3 ⟨v,u,rfl,⟨ro,rc,rfl,_,hr⟩,⟨qo,qc,rfl,_,_⟩,hb3⟩
 rw [rq345.1] at hr ⊢
 exact ⟨_,_,qo,_,qc,ro,rc,rfl,hr,hb3⟩
end Go.Proofs.YtenpggicmfhhdaaGreatDoor
namespace Go.Proofs.YtenpggicmfhhdaaGreatDoor
open Go.RowKit
attribute [local go_sem ↓] Go.wp_at_zero Go.wp_at_succ
structure FpSt (w wr:World) (H go ga:Nat) (r c:Int) (ao:Option Addr) (n cap:Nat) (po:Option Addr) (pc p1 p2:Nat) (so:Option Addr) (sd:Nat) (S:List Nat):Prop where
 bel:Below w.heap.size w wr
 m:BoxM wr w.heap.size (.int .i64 r) (.int .i64 c) (.slice ao n cap)
 own:BoxM wr go (.int .i64 r) (.int .i64 c) (.slice po n pc)
 copy:CopyB (w.heap.size+1) H wr po n
 s:AnsAt wr H ga p1 p2 so sd S
theorem FpSt.all {w wr:World} {H go ga:Nat} {r c:Int} {ao:Option Addr} {n cap:Nat} {po:Option Addr} {pc p1 p2:Nat} {so:Option Addr} {sd:Nat} {S:List Nat} {w':World} (h:FpSt w wr H go ga r c ao n cap po pc p1 p2 so sd S) (hb:Below wr.heap.size wr w'):FpSt w w' H go ga r c ao n cap po pc p1 p2 so sd S :=
 ⟨h.bel.trans (hb.mono h.bel.size),h.m.all hb,h.own.all hb,h.copy.below hb,h.s.all hb⟩
theorem FpSt.put {w wr:World} {H go ga:Nat} {r c:Int} {ao:Option Addr} {n cap:Nat} {po:Option Addr} {pc p1 p2:Nat} {so:Option Addr} {sd:Nat} {S:List Nat} (h:FpSt w wr H go ga r c ao n cap po pc p1 p2 so sd S) {j:Nat} (hj:j < n):∃ g z0,po = some ⟨g,0,none⟩∧wr.cell? ⟨g,j,none⟩ = some (.int .u64 z0)∧wr.frozen? ⟨g,j,none⟩ = false∧∀ z,FpSt w (wr.setCell ⟨g,j,none⟩ (.int .u64 z)) H go ga r c ao n cap po pc p1 p2 so sd S:=by
 obtain ⟨g,e1,e2,e3,e4⟩:=h.copy.resolve_left (by omega)
 obtain ⟨z0,cz⟩:=e4.cell hj
 exact ⟨g,z0,e1,cz,e4.free j,fun z=>⟨h.bel.setCell (p:=⟨g,j,none⟩) (by show w.heap.size≤g;omega) _,h.m.other (p:=⟨g,j,none⟩) (h.m.away cz) _,h.own.other (p:=⟨g,j,none⟩) (h.own.away cz) _,h.copy.set g j z,h.s.put cz e3 z⟩⟩
theorem rqFlips_of (r c:Int) (ao:Option Addr) (cap:Nat) (I:List Int) (rows cols:Bool) (p1 p2:Nat) (S:List Nat) (f:Int) (ok:Bool) (w:World) (hI:BitsAt w ao cap I) (hl:I.length≤17592186043904)
  (way:(ok = false∧f = 1∧p1 = 0∧p2 = 0∧S = []) ∨ (ok = true∧f = 0)) (hS:S.length≤36)
  (C2:∀ w' po pc,Below w.heap.size w w'→BitsAt w' po pc I→Calls Tryz.prog 7 #[.agg #[.int .i64 r,.int .i64 c,.slice po I.length pc],.bool rows,.bool cols] w' fun e w''=>∃ v,e = .returned (.tuple #[v,.int .i64 f])∧NewM w'.heap.size w'' p1 p2 S v∧Below w'.heap.size w' w'')
  (C5:okB r c I.length = ok)
  (C7:ok = true→∀ w',Below w.heap.size w w'→Calls Tryz.prog 11 #[.agg #[.int .i64 r,.int .i64 c,.slice ao I.length cap],.bool rows,.bool cols] w' fun e w''=>∃ v,e = .returned v∧NewM 0 w'' p1 p2 S v∧Below w'.heap.size w' w'')
  (CA:∀ w',Below w.heap.size w w'→Calls Tryz.prog 10 #[] w' fun e w''=>e = .returned (.bool true)∧Below w'.heap.size w' w'') :
  Calls Tryz.prog 3 #[.agg #[.int .i64 r,.int .i64 c,.slice ao I.length cap],.bool rows,.bool cols] w fun e w'=>e = .returned (.bool true)∧Below w.heap.size w w':=by
 have WAY:=hide way;have HSl:=hide hS
 have K2:=hide C2;have K7:=hide C7;have KA:=hide CA
 have K5:=hide (fun w'=>rright_any r c ao I.length cap w')
 rw [C5] at K5
 have KZ:=hide (fun w' ao cap=>rsame_any 0 0 ao none cap 0 [] w' (BitsAt.nilAt w' _ _) (BitsAt.nilAt w' _ _) (by simp))
 simp only [List.length_nil] at KZ
 have KS:=hide (fun w' ao bo cap d (h:BitsAt w' ao cap (mxL S)) (h2:BitsAt w' bo d (mxL S))=>rsame_any p1 p2 ao bo cap d S w' h h2 (by omega))
 have b0:=below_alloc9 w (.cells #[.int .i64 r,.int .i64 c,.slice ao I.length cap] 24)
 have s0:=size_alloc9 w (.cells #[.int .i64 r,.int .i64 c,.slice ao I.length cap] 24)
 have x0:=BoxM.new w (.int .i64 r) (.int .i64 c) (.slice ao I.length cap)
 have HX0:=hide x0;have HBB:=hide b0;have HZ2:=hide s0
 have K1:=hide (rcopy_any r c ao cap I _ (hI.below b0) hl)
 have SAME:=hide (fun base w' po pc (o:OwnB base w' (.slice po I.length pc) (natL I))=>o.same hI)
 have hl2:=hide (show I.length≤35184372088830 by omega)
 clear b0 s0 x0 hI hl way hS C2 C5 C7 CA
 go_enter Tryz.func3,Tryz.ntmps3
 go_wp2_with fail
 refine Calls.mono (uH K1) ?_
 rintro e w1 ⟨po,pc,rfl,own1,hb1⟩
 have bel1:=(uH HBB).trans (hb1.mono (uH HBB).size)
 have ba:=below_alloc9 w1 (.cells #[.int .i64 r,.int .i64 c,.slice po I.length pc] 24)
 have Q1:=hide ((uH SAME _ _ _ _ own1).below ba)
 have CP:=hide (((own1.copy.base (Nat.le_refl _)).base (show w.heap.size+1≤_ by rw [uH HZ2];exact Nat.le_refl _)).below ba)
 have BX:=hide (BoxM.new w1 (.int .i64 r) (.int .i64 c) (.slice po I.length pc))
 have A0:=hide (((uH HX0).all hb1).all ba)
 have B1:=hide (bel1.trans (ba.mono bel1.size))
 clear own1 hb1 bel1 ba K1 HX0 HBB SAME HZ2
 have y0:=(uH BX).c0;have y1:=(uH BX).c1;have y2:=(uH BX).c2
 go_wp2_with fail
 refine (uH K2 _ _ _ (uH B1) (uH Q1)).mono ?_
 rintro e w2 ⟨v,rfl,⟨so,sd,rfl,ns,qs⟩,hb2⟩
 have zz:=hide (size_alloc9 w1 (.cells #[.int .i64 r,.int .i64 c,.slice po I.length pc] 24))
 have ba:=below_alloc9 w2 (.cells #[.int .i64 p1,.int .i64 p2,.slice so S.length sd] 24)
 have bel2:=(uH B1).trans (hb2.mono (uH B1).size)
 have ST:=hide (show FpSt w (w2.alloc (.cells #[.int .i64 p1,.int .i64 p2,.slice so S.length sd] 24)) w1.heap.size w1.heap.size w2.heap.size r c ao I.length cap po pc p1 p2 so sd S from
  ⟨bel2.trans (ba.mono bel2.size),((uH A0).all hb2).all ba,((uH BX).all hb2).all ba,((uH CP).below hb2).below ba,⟨BoxM.new w2 _ _ _,qs.below ba,NewB.least ns (by rw [uH zz];omega)⟩⟩)
 clear y0 y1 y2 ns qs hb2 ba bel2 zz B1 A0 BX CP Q1 K2
 have y0:=(uH ST).own.c0;have y1:=(uH ST).own.c1;have y2:=(uH ST).own.c2
 generalize hnS:S.length = nS at *
 go_wp2_with fail
 clear y0 y1 y2
 generalize hg3:w2.heap.size = g3 at *
 generalize hn:I.length = n at *
 go_loopw [10] (fun a wr=>∃ j:Nat,j≤n∧a = .int .i64 j∧Hid (FpSt w wr w1.heap.size w1.heap.size g3 r c ao n cap po pc p1 p2 so sd S)) (fun a _=>n - (intOf a).toNat)
 case atStart=>exact ⟨0,Nat.zero_le _,rfl,ST⟩
 case round =>
  clear ST
  obtain ⟨j,hj,rfl,hX⟩:=hrel
  have t2:=(uH hX).own.c2
  by_cases hlt:j < n
  ·have hkI:(j:Int) < (n:Int):=by omega
   have hn2:=uH hl2
   obtain ⟨g,z0,rfl,cz,fz,put⟩:=(uH hX).put hlt
   have PUT:=hide (fun z=>put z)
   clear put hX
   go_wp2_with fail
   go_region_with fail
   all_goals
    go_wp2_with fail
    go_round
    case rel=>exact ⟨j+1,by omega,by go_num,hide ((uH PUT _).all (Below.refl _ _).drew)⟩
    case measure=>simp [intOf];omega
  ·have hkk:n = j:=by omega
   subst hkk
   have a0:=(uH hX).m.c0;have a1:=(uH hX).m.c1;have a2:=(uH hX).m.c2
   have ST:=hX
   clear hX
   go_wp2_with fail
   refine (uH K5 _).mono ?_
   rintro e w5 ⟨rfl,hb⟩
   clear a0 a1 a2 t2
   replace ST:=hide ((uH ST).all hb)
   clear hb K5
   rcases uH WAY with ⟨rfl,rfl,rfl,rfl,rfl⟩ | ⟨rfl,rfl⟩
   ·obtain rfl:nS = 0:=hnS.symm
    have s0':=(uH ST).s.box.c0;have s1':=(uH ST).s.box.c1;have s2':=(uH ST).s.box.c2
    simp only [List.length_nil] at s2'
    clear WAY K7 KS
    go_wp2_with fail
    refine (uH KZ _ _ _).mono ?_
    rintro e w8 ⟨rfl,hb⟩
    have BE:=hide ((uH ST).bel.trans (hb.mono (uH ST).bel.size))
    clear s0' s1' s2' hb ST KZ
    go_wp2_with fail
    refine (uH KA _ (uH BE)).mono ?_
    rintro e w19 ⟨rfl,hb⟩
    replace BE:=hide ((uH BE).trans (hb.mono (uH BE).size))
    clear hb
    go_wp2
    go_ret
    exact ⟨rfl,uH BE⟩
   ·have G7:=hide (uH K7 (by first | rfl | trivial))
    clear WAY K7 KZ
    go_wp2_with fail
    refine at_world (fun W=>FpSt w W w1.heap.size w1.heap.size g3 r c ao n cap po pc p1 p2 so sd S) (uH ST) ?_
    clear ST
    intro W st
    have ST:=hide st
    have HK:=hide (fun w' (h:Below W.heap.size W w')=>(show Below W.heap.size W w'∧(w'.cell? ⟨w.heap.size,0,none⟩ = some (.int .i64 r)∧w'.cell? ⟨w.heap.size,1,none⟩ = some (.int .i64 c)∧w'.cell? ⟨w.heap.size,2,none⟩ = some (.slice ao n cap))∧(w'.cell? ⟨g3,0,none⟩ = some (.int .i64 p1)∧w'.cell? ⟨g3,1,none⟩ = some (.int .i64 p2)∧w'.cell? ⟨g3,2,none⟩ = some (.slice so nS sd)) from
     have y:=st.all h;⟨h,⟨y.m.c0,y.m.c1,y.m.c2⟩,⟨y.s.box.c0,y.s.box.c1,by rw [← hnS];exact y.s.box.c2⟩⟩))
    have HW:=hide (fun w' (h:Below W.heap.size W w')=>st.bel.trans (h.mono st.bel.size))
    clear st
    go_region_held3 (fun w'=>Below W.heap.size W w'∧(w'.cell? ⟨w.heap.size,0,none⟩ = some (.int .i64 r)∧w'.cell? ⟨w.heap.size,1,none⟩ = some (.int .i64 c)∧w'.cell? ⟨w.heap.size,2,none⟩ = some (.slice ao n cap))∧(w'.cell? ⟨g3,0,none⟩ = some (.int .i64 p1)∧w'.cell? ⟨g3,1,none⟩ = some (.int .i64 p2)∧w'.cell? ⟨g3,2,none⟩ = some (.slice so nS sd)))
     (first | exact uH HK _ (Below.refl _ _).drew | exact uH HK _ (by assumption) | fail "KK")
     (first | (go_at_call 11;refine (uH G7 _ (uH HW _ (And.left (by assumption)))).mono ?_;rintro e w5 ⟨v,rfl,⟨uo,uc,rfl,_,qu⟩,hb5⟩;have hB5:Below W.heap.size W w5:=Below.trans (And.left (by assumption)) (hb5.mono (Below.size (And.left (by assumption))));have QU:=hide qu;rw [hnS];clear qu hb5 G7) | (go_at_call 9;refine (uH KS _ _ _ _ _ (by exact ((uH ST).s.bits).below (And.left (by assumption))) (by exact uH QU)).mono ?_;rintro e w6 ⟨rfl,hb6⟩;have hB6:Below W.heap.size W w6:=Below.trans (And.left (by assumption)) (hb6.mono (Below.size (And.left (by assumption))));clear hb6 KS) | (go_at_call 10;refine (uH KA _ (uH HW _ (And.left (by assumption)))).mono ?_;rintro e w7 ⟨rfl,hb7⟩;have hB7:Below W.heap.size W w7:=Below.trans (And.left (by assumption)) (hb7.mono (Below.size (And.left (by assumption))));clear hb7 KA) | fail "ARM")
    all_goals
     have BE:=hide (uH HW _ (And.left (by assumption)))
     go_wp2
     go_ret
     exact ⟨rfl,uH BE⟩
theorem rqFlips_by (r c:Int) (ao:Option Addr) (cap:Nat) (I:List Int) (rows cols:Bool) (w:World) (hI:BitsAt w ao cap I) (hl:I.length≤17592186043904)
  (CF:∀ w' po pc,Below w.heap.size w w'→BitsAt w' po pc I→okB r c I.length = false→Calls Tryz.prog 7 #[.agg #[.int .i64 r,.int .i64 c,.slice po I.length pc],.bool rows,.bool cols] w' fun e w''=>∃ v,e = .returned (.tuple #[v,.int .i64 1])∧NewM w'.heap.size w'' 0 0 [] v∧Below w'.heap.size w' w'')
  (CP:∀ w' ao cap (r c:Nat) S,Below w.heap.size w w'→Mx w' ao cap r c S→Calls Tryz.prog 7 #[.agg #[.int .i64 r,.int .i64 c,.slice ao S.length cap],.bool rows,.bool cols] w' fun e w''=>∃ v,e = .returned (.tuple #[v,.int .i64 0])∧NewM w'.heap.size w'' r c (flM r c rows cols S) v∧Below w'.heap.size w' w'')
  (CA:∀ w',Below w.heap.size w w'→Calls Tryz.prog 10 #[] w' fun e w''=>e = .returned (.bool true)∧Below w'.heap.size w' w'') :
  Calls Tryz.prog 3 #[.agg #[.int .i64 r,.int .i64 c,.slice ao I.length cap],.bool rows,.bool cols] w fun e w'=>e = .returned (.bool true)∧Below w.heap.size w w':=by
 cases h:okB r c I.length
 ·exact rqFlips_of r c ao cap I rows cols 0 0 [] 1 false w hI hl (.inl ⟨rfl,rfl,rfl,rfl,rfl⟩) (by simp) (fun w' po pc hb hx=>CF w' po pc hb hx h) h (fun e=>by cases e) CA
 ·obtain ⟨p,q,rfl,rfl,hM,hS⟩:=Mx.of hI h
  have e1:=natL_len I
  have l1:=fl_len p q rows cols (natL I) hM.2.1
  refine rqFlips_of p q ao cap I rows cols p q (flM p q rows cols (natL I)) 0 true w hI hl (.inr ⟨rfl,rfl⟩) (by rw [l1];exact Nat.mul_le_mul hM.2.2.1 hM.2.2.2) (fun w' po pc hb hx=>?_) h (fun _ w' hb=>?_) CA
  ·have:=CP w' po pc p q (natL I) hb (Mx.from hx h)
   rw [e1] at this
   exact this
  ·have:=rflip_any p q cap rows cols ao (natL I) w' (hM.below hb)
   rw [e1] at this
   exact this
end Go.Proofs.YtenpggicmfhhdaaGreatDoor
namespace Go.Proofs.YtenpggicmfhhdaaGreatDoor
open Go.RowKit
theorem two_any {f:Nat} {a:Array Value} {w:World} {er:Int} {r c p q:Nat} {S T:List Nat}
  (h:Calls Tryz.prog f a w fun e w'=>∃ v u,e = .returned (.tuple #[v,u,.int .i64 er])∧NewM w.heap.size w' r c S v∧NewM w.heap.size w' p q T u∧Below w.heap.size w w') :
  Calls Tryz.prog f a w fun e w'=>∃ v u,e = .returned (.tuple #[v,u,.int .i64 er])∧NewM 0 w' r c S v∧NewM 0 w' p q T u∧Below w.heap.size w w':=by
 refine h.mono ?_
 rintro e w' ⟨v,u,he,h1,h2,hb⟩
 exact ⟨v,u,he,h1.least (Nat.zero_le _),h2.least (Nat.zero_le _),hb⟩
theorem turned_ck (r c cap:Nat) (ao:Option Addr) (S:List Nat) (w:World) (h:Mx w ao cap c r (tuM r c S)) (hl:S.length = r * c) (hf:finL S = false):ckE (c:Int) (r:Int) (mxL (tuM r c S)) = 4:=by
 have hf2:fnK (mxL (tuM r c S)) (tuM r c S).length = false:=by have:=tu_fin_iff r c S hl;rw [hf] at this;exact this
 unfold ckE
 rw [mxL_len,mx_ok h,hf2]
 rfl
theorem lq_inf (r c cap:Nat) (ao:Option Addr) (S:List Nat) (w:World) (h:Mx w ao cap r c S) (hf:finL S = false) :
  Calls Tryz.prog 12 #[.agg #[.int .i64 r,.int .i64 c,.slice ao S.length cap]] w fun e w'=>∃ v u,e = .returned (.tuple #[v,u,.int .i64 4])∧NewM w.heap.size w' 0 0 [] v∧NewM w.heap.size w' 0 0 [] u∧Below w.heap.size w w':=by
 refine lq_err r c S.length cap (tuM r c S).length ao (tuM r c S) 4 w (.inl rfl) rfl (fun w' hb=>mTurn_ok r c cap ao S w' (h.below hb)) (fun w' po pc hb hx=>?_)
 have hM:Mx w' po pc c r (tuM r c S):=⟨hx,tu_len _ _ _,h.2.2.2,h.2.2.1⟩
 have hck:=turned_ck r c pc po S w' hM h.2.1 hf
 have:=qFactor_err (c:Int) (r:Int) po pc (mxL (tuM r c S)) w' hx (by have:=hM.small;rw [mxL_len];omega) (by rw [hck];decide)
 rw [mxL_len,hck] at this
 exact this
theorem lq_le (r c:Int) (ao:Option Addr) (cap:Nat) (I:List Int) (w:World) (hI:BitsAt w ao cap I) (hl:I.length≤17592186043904) (h:ckE r c I ≠ 0) :
  Calls Tryz.prog 12 #[.agg #[.int .i64 r,.int .i64 c,.slice ao I.length cap]] w fun e w'=>∃ v u,e = .returned (.tuple #[v,u,.int .i64 (ckE r c I)])∧NewM w.heap.size w' 0 0 [] v∧NewM w.heap.size w' 0 0 [] u∧Below w.heap.size w w':=by
 cases ho:okB r c I.length
 ·have hg:ckE r c I = 1:=by unfold ckE;rw [ho];rfl
  rw [hg]
  exact lq_form r c ao I.length cap w (fun w' hb=>mturn_no r c ao I.length cap w' (by omega) ho)
 ·cases hf:fnK I I.length
  ·obtain ⟨p,q,rfl,rfl,hM,hS⟩:=Mx.of hI ho
   have hg:ckE (p:Int) (q:Int) I = 4:=by unfold ckE;rw [ho,hf];rfl
   have hfin:finL (natL I) = false:=by
    unfold finL
    rw [mxL_natL hI,natL_len]
    exact hf
   rw [hg]
   have:=lq_inf p q cap ao (natL I) w hM hfin
   rw [natL_len] at this
   exact this
  ·exact absurd (by unfold ckE;rw [ho,hf];rfl) h
theorem lq_yes (r c cap:Nat) (ao:Option Addr) (S:List Nat) (w:World) (h:Mx w ao cap r c S) (hf:finL S = true) (hk:lqK r c S = true) (hT:Tab w) :
  Calls Tryz.prog 12 #[.agg #[.int .i64 r,.int .i64 c,.slice ao S.length cap]] w fun e w'=>∃ v u,e = .returned (.tuple #[v,u,.int .i64 0])∧NewM w.heap.size w' r c (lqL r c S) v∧NewM w.heap.size w' c c (lqQ r c S) u∧Below w.heap.size w w' :=
 lq_of r c S.length cap _ _ _ _ _ ao (tuM r c S) (facQ c r (tuM r c S)) (facR c r (tuM r c S)) (lqL r c S) (lqQ r c S) w rfl rfl rfl rfl rfl (fun w' hb=>mTurn_ok r c cap ao S w' (h.below hb))
  (fun w' po pc hb hx=>qFactor_yes c r pc po (tuM r c S) w' ⟨hx,tu_len _ _ _,h.2.2.2,h.2.2.1⟩ ((tu_fin_iff r c S h.2.1).trans hf) hk (hT.all hb))
  (fun w' po pc hx=>mTurn_ok c r pc po (facR c r (tuM r c S)) w' ⟨hx,qrR_len c r _ (tu_len _ _ _) _,h.2.2.2,h.2.2.1⟩)
  (fun w' po pc hx=>mTurn_ok c c pc po (facQ c r (tuM r c S)) w' ⟨hx,qrQ_len _ _ _ _ _,h.2.2.2,h.2.2.2⟩)
theorem mx_check (r c cap:Nat) (ao:Option Addr) (S:List Nat) (w:World) (h:Mx w ao cap r c S) :
  Calls Tryz.prog 19 #[.agg #[.int .i64 r,.int .i64 c,.slice ao S.length cap]] w fun e w'=>e = .returned (.int .i64 0)∧Below w.heap.size w w':=by
 have:=mcheck_any r c ao S.length cap w (by have:=h.small;omega)
 rw [mx_ok h,if_pos (Eq.refl true)] at this
 exact this
theorem rq_yes (r c cap:Nat) (ao:Option Addr) (S:List Nat) (w:World) (h:Mx w ao cap r c S) (hle:r≤c) (hf:finL S = true) (hk:rqK r c S = true) (hT:Tab w) :
  Calls Tryz.prog 13 #[.agg #[.int .i64 r,.int .i64 c,.slice ao S.length cap]] w fun e w'=>∃ v u,e = .returned (.tuple #[v,u,.int .i64 0])∧NewM w.heap.size w' r c (rqR r c S) v∧NewM w.heap.size w' c c (rqQ r c S) u∧Below w.heap.size w w' :=
 rq_of r c S.length cap _ _ _ _ _ ao (dnM r c S) (lqL r c (dnM r c S)) (lqQ r c (dnM r c S)) (rqR r c S) (rqQ r c S) w hle rfl rfl rfl rfl rfl (fun w' hb=>mx_check r c cap ao S w' (h.below hb)) (fun w' hb=>flip_any r c cap ao true false S w' (h.below hb))
  (fun w' po pc hb hx=>lq_yes r c pc po (dnM r c S) w' ⟨hx,dn_len _ _ _,h.2.2.1,h.2.2.2⟩ ((dn_fin_iff r c S h.2.1).trans hf) hk (hT.all hb))
  (fun w' po pc hx=>flip_any r c pc po true true (lqL r c (dnM r c S)) w' ⟨hx,lqL_len _ _ _,h.2.2.1,h.2.2.2⟩)
  (fun w' po pc hx=>flip_any c c pc po true false (lqQ r c (dnM r c S)) w' ⟨hx,tu_len _ _ _,h.2.2.2,h.2.2.2⟩)
theorem rqFlips_walk (r c:Int) (ao:Option Addr) (cap:Nat) (I:List Int) (rows cols:Bool) (w:World) (hI:BitsAt w ao cap I) (hl:I.length≤17592186043904) (_hr:-9223372036854775808≤r∧r≤9223372036854775807) (_hc:-9223372036854775808≤c∧c≤9223372036854775807) (hT:Tab w) :
  Calls Tryz.prog 3 #[.agg #[.int .i64 r,.int .i64 c,.slice ao I.length cap],.bool rows,.bool cols] w fun e w'=>e = .returned (.bool true)∧Below w.heap.size w w' :=
 rqFlips_by r c ao cap I rows cols w hI hl (fun w' po pc _ _ h=>flip_no r c po I.length pc rows cols w' (by omega) h) (fun w' ao cap r c S _ h=>flip_any r c cap ao rows cols S w' h) (rq_awake w (fun w' ao cap r c S hb h hle hf hk=>two_any (rq_yes r c cap ao S w' h hle hf hk (hT.all hb))))
end Go.Proofs.YtenpggicmfhhdaaGreatDoor
