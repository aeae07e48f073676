/- Part 5 of the texts. -/
import Derived.Test.YtcbcmlaogehimaaGreatDoorPartc04
import Derived.Test.YtcbcmlaogehimaaGreatDoorPartc03
import Derived.Lib.BitFns
set_option maxHeartbeats 4000000
namespace Go.Proofs.YtcbcmlaogehimaaGreatDoor
open Go.RowKit
attribute [local go_sem ↓] Go.wp_at_zero Go.wp_at_succ
theorem cmpL_canon (A B:List Nat) (fA:Fits A) (fB:Fits B) (cA:Canon A) (cB:Canon B):cmpL A B = cmpI (val A) (val B):=by
 unfold cmpL
 split
 ·rfl
 ·rename_i hl
  rcases Nat.lt_or_gt_of_ne hl with h | h
  ·have:val A < val B:=by
    have:=length_le_of_val B A fA cB
    by_cases hv:val B≤val A
    ·have:=this hv;omega
    ·omega
   rw [cmpI_lt (by omega),cmpI_lt (by omega)]
  ·have:val B < val A:=by
    have:=length_le_of_val A B fB cA
    by_cases hv:val A≤val B
    ·have:=this hv;omega
    ·omega
   rw [cmpI_gt (by omega),cmpI_gt (by omega)]
theorem addSigned_diff (na nb:Bool) (ao bo:Option Addr) (ca cb:Nat) (A B:List Nat) (w:World) (hA:LimbsAt w ao ca A) (hB:LimbsAt w bo cb B) (la:A.length≤35184372088830) (lb:B.length≤35184372088830) (cA:Canon A) (cB:Canon B) (hn:na ≠ nb) :
  Calls Tryz.prog 300 #[.agg #[.bool na,.slice ao A.length ca],.agg #[.bool nb,.slice bo B.length cb]] w fun e w'=>∃ v,e = .returned (.tuple #[v,.int .i64 (errOf (sval na A+sval nb B))])∧IsNum w.heap.size w' v (numOf (sval na A+sval nb B))∧Below w.heap.size w w':=by
 have hsum:(∀ L:List Nat,val L = val B - val A→val A < val B→sval nb L = sval na A+sval nb B)∧(∀ L:List Nat,val L = val A - val B→val B≤val A→sval na L = sval na A+sval nb B):=by
  constructor <;> intro L h h' <;> unfold sval <;> cases na <;> cases nb <;> simp at hn <;> simp [h] <;> omega
 have hcm:=cmpL_canon A B hA.2.1 hB.2.1 cA cB
 have HS:=hide hsum
 clear hsum
 generalize sval na A+sval nb B = z at *
 have hne:(na == nb) = false:=by simpa using hn
 have HC:=hide hcm
 clear hcm hn
 go_enter Tryz.func300,Tryz.ntmps300
 go_wp2_with fail
 refine (compareLimbs_any ao bo ca cb A B _ (hA.below ?_) (hB.below ?_) (by omega) (by omega)).mono ?_
 ·exact (((Below.refl _ _).alloc (Nat.le_refl _) _).alloc (by simp) _).alloc (by simp;omega) _
 ·exact (((Below.refl _ _).alloc (Nat.le_refl _) _).alloc (by simp) _).alloc (by simp;omega) _
 rintro e w' ⟨rfl,m,rfl⟩
 rw [uH HC]
 by_cases hv:val A < val B
 ·rw [cmpI_lt (by omega)]
  clear HC
  have HS1:=hide (fun L h=>(uH HS).1 L h hv)
  clear HS
  go_wp2
  refine at_world (fun W=>Below w.heap.size w W∧W.heap.size = w.heap.size+3∧Box2 W w.heap.size (.bool na) (.slice ao A.length ca)∧Box2 W (w.heap.size+1) (.bool nb) (.slice bo B.length cb)∧Box2 W (w.heap.size+2) (.bool false) (.slice none 0 0)) ?_ ?_
  ·refine ⟨below_drewN ((((Below.refl _ _).alloc (Nat.le_refl _) _).alloc (by simp) _).alloc (by simp;omega) _) _,by simp,(((Box2.new _ _ _).old _).old _).drewN _,?_,?_⟩
   ·have:=((Box2.new (w.alloc (.cells #[.bool na,.slice ao A.length ca] 33)) (.bool nb) (.slice bo B.length cb)).old (.cells #[.bool false,.slice none 0 0] 33)).drewN m
    simpa using this
   ·have:=(Box2.new ((w.alloc (.cells #[.bool na,.slice ao A.length ca] 33)).alloc (.cells #[.bool nb,.slice bo B.length cb] 33)) (.bool false) (.slice none 0 0)).drewN m
    simpa using this
  rintro W0 ⟨hw0,hs0,x0,x1,x2⟩
  have hK:∀ w',Below (w.heap.size+2) W0 w'→Below (w.heap.size+2) W0 w'∧w'.cell? ⟨w.heap.size+1,0,none⟩ = some (.bool nb)∧w'.cell? ⟨w.heap.size,1,none⟩ = some (.slice ao A.length ca)∧w'.cell? ⟨w.heap.size+1,1,none⟩ = some (.slice bo B.length cb):=fun w' h =>
   ⟨h,(x1.below h (by omega)).c0,(x0.below h (by omega)).c1,(x1.below h (by omega)).c1⟩
  have HK:=hide hK
  have HA:=hide (hA.below hw0)
  have HB:=hide (hB.below hw0)
  have X2:=hide x2
  have HW0:=hide hw0
  have hv':val A≤val B:=by omega
  clear hK hA hB x0 x1 x2 hw0
  go_region_held3 (fun w'=>Below (w.heap.size+2) W0 w'∧w'.cell? ⟨w.heap.size+1,0,none⟩ = some (.bool nb)∧w'.cell? ⟨w.heap.size,1,none⟩ = some (.slice ao A.length ca)∧w'.cell? ⟨w.heap.size+1,1,none⟩ = some (.slice bo B.length cb))
   (first | exact uH HK _ (Below.refl _ _).drew | exact uH HK _ (by assumption) | exact uH HK _ ((hB2.setCell (by simp) _).setCell (by simp) _))
   (first | (go_at_call 303;refine (subLimbs_any bo ao cb ca B A _ ((uH HB).below ((Below.refl _ _).drew)) ((uH HA).below ((Below.refl _ _).drew)) lb la hv').mono ?_;rintro e w1 ⟨ao',cap',L',rfl,g1,g2,g3,g4,hb1⟩;have hB1:Below (w.heap.size+2) W0 w1:=((Below.refl _ _).drew).trans (hb1.mono (by simp [hs0]));have X3:=hide ((uH X2).drew.below hb1 (by simp [hs0]));have G1:=hide g1;have G2:=hide g2;have G4:=hide g4;have L4:L'.length≤35184372088832:=(by omega);have s1:=hb1.size;clear g1 g2 g4 g3 hb1) | (go_at_call 266;refine (fit_any _ nb _ _ _ _ (uH G1) (uH G2) L4).mono ?_;rintro e w2 ⟨v,rfl,⟨n2,a2,c2,L2,rfl,i1⟩,hb2⟩;have hB2:Below (w.heap.size+2) W0 w2:=hB1.trans (hb2.mono (by simp at s1;omega));have X4:=(uH X3).below hb2 (by simp at s1;omega);have y0:=X4.c0;have y1:=X4.c1;have f0:=X4.free 0;have f1:=X4.free 1;have I1:=hide i1;clear i1 hb2 X4))
  have hz:=uH HS1 L' (uH G4)
  have HI:=hide (hz ▸ uH I1)
  have HE:=hide (show errOf (sval nb L') = errOf z by rw [hz])
  clear hz
  go_wp2
  refine bodyPost_ret (v:=.tuple #[.agg #[.bool n2,.slice a2 L2.length c2],.int .i64 (errOf (sval nb L'))]) (by simp [results,Tryz.results300,go_sem,y0,y1]) rfl ⟨.agg #[.bool n2,.slice a2 L2.length c2],?_,?_,?_⟩
  ·rw [uH HE]
  ·exact IsNum.stored (uH HI) (by simp;omega) (by simp;omega) (by simp;omega) _ _
  ·exact (((uH HW0).trans (hB2.mono (by omega))).setCell (by simp;omega) _).setCell (by simp;omega) _
 ·have hge:¬ cmpI (val A) (val B) < 0:=by unfold cmpI;rw [if_neg (by omega)];split <;> omega
  generalize cmpI (val A) (val B) = cm at *
  clear HC
  have HS1:=hide (fun L h=>(uH HS).2 L h (by omega))
  clear HS
  go_wp2
  refine at_world (fun W=>Below w.heap.size w W∧W.heap.size = w.heap.size+3∧Box2 W w.heap.size (.bool na) (.slice ao A.length ca)∧Box2 W (w.heap.size+1) (.bool nb) (.slice bo B.length cb)∧Box2 W (w.heap.size+2) (.bool false) (.slice none 0 0)) ?_ ?_
  ·refine ⟨below_drewN ((((Below.refl _ _).alloc (Nat.le_refl _) _).alloc (by simp) _).alloc (by simp;omega) _) _,by simp,(((Box2.new _ _ _).old _).old _).drewN _,?_,?_⟩
   ·have:=((Box2.new (w.alloc (.cells #[.bool na,.slice ao A.length ca] 33)) (.bool nb) (.slice bo B.length cb)).old (.cells #[.bool false,.slice none 0 0] 33)).drewN m
    simpa using this
   ·have:=(Box2.new ((w.alloc (.cells #[.bool na,.slice ao A.length ca] 33)).alloc (.cells #[.bool nb,.slice bo B.length cb] 33)) (.bool false) (.slice none 0 0)).drewN m
    simpa using this
  rintro W0 ⟨hw0,hs0,x0,x1,x2⟩
  have hK:∀ w',Below (w.heap.size+2) W0 w'→Below (w.heap.size+2) W0 w'∧w'.cell? ⟨w.heap.size,0,none⟩ = some (.bool na)∧w'.cell? ⟨w.heap.size,1,none⟩ = some (.slice ao A.length ca)∧w'.cell? ⟨w.heap.size+1,1,none⟩ = some (.slice bo B.length cb):=fun w' h =>
   ⟨h,(x0.below h (by omega)).c0,(x0.below h (by omega)).c1,(x1.below h (by omega)).c1⟩
  have HK:=hide hK
  have HA:=hide (hA.below hw0)
  have HB:=hide (hB.below hw0)
  have X2:=hide x2
  have HW0:=hide hw0
  have hv':val B≤val A:=by omega
  clear hK hA hB x0 x1 x2 hw0
  go_region_held3 (fun w'=>Below (w.heap.size+2) W0 w'∧w'.cell? ⟨w.heap.size,0,none⟩ = some (.bool na)∧w'.cell? ⟨w.heap.size,1,none⟩ = some (.slice ao A.length ca)∧w'.cell? ⟨w.heap.size+1,1,none⟩ = some (.slice bo B.length cb))
   (first | exact uH HK _ (Below.refl _ _).drew | exact uH HK _ (by assumption) | exact uH HK _ ((hB2.setCell (by simp) _).setCell (by simp) _))
   (first | (go_at_call 303;refine (subLimbs_any ao bo ca cb A B _ ((uH HA).below ((Below.refl _ _).drew)) ((uH HB).below ((Below.refl _ _).drew)) la lb hv').mono ?_;rintro e w1 ⟨ao',cap',L',rfl,g1,g2,g3,g4,hb1⟩;have hB1:Below (w.heap.size+2) W0 w1:=((Below.refl _ _).drew).trans (hb1.mono (by simp [hs0]));have X3:=hide ((uH X2).drew.below hb1 (by simp [hs0]));have G1:=hide g1;have G2:=hide g2;have G4:=hide g4;have L4:L'.length≤35184372088832:=(by omega);have s1:=hb1.size;clear g1 g2 g4 g3 hb1) | (go_at_call 266;refine (fit_any _ na _ _ _ _ (uH G1) (uH G2) L4).mono ?_;rintro e w2 ⟨v,rfl,⟨n2,a2,c2,L2,rfl,i1⟩,hb2⟩;have hB2:Below (w.heap.size+2) W0 w2:=hB1.trans (hb2.mono (by simp at s1;omega));have X4:=(uH X3).below hb2 (by simp at s1;omega);have y0:=X4.c0;have y1:=X4.c1;have f0:=X4.free 0;have f1:=X4.free 1;have I1:=hide i1;clear i1 hb2 X4))
  have hz:=uH HS1 L' (uH G4)
  have HI:=hide (hz ▸ uH I1)
  have HE:=hide (show errOf (sval na L') = errOf z by rw [hz])
  clear hz
  go_wp2
  refine bodyPost_ret (v:=.tuple #[.agg #[.bool n2,.slice a2 L2.length c2],.int .i64 (errOf (sval na L'))]) (by simp [results,Tryz.results300,go_sem,y0,y1]) rfl ⟨.agg #[.bool n2,.slice a2 L2.length c2],?_,?_,?_⟩
  ·rw [uH HE]
  ·exact IsNum.stored (uH HI) (by simp;omega) (by simp;omega) (by simp;omega) _ _
  ·exact (((uH HW0).trans (hB2.mono (by omega))).setCell (by simp;omega) _).setCell (by simp;omega) _
theorem addSigned_any (na nb:Bool) (ao bo:Option Addr) (ca cb:Nat) (A B:List Nat) (w:World) (hA:LimbsAt w ao ca A) (hB:LimbsAt w bo cb B) (la:A.length≤35184372088830) (lb:B.length≤35184372088830) (cA:Canon A) (cB:Canon B) :
  Calls Tryz.prog 300 #[.agg #[.bool na,.slice ao A.length ca],.agg #[.bool nb,.slice bo B.length cb]] w fun e w'=>∃ v,e = .returned (.tuple #[v,.int .i64 (errOf (sval na A+sval nb B))])∧IsNum w.heap.size w' v (numOf (sval na A+sval nb B))∧Below w.heap.size w w':=by
 by_cases hn:na = nb
 ·subst hn;exact addSigned_same na ao bo ca cb A B w hA hB la lb
 ·exact addSigned_diff na nb ao bo ca cb A B w hA hB la lb cA cB hn
end Go.Proofs.YtcbcmlaogehimaaGreatDoor
namespace Go.Proofs.YtcbcmlaogehimaaGreatDoor
open Go.RowKit
attribute [local go_sem ↓] Go.wp_at_zero Go.wp_at_succ
theorem refAdd_same (na:Bool) (ao bo:Option Addr) (ca cb:Nat) (A B:List Nat) (w:World) (hA:LimbsAt w ao ca A) (hB:LimbsAt w bo cb B) (la:A.length≤35184372088830) (lb:B.length≤35184372088830) :
  Calls Tryz.prog 56 #[.agg #[.bool na,.slice ao A.length ca],.agg #[.bool na,.slice bo B.length cb]] w fun e w'=>∃ v,e = .returned v∧IsNumM (max A.length B.length+1) w.heap.size w' v (sval na A+sval na B)∧Below w.heap.size w w':=by
 have hsum:∀ L:List Nat,val L = val A+val B→sval na L = sval na A+sval na B:=by
  intro L h;unfold sval;cases na <;> simp [h] <;> omega
 have HS:=hide hsum
 clear hsum
 generalize sval na A+sval na B = z at *
 go_enter Tryz.func56,Tryz.ntmps56
 go_wp2
 refine at_world (fun W=>Below w.heap.size w W∧W.heap.size = w.heap.size+3∧Box2 W w.heap.size (.bool na) (.slice ao A.length ca)∧Box2 W (w.heap.size+1) (.bool na) (.slice bo B.length cb)∧Box2 W (w.heap.size+2) (.bool false) (.slice none 0 0)) ?_ ?_
 ·refine ⟨((((Below.refl _ _).alloc (Nat.le_refl _) _).alloc (by simp) _).alloc (by simp;omega) _),by simp,((Box2.new _ _ _).old _).old _,?_,?_⟩
  ·have:=(Box2.new (w.alloc (.cells #[.bool na,.slice ao A.length ca] 33)) (.bool na) (.slice bo B.length cb)).old (.cells #[.bool false,.slice none 0 0] 33)
   simpa using this
  ·have:=Box2.new ((w.alloc (.cells #[.bool na,.slice ao A.length ca] 33)).alloc (.cells #[.bool na,.slice bo B.length cb] 33)) (.bool false) (.slice none 0 0)
   simpa using this
 rintro W0 ⟨hw0,hs0,x0,x1,x2⟩
 have hK:∀ w',Below (w.heap.size+2) W0 w'→Below (w.heap.size+2) W0 w'∧w'.cell? ⟨w.heap.size,0,none⟩ = some (.bool na)∧w'.cell? ⟨w.heap.size,1,none⟩ = some (.slice ao A.length ca)∧w'.cell? ⟨w.heap.size+1,1,none⟩ = some (.slice bo B.length cb):=fun w' h =>
  ⟨h,(x0.below h (by omega)).c0,(x0.below h (by omega)).c1,(x1.below h (by omega)).c1⟩
 have HK:=hide hK
 have HA:=hide (hA.below hw0)
 have HB:=hide (hB.below hw0)
 have X2:=hide x2
 have HW0:=hide hw0
 clear hK hA hB x0 x1 x2 hw0
 go_region_held3 (fun w'=>Below (w.heap.size+2) W0 w'∧w'.cell? ⟨w.heap.size,0,none⟩ = some (.bool na)∧w'.cell? ⟨w.heap.size,1,none⟩ = some (.slice ao A.length ca)∧w'.cell? ⟨w.heap.size+1,1,none⟩ = some (.slice bo B.length cb))
  (first | exact uH HK _ (Below.refl _ _).drew | exact uH HK _ (by assumption) | exact uH HK _ ((hB2.setCell (by simp) _).setCell (by simp) _))
  (first | (go_at_call 107;refine (plus_any ao bo ca cb A B _ ((uH HA).below ((Below.refl _ _).drew)) ((uH HB).below ((Below.refl _ _).drew)) la lb).mono ?_;rintro e w1 ⟨ao',cap',L',rfl,g1,g2,g3,g4,hb1⟩;have hB1:Below (w.heap.size+2) W0 w1:=((Below.refl _ _).drew).trans (hb1.mono (by simp [hs0]));have X3:=hide ((uH X2).drew.below hb1 (by simp [hs0]));have G1:=hide g1;have G2:=hide g2;have G4:=hide g4;have L4:L'.length≤35184372088832:=(by omega);have L5:L'.length≤max A.length B.length+1:=(by omega);have s1:=hb1.size;clear g1 g2 g4 g3 hb1) | (go_at_call 65;refine (made_any _ na _ _ _ _ (uH G1) (uH G2) L4).mono ?_;rintro e w2 ⟨v,rfl,⟨n2,a2,c2,L2,rfl,i1⟩,hb2⟩;have hB2:Below (w.heap.size+2) W0 w2:=hB1.trans (hb2.mono (by simp at s1;omega));have X4:=(uH X3).below hb2 (by simp at s1;omega);have y0:=X4.c0;have y1:=X4.c1;have f0:=X4.free 0;have f1:=X4.free 1;have I1:=hide i1;clear i1 hb2 X4))
 have hz:=uH HS L' (uH G4)
 have HI:=hide (hz ▸ uH I1)
 clear hz
 go_wp2
 refine bodyPost_ret (v:=.agg #[.bool n2,.slice a2 L2.length c2]) (by simp [results,Tryz.results56,go_sem,y0,y1]) rfl ⟨.agg #[.bool n2,.slice a2 L2.length c2],rfl,?_,?_⟩
 ·exact (IsNumM.stored (uH HI) (by simp;omega) (by simp;omega) (by simp;omega) _ _).more (by have:=L5;omega)
 ·exact (((uH HW0).trans (hB2.mono (by omega))).setCell (by simp;omega) _).setCell (by simp;omega) _
theorem refAdd_diff (na nb:Bool) (ao bo:Option Addr) (ca cb:Nat) (A B:List Nat) (w:World) (hA:LimbsAt w ao ca A) (hB:LimbsAt w bo cb B) (la:A.length≤35184372088830) (lb:B.length≤35184372088830) (hn:na ≠ nb) :
  Calls Tryz.prog 56 #[.agg #[.bool na,.slice ao A.length ca],.agg #[.bool nb,.slice bo B.length cb]] w fun e w'=>∃ v,e = .returned v∧IsNumM (max A.length B.length+1) w.heap.size w' v (sval na A+sval nb B)∧Below w.heap.size w w':=by
 have hsum:(∀ L:List Nat,val L = val B - val A→val A < val B→sval nb L = sval na A+sval nb B)∧(∀ L:List Nat,val L = val A - val B→val B≤val A→sval na L = sval na A+sval nb B):=by
  constructor <;> intro L h h' <;> unfold sval <;> cases na <;> cases nb <;> simp at hn <;> simp [h] <;> omega
 have HS:=hide hsum
 clear hsum
 generalize sval na A+sval nb B = z at *
 have hne:(na == nb) = false:=by simpa using hn
 clear hn
 go_enter Tryz.func56,Tryz.ntmps56
 go_wp2_with fail
 refine (more_any ao bo ca cb A B _ (hA.below ?_) (hB.below ?_) (by omega) (by omega)).mono ?_
 ·exact (((Below.refl _ _).alloc (Nat.le_refl _) _).alloc (by simp) _).alloc (by simp;omega) _
 ·exact (((Below.refl _ _).alloc (Nat.le_refl _) _).alloc (by simp) _).alloc (by simp;omega) _
 rintro e w' ⟨rfl,rfl⟩
 by_cases hv:val A < val B
 ·rw [cmpI_lt (by omega)]
  have HS1:=hide (fun L h=>(uH HS).1 L h hv)
  clear HS
  go_wp2
  refine at_world (fun W=>Below w.heap.size w W∧W.heap.size = w.heap.size+3∧Box2 W w.heap.size (.bool na) (.slice ao A.length ca)∧Box2 W (w.heap.size+1) (.bool nb) (.slice bo B.length cb)∧Box2 W (w.heap.size+2) (.bool false) (.slice none 0 0)) ?_ ?_
  ·refine ⟨((((Below.refl _ _).alloc (Nat.le_refl _) _).alloc (by simp) _).alloc (by simp;omega) _),by simp,(((Box2.new _ _ _).old _).old _),?_,?_⟩
   ·have:=((Box2.new (w.alloc (.cells #[.bool na,.slice ao A.length ca] 33)) (.bool nb) (.slice bo B.length cb)).old (.cells #[.bool false,.slice none 0 0] 33))
    simpa using this
   ·have:=(Box2.new ((w.alloc (.cells #[.bool na,.slice ao A.length ca] 33)).alloc (.cells #[.bool nb,.slice bo B.length cb] 33)) (.bool false) (.slice none 0 0))
    simpa using this
  rintro W0 ⟨hw0,hs0,x0,x1,x2⟩
  have hK:∀ w',Below (w.heap.size+2) W0 w'→Below (w.heap.size+2) W0 w'∧w'.cell? ⟨w.heap.size+1,0,none⟩ = some (.bool nb)∧w'.cell? ⟨w.heap.size,1,none⟩ = some (.slice ao A.length ca)∧w'.cell? ⟨w.heap.size+1,1,none⟩ = some (.slice bo B.length cb):=fun w' h =>
   ⟨h,(x1.below h (by omega)).c0,(x0.below h (by omega)).c1,(x1.below h (by omega)).c1⟩
  have HK:=hide hK
  have HA:=hide (hA.below hw0)
  have HB:=hide (hB.below hw0)
  have X2:=hide x2
  have HW0:=hide hw0
  have hv':val A≤val B:=by omega
  clear hK hA hB x0 x1 x2 hw0
  go_region_held3 (fun w'=>Below (w.heap.size+2) W0 w'∧w'.cell? ⟨w.heap.size+1,0,none⟩ = some (.bool nb)∧w'.cell? ⟨w.heap.size,1,none⟩ = some (.slice ao A.length ca)∧w'.cell? ⟨w.heap.size+1,1,none⟩ = some (.slice bo B.length cb))
   (first | exact uH HK _ (Below.refl _ _).drew | exact uH HK _ (by assumption) | exact uH HK _ ((hB2.setCell (by simp) _).setCell (by simp) _))
   (first | (go_at_call 110;refine (minus_any bo ao cb ca B A _ ((uH HB).below ((Below.refl _ _).drew)) ((uH HA).below ((Below.refl _ _).drew)) lb la hv').mono ?_;rintro e w1 ⟨ao',cap',L',rfl,g1,g2,g3,g4,hb1⟩;have hB1:Below (w.heap.size+2) W0 w1:=((Below.refl _ _).drew).trans (hb1.mono (by simp [hs0]));have X3:=hide ((uH X2).drew.below hb1 (by simp [hs0]));have G1:=hide g1;have G2:=hide g2;have G4:=hide g4;have L4:L'.length≤35184372088832:=(by omega);have L5:L'.length≤max A.length B.length+1:=(by omega);have s1:=hb1.size;clear g1 g2 g4 g3 hb1) | (go_at_call 65;refine (made_any _ nb _ _ _ _ (uH G1) (uH G2) L4).mono ?_;rintro e w2 ⟨v,rfl,⟨n2,a2,c2,L2,rfl,i1⟩,hb2⟩;have hB2:Below (w.heap.size+2) W0 w2:=hB1.trans (hb2.mono (by simp at s1;omega));have X4:=(uH X3).below hb2 (by simp at s1;omega);have y0:=X4.c0;have y1:=X4.c1;have f0:=X4.free 0;have f1:=X4.free 1;have I1:=hide i1;clear i1 hb2 X4))
  have hz:=uH HS1 L' (uH G4)
  have HI:=hide (hz ▸ uH I1)
  clear hz
  go_wp2
  refine bodyPost_ret (v:=.agg #[.bool n2,.slice a2 L2.length c2]) (by simp [results,Tryz.results56,go_sem,y0,y1]) rfl ⟨.agg #[.bool n2,.slice a2 L2.length c2],rfl,?_,?_⟩
  ·exact (IsNumM.stored (uH HI) (by simp;omega) (by simp;omega) (by simp;omega) _ _).more (by have:=L5;omega)
  ·exact (((uH HW0).trans (hB2.mono (by omega))).setCell (by simp;omega) _).setCell (by simp;omega) _
 ·have hge:¬ cmpI (val A) (val B) < 0:=by unfold cmpI;rw [if_neg (by omega)];split <;> omega
  generalize cmpI (val A) (val B) = cm at *
  have HS1:=hide (fun L h=>(uH HS).2 L h (by omega))
  clear HS
  go_wp2
  refine at_world (fun W=>Below w.heap.size w W∧W.heap.size = w.heap.size+3∧Box2 W w.heap.size (.bool na) (.slice ao A.length ca)∧Box2 W (w.heap.size+1) (.bool nb) (.slice bo B.length cb)∧Box2 W (w.heap.size+2) (.bool false) (.slice none 0 0)) ?_ ?_
  ·refine ⟨((((Below.refl _ _).alloc (Nat.le_refl _) _).alloc (by simp) _).alloc (by simp;omega) _),by simp,(((Box2.new _ _ _).old _).old _),?_,?_⟩
   ·have:=((Box2.new (w.alloc (.cells #[.bool na,.slice ao A.length ca] 33)) (.bool nb) (.slice bo B.length cb)).old (.cells #[.bool false,.slice none 0 0] 33))
    simpa using this
   ·have:=(Box2.new ((w.alloc (.cells #[.bool na,.slice ao A.length ca] 33)).alloc (.cells #[.bool nb,.slice bo B.length cb] 33)) (.bool false) (.slice none 0 0))
    simpa using this
  rintro W0 ⟨hw0,hs0,x0,x1,x2⟩
  have hK:∀ w',Below (w.heap.size+2) W0 w'→Below (w.heap.size+2) W0 w'∧w'.cell? ⟨w.heap.size,0,none⟩ = some (.bool na)∧w'.cell? ⟨w.heap.size,1,none⟩ = some (.slice ao A.length ca)∧w'.cell? ⟨w.heap.size+1,1,none⟩ = some (.slice bo B.length cb):=fun w' h =>
   ⟨h,(x0.below h (by omega)).c0,(x0.below h (by omega)).c1,(x1.below h (by omega)).c1⟩
  have HK:=hide hK
  have HA:=hide (hA.below hw0)
  have HB:=hide (hB.below hw0)
  have X2:=hide x2
  have HW0:=hide hw0
  have hv':val B≤val A:=by omega
  clear hK hA hB x0 x1 x2 hw0
  go_region_held3 (fun w'=>Below (w.heap.size+2) W0 w'∧w'.cell? ⟨w.heap.size,0,none⟩ = some (.bool na)∧w'.cell? ⟨w.heap.size,1,none⟩ = some (.slice ao A.length ca)∧w'.cell? ⟨w.heap.size+1,1,none⟩ = some (.slice bo B.length cb))
   (first | exact uH HK _ (Below.refl _ _).drew | exact uH HK _ (by assumption) | exact uH HK _ ((hB2.setCell (by simp) _).setCell (by simp) _))
   (first | (go_at_call 110;refine (minus_any ao bo ca cb A B _ ((uH HA).below ((Below.refl _ _).drew)) ((uH HB).below ((Below.refl _ _).drew)) la lb hv').mono ?_;rintro e w1 ⟨ao',cap',L',rfl,g1,g2,g3,g4,hb1⟩;have hB1:Below (w.heap.size+2) W0 w1:=((Below.refl _ _).drew).trans (hb1.mono (by simp [hs0]));have X3:=hide ((uH X2).drew.below hb1 (by simp [hs0]));have G1:=hide g1;have G2:=hide g2;have G4:=hide g4;have L4:L'.length≤35184372088832:=(by omega);have L5:L'.length≤max A.length B.length+1:=(by omega);have s1:=hb1.size;clear g1 g2 g4 g3 hb1) | (go_at_call 65;refine (made_any _ na _ _ _ _ (uH G1) (uH G2) L4).mono ?_;rintro e w2 ⟨v,rfl,⟨n2,a2,c2,L2,rfl,i1⟩,hb2⟩;have hB2:Below (w.heap.size+2) W0 w2:=hB1.trans (hb2.mono (by simp at s1;omega));have X4:=(uH X3).below hb2 (by simp at s1;omega);have y0:=X4.c0;have y1:=X4.c1;have f0:=X4.free 0;have f1:=X4.free 1;have I1:=hide i1;clear i1 hb2 X4))
  have hz:=uH HS1 L' (uH G4)
  have HI:=hide (hz ▸ uH I1)
  clear hz
  go_wp2
  refine bodyPost_ret (v:=.agg #[.bool n2,.slice a2 L2.length c2]) (by simp [results,Tryz.results56,go_sem,y0,y1]) rfl ⟨.agg #[.bool n2,.slice a2 L2.length c2],rfl,?_,?_⟩
  ·exact (IsNumM.stored (uH HI) (by simp;omega) (by simp;omega) (by simp;omega) _ _).more (by have:=L5;omega)
  ·exact (((uH HW0).trans (hB2.mono (by omega))).setCell (by simp;omega) _).setCell (by simp;omega) _
theorem refAdd_any (na nb:Bool) (ao bo:Option Addr) (ca cb:Nat) (A B:List Nat) (w:World) (hA:LimbsAt w ao ca A) (hB:LimbsAt w bo cb B) (la:A.length≤35184372088830) (lb:B.length≤35184372088830) :
  Calls Tryz.prog 56 #[.agg #[.bool na,.slice ao A.length ca],.agg #[.bool nb,.slice bo B.length cb]] w fun e w'=>∃ v,e = .returned v∧IsNumM (max A.length B.length+1) w.heap.size w' v (sval na A+sval nb B)∧Below w.heap.size w w':=by
 by_cases hn:na = nb
 ·subst hn;exact refAdd_same na ao bo ca cb A B w hA hB la lb
 ·exact refAdd_diff na nb ao bo ca cb A B w hA hB la lb hn
end Go.Proofs.YtcbcmlaogehimaaGreatDoor
namespace Go.Proofs.YtcbcmlaogehimaaGreatDoor
open Go.RowKit
attribute [local go_sem ↓] Go.wp_at_zero Go.wp_at_succ
def chk2 (na:Bool) (A:List Nat) (nb:Bool) (B:List Nat):Int:=if rightB na A && rightB nb B then 0 else 1
theorem checkBoth_any (na nb:Bool) (ao bo:Option Addr) (ca cb:Nat) (A B:List Nat) (w:World) (hA:LimbsAt w ao ca A) (hB:LimbsAt w bo cb B) (la:A.length≤35184372088830) (lb:B.length≤35184372088830) :
  Calls Tryz.prog 296 #[.agg #[.bool na,.slice ao A.length ca],.agg #[.bool nb,.slice bo B.length cb]] w fun e w'=>e = .returned (.int .i64 (chk2 na A nb B))∧Below w.heap.size w w':=by
 have hE:(rightB na A = false→chk2 na A nb B = 1)∧(rightB na A = true→chk2 na A nb B = chkE nb B):=by
  constructor <;> intro h <;> simp [chk2,chkE,h]
 have HE:=hide hE
 clear hE
 generalize chk2 na A nb B = r at *
 go_enter Tryz.func296,Tryz.ntmps296
 go_wp2_with fail
 refine (check_any na ao ca A _ (hA.below (((Below.refl _ _).alloc (Nat.le_refl _) _).alloc (by simp) _)) la).mono ?_
 rintro e w1 ⟨rfl,hb1⟩
 have hb2:Below w.heap.size w w1:=(((Below.refl _ _).alloc (Nat.le_refl _) _).alloc (by simp) _).trans (hb1.mono (by simp;omega))
 have hc0:w1.cell? ⟨w.heap.size+1,0,none⟩ = some (.bool nb):=by rw [hb1.cell (p:=⟨w.heap.size+1,0,none⟩) (by simp)];simp [go_sem]
 have hc1:w1.cell? ⟨w.heap.size+1,1,none⟩ = some (.slice bo B.length cb):=by rw [hb1.cell (p:=⟨w.heap.size+1,1,none⟩) (by simp)];simp [go_sem]
 clear hb1
 cases hr:rightB na A
 ·have H0:=hide ((uH HE).1 hr)
  have hc:chkE na A = 1:=by simp [chkE,hr]
  rw [hc]
  clear hc hr HE
  go_wp2
  go_ret
  exact ⟨ret_int (uH H0).symm,hb2⟩
 ·have H0:=hide ((uH HE).2 hr)
  have hc:chkE na A = 0:=by simp [chkE,hr]
  rw [hc]
  clear hc hr HE
  go_wp2_with fail
  refine (check_any nb bo cb B _ (hB.below hb2) lb).mono ?_
  rintro e w2 ⟨rfl,hb3⟩
  go_wp2
  go_ret
  exact ⟨ret_int (uH H0).symm,hb2.trans (hb3.mono hb2.size)⟩
end Go.Proofs.YtcbcmlaogehimaaGreatDoor
namespace Go.Proofs.YtcbcmlaogehimaaGreatDoor
open Go.RowKit
def opErr (ok:Bool) (z:Int):Int:=if ok then errOf z else 1
def opNum (ok:Bool) (z:Int):Int:=if ok then numOf z else 0
theorem opErr_true (z:Int):opErr true z = errOf z:=by unfold opErr;rw [if_pos rfl]
theorem opNum_true (z:Int):opNum true z = numOf z:=by unfold opNum;rw [if_pos rfl]
theorem opErr_false (z:Int):opErr false z = 1:=by unfold opErr;rw [if_neg (by decide)]
theorem opNum_false (z:Int):opNum false z = 0:=by unfold opNum;rw [if_neg (by decide)]
theorem right_canon {neg:Bool} {L:List Nat} (h:rightB neg L = true):L.length≤512∧Canon L∧(neg = true→L ≠ []):=by
 simp only [rightB,Bool.and_eq_true,decide_eq_true_eq,Bool.not_eq_true',Bool.and_eq_false_iff,decide_eq_false_iff_not,Bool.or_eq_true] at h
 obtain ⟨⟨h1,h2⟩,h3⟩:=h
 refine ⟨h1,?_,?_⟩
 ·rcases h3 with h3 | h3
  ·exact .inl (List.length_eq_zero_iff.1 h3)
  ·exact .inr h3
 ·rintro hn rfl
  rcases h2 with h2 | h2
  ·simp at h2
  ·rw [hn] at h2;cases h2
theorem sval_not (nb:Bool) (B:List Nat):sval (!nb) B = - sval nb B:=by unfold sval;cases nb <;> simp
theorem add_any (na nb:Bool) (ao bo:Option Addr) (ca cb:Nat) (A B:List Nat) (w:World) (hA:LimbsAt w ao ca A) (hB:LimbsAt w bo cb B) (la:A.length≤35184372088830) (lb:B.length≤35184372088830) :
  Calls Tryz.prog 295 #[.agg #[.bool na,.slice ao A.length ca],.agg #[.bool nb,.slice bo B.length cb]] w fun e w'=>∃ v,e = .returned (.tuple #[v,.int .i64 (opErr (rightB na A && rightB nb B) (sval na A+sval nb B))])∧IsNum w.heap.size w' v (opNum (rightB na A && rightB nb B) (sval na A+sval nb B))∧Below w.heap.size w w':=by
 have hC:(rightB na A && rightB nb B) = true→Canon A∧Canon B:=fun h=>by
  simp only [Bool.and_eq_true] at h;exact ⟨(right_canon h.1).2.1,(right_canon h.2).2.1⟩
 have HC:=hide hC
 have H2:=hide (show chk2 na A nb B = if (rightB na A && rightB nb B) then 0 else 1 from rfl)
 clear hC
 generalize hok:(rightB na A && rightB nb B) = ok at *
 clear hok
 go_enter Tryz.func295,Tryz.ntmps295
 go_wp2_with fail
 have hb0:Below w.heap.size w (((w.alloc (.cells #[.bool na,.slice ao A.length ca] 33)).alloc (.cells #[.bool nb,.slice bo B.length cb] 33)).alloc (.cells #[.bool false,.slice none 0 0] 33)) :=
  (((Below.refl _ _).alloc (Nat.le_refl _) _).alloc (by simp) _).alloc (by simp;omega) _
 refine (checkBoth_any na nb ao bo ca cb A B _ (hA.below hb0) (hB.below hb0) la lb).mono ?_
 rintro e w1 ⟨rfl,hb1⟩
 have hs1:w.heap.size+3≤w1.heap.size:=by have:=hb1.size;simpa using this
 have hb2:Below w.heap.size w w1:=hb0.trans (hb1.mono (by simp;omega))
 have p0:w1.cell? ⟨w.heap.size,0,none⟩ = some (.bool na):=by rw [hb1.cell (p:=⟨w.heap.size,0,none⟩) (by simp;omega)];simp [go_sem]
 have p1:w1.cell? ⟨w.heap.size,1,none⟩ = some (.slice ao A.length ca):=by rw [hb1.cell (p:=⟨w.heap.size,1,none⟩) (by simp;omega)];simp [go_sem]
 have q0:w1.cell? ⟨w.heap.size+1,0,none⟩ = some (.bool nb):=by rw [hb1.cell (p:=⟨w.heap.size+1,0,none⟩) (by simp)];simp [go_sem]
 have q1:w1.cell? ⟨w.heap.size+1,1,none⟩ = some (.slice bo B.length cb):=by rw [hb1.cell (p:=⟨w.heap.size+1,1,none⟩) (by simp)];simp [go_sem]
 have r2:Box2 w1 (w.heap.size+2) (.bool false) (.slice none 0 0):=by
  have:=Box2.new ((w.alloc (.cells #[.bool na,.slice ao A.length ca] 33)).alloc (.cells #[.bool nb,.slice bo B.length cb] 33)) (.bool false) (.slice none 0 0)
  exact Box2.below (by simpa using this) hb1 (by simp)
 rw [uH H2]
 clear hb1 H2 hb0
 cases ok
 ·simp only [Bool.false_eq_true,if_false]
  have y0:=r2.c0;have y1:=r2.c1;have f0:=r2.free 0;have f1:=r2.free 1
  go_wp2
  refine bodyPost_ret (v:=.tuple #[.agg #[.bool false,.slice none 0 0],.int .i64 1]) (by simp [results,Tryz.results295,go_sem,y0,y1]) rfl ⟨.agg #[.bool false,.slice none 0 0],by rw [opErr_false],by rw [opNum_false];exact IsNum.zero _ _ _ _,?_⟩
  exact (hb2.setCell (by simp;omega) _).setCell (by simp;omega) _
 ·obtain ⟨cA,cB⟩:=uH HC rfl
  have CA:=hide cA
  have CB:=hide cB
  clear cA cB
  simp only [if_true]
  go_wp2_with fail
  refine (addSigned_any na nb ao bo ca cb A B _ (hA.below hb2) (hB.below hb2) la lb (uH CA) (uH CB)).mono ?_
  rintro e w2 ⟨v,rfl,⟨n2,a2,c2,L2,rfl,i1⟩,hb3⟩
  have r3:=r2.below hb3 (by omega)
  have y0:=r3.c0;have y1:=r3.c1;have f0:=r3.free 0;have f1:=r3.free 1
  have I1:=hide i1
  have hb4:=hb2.trans (hb3.mono hb2.size)
  clear i1
  go_wp2
  refine bodyPost_ret (v:=.tuple #[.agg #[.bool n2,.slice a2 L2.length c2],.int .i64 (errOf (sval na A+sval nb B))]) (by simp [results,Tryz.results295,go_sem,y0,y1]) rfl ⟨.agg #[.bool n2,.slice a2 L2.length c2],by rw [opErr_true],?_,?_⟩
  ·rw [opNum_true];exact IsNum.stored (uH I1) (by simp;omega) (by simp;omega) (by omega) _ _
  ·exact (hb4.setCell (by simp;omega) _).setCell (by simp;omega) _
end Go.Proofs.YtcbcmlaogehimaaGreatDoor
namespace Go.Proofs.YtcbcmlaogehimaaGreatDoor
open Go.RowKit
attribute [local go_sem ↓] Go.wp_at_zero Go.wp_at_succ
theorem LimbsAt.box {w:World} {ao:Option Addr} {cap g:Nat} {L:List Nat} (h:LimbsAt w ao cap L) {x:Bool} {a:Option Addr} {n c:Nat} (hx:Box2 w g (.bool x) (.slice a n c)) (u u':Value) :
  LimbsAt ((w.setCell ⟨g,0,none⟩ u).setCell ⟨g,1,none⟩ u') ao cap L:=by
 refine ⟨h.1,h.2.1,?_⟩
 rcases h.2.2 with h0 | ⟨b,off,h1,h2,h3⟩
 ·exact .inl h0
 ·by_cases he:L = []
  ·exact .inl he
  ·have hp:0 < L.length:=List.length_pos_iff.2 he
   have hne:b ≠ g:=by
    rintro rfl
    have h4:=h3 0 hp
    rw [cell_of_row w b (off+0) _ _ _ hx] at h4
    rcases (show off = 0 ∨ off = 1 ∨ 2≤off by omega) with e | e | e
    ·subst e;simp at h4
    ·subst e;simp at h4
    ·rw [Array.getElem?_eq_none (by simp;omega)] at h4;simp at h4
   refine .inr ⟨b,off,h1,by simpa [World.setCell] using h2,fun i hi=>?_⟩
   rw [cell_setCell_other _ _ _ _ (by simpa using hne),cell_setCell_other _ _ _ _ (by simpa using hne)]
   exact h3 i hi
theorem refNeg_any (nb:Bool) (bo:Option Addr) (cb:Nat) (B:List Nat) (w:World) (hB:LimbsAt w bo cb B) (lb:B.length≤35184372088830) :
  Calls Tryz.prog 116 #[.agg #[.bool nb,.slice bo B.length cb]] w fun e w'=>∃ v,e = .returned v∧IsNumM B.length 0 w' v (- sval nb B)∧Below w.heap.size w w':=by
 have HZ:=hide (sval_not nb B)
 go_enter Tryz.func116,Tryz.ntmps116
 go_wp2_with fail
 have hb0:Below w.heap.size w ((w.alloc (.cells #[.bool nb,.slice bo B.length cb] 33)).alloc (.cells #[.bool false,.slice none 0 0] 33)):=((Below.refl _ _).alloc (Nat.le_refl _) _).alloc (by simp) _
 refine (made_any 0 (!nb) bo cb B _ (hB.below hb0) (NewAt.zero hB) (by omega)).mono ?_
 rw [uH HZ]
 rintro e w1 ⟨v,rfl,⟨n2,a2,c2,L2,rfl,i1⟩,hb1⟩
 have r1:Box2 w1 (w.heap.size+1) (.bool false) (.slice none 0 0):=by
  have:=Box2.new (w.alloc (.cells #[.bool nb,.slice bo B.length cb] 33)) (.bool false) (.slice none 0 0)
  exact Box2.below (by simpa using this) hb1 (by simp)
 have y0:=r1.c0;have y1:=r1.c1;have f0:=r1.free 0;have f1:=r1.free 1
 have I1:=hide i1
 have R1:=hide r1
 have HB1:=hide (hb0.trans (hb1.mono (by simp;omega)))
 clear i1 hb1 hb0 r1
 go_wp2
 refine bodyPost_ret (v:=.agg #[.bool n2,.slice a2 L2.length c2]) (by simp [results,Tryz.results116,go_sem,y0,y1]) rfl ⟨.agg #[.bool n2,.slice a2 L2.length c2],rfl,?_,?_⟩
 ·exact ⟨n2,a2,c2,L2,rfl,(uH I1).1.box (uH R1) _ _,(uH I1).2⟩
 ·exact ((uH HB1).setCell (by simp) _).setCell (by simp) _
end Go.Proofs.YtcbcmlaogehimaaGreatDoor
namespace Go.Proofs.YtcbcmlaogehimaaGreatDoor
open Go.RowKit
set_option maxRecDepth 100000 in
theorem len32_any (x:Int) (w:World) (h0:0≤x) (h1:x≤4294967295) :
  Calls Tryz.prog 240 #[.int .u32 x] w fun e w'=>e = .returned (.int .i64 (Lib.bitLen x.toNat))∧w = w':=by
 rcases (show x < 256 ∨ (256≤x∧x < 65536) ∨ (65536≤x∧x < 16777216) ∨ 16777216≤x by omega) with h | ⟨ha,hb⟩ | ⟨ha,hb⟩ | h
 ·have hi:=fun w=>Lib.run_index_len8tab (P:=Tryz.prog) w 9 .u8 (x) Tryz.underlying9 (by omega) (by omega)
  have l1:=Lib.len8_eq ⟨(x).toNat,by omega⟩
  have l2:=Lib.bitLen_le8 ⟨(x).toNat,by omega⟩
  have hl0:0≤Lib.len8 (x):=by simp only [Int.toNat_of_nonneg (show 0≤x by omega)] at l1;rw [l1];omega
  have hl8:Lib.len8 (x)≤8:=by simp only [Int.toNat_of_nonneg (show 0≤x by omega)] at l1;rw [l1];simp only at l2;omega
  have HE:Hid (Lib.len8 (x) = (Lib.bitLen (x).toNat:Int)):=by unfold Hid;simp only [Int.toNat_of_nonneg (show 0≤x by omega)] at l1;exact l1
  clear l1 l2
  go_enter Tryz.func240,Tryz.ntmps240
  go_wp2
  go_ret
  refine ⟨ret_int ?_,rfl⟩
  rw [HE.out]
 ·have hi:=fun w=>Lib.run_index_len8tab (P:=Tryz.prog) w 9 .u8 (x / 256) Tryz.underlying9 (by omega) (by omega)
  have l1:=Lib.len8_eq ⟨(x / 256).toNat,by omega⟩
  have l2:=Lib.bitLen_le8 ⟨(x / 256).toNat,by omega⟩
  have hl0:0≤Lib.len8 (x / 256):=by simp only [Int.toNat_of_nonneg (show 0≤x / 256 by omega)] at l1;rw [l1];omega
  have hl8:Lib.len8 (x / 256)≤8:=by simp only [Int.toNat_of_nonneg (show 0≤x / 256 by omega)] at l1;rw [l1];simp only at l2;omega
  have HE:Hid (Lib.len8 (x / 256) = (Lib.bitLen (x / 256).toNat:Int)):=by unfold Hid;simp only [Int.toNat_of_nonneg (show 0≤x / 256 by omega)] at l1;exact l1
  clear l1 l2
  go_enter Tryz.func240,Tryz.ntmps240
  go_wp2
  go_ret
  refine ⟨ret_int ?_,rfl⟩
  rw [HE.out]
  have s:=Lib.bitLen_shift8 x.toNat (by omega) (by omega)
  rw [show (x / 256).toNat = x.toNat / 256 by omega]
  omega
 ·have hi:=fun w=>Lib.run_index_len8tab (P:=Tryz.prog) w 9 .u8 (x / 65536) Tryz.underlying9 (by omega) (by omega)
  have l1:=Lib.len8_eq ⟨(x / 65536).toNat,by omega⟩
  have l2:=Lib.bitLen_le8 ⟨(x / 65536).toNat,by omega⟩
  have hl0:0≤Lib.len8 (x / 65536):=by simp only [Int.toNat_of_nonneg (show 0≤x / 65536 by omega)] at l1;rw [l1];omega
  have hl8:Lib.len8 (x / 65536)≤8:=by simp only [Int.toNat_of_nonneg (show 0≤x / 65536 by omega)] at l1;rw [l1];simp only at l2;omega
  have HE:Hid (Lib.len8 (x / 65536) = (Lib.bitLen (x / 65536).toNat:Int)):=by unfold Hid;simp only [Int.toNat_of_nonneg (show 0≤x / 65536 by omega)] at l1;exact l1
  clear l1 l2
  go_enter Tryz.func240,Tryz.ntmps240
  go_wp2
  go_ret
  refine ⟨ret_int ?_,rfl⟩
  rw [HE.out]
  have s:=Lib.bitLen_shift16 x.toNat (by omega) (by omega)
  rw [show (x / 65536).toNat = x.toNat / 65536 by omega]
  omega
 ·have hi:=fun w=>Lib.run_index_len8tab (P:=Tryz.prog) w 9 .u8 (x / 65536 / 256) Tryz.underlying9 (by omega) (by omega)
  have l1:=Lib.len8_eq ⟨(x / 65536 / 256).toNat,by omega⟩
  have l2:=Lib.bitLen_le8 ⟨(x / 65536 / 256).toNat,by omega⟩
  have hl0:0≤Lib.len8 (x / 65536 / 256):=by simp only [Int.toNat_of_nonneg (show 0≤x / 65536 / 256 by omega)] at l1;rw [l1];omega
  have hl8:Lib.len8 (x / 65536 / 256)≤8:=by simp only [Int.toNat_of_nonneg (show 0≤x / 65536 / 256 by omega)] at l1;rw [l1];simp only at l2;omega
  have HE:Hid (Lib.len8 (x / 65536 / 256) = (Lib.bitLen (x / 65536 / 256).toNat:Int)):=by unfold Hid;simp only [Int.toNat_of_nonneg (show 0≤x / 65536 / 256 by omega)] at l1;exact l1
  clear l1 l2
  go_enter Tryz.func240,Tryz.ntmps240
  go_wp2
  go_ret
  refine ⟨ret_int ?_,rfl⟩
  rw [HE.out]
  have s:=Lib.bitLen_shift24 x.toNat (by omega) (by omega)
  rw [show (x / 65536 / 256).toNat = x.toNat / 16777216 by omega]
  omega
end Go.Proofs.YtcbcmlaogehimaaGreatDoor
namespace Go.Proofs.YtcbcmlaogehimaaGreatDoor
open Go.RowKit
theorem bitLen_fuel:∀ (f x:Nat),x < 2 ^ f→Lib.bitLenAux (f+1) x = Lib.bitLenAux f x
 | 0,x,h=>by simp at h;subst h;rfl
 | f+1,x,h=>by
  have ih:=bitLen_fuel f (x / 2) (by rw [Nat.pow_succ] at h;omega)
  have e1:Lib.bitLenAux (f+1+1) x = if x = 0 then 0 else 1+Lib.bitLenAux (f+1) (x / 2):=rfl
  have e2:Lib.bitLenAux (f+1) x = if x = 0 then 0 else 1+Lib.bitLenAux f (x / 2):=rfl
  rw [e1,e2,ih]
theorem bitLen_half (t:Nat) (h0:0 < t) (h:t < 4294967296):Lib.bitLen t = 1+Lib.bitLen (t / 2):=by
 have e1:Lib.bitLen t = 1+Lib.bitLenAux 63 (t / 2):=by
  unfold Lib.bitLen
  rw [Lib.bitLenAux,if_neg (by omega)]
 rw [e1]
 unfold Lib.bitLen
 rw [← bitLen_fuel 63 (t / 2) (by omega)]
theorem bitLen_zero:Lib.bitLen 0 = 0:=rfl
theorem bitLen_le (t:Nat):Lib.bitLen t≤64:=by
 have:∀ f x,Lib.bitLenAux f x≤f:=by
  intro f
  induction f with
  | zero=>intro x;simp [Lib.bitLenAux]
  | succ f ih=>intro x;rw [Lib.bitLenAux];split;omega;have:=ih (x / 2);omega
 exact this 64 t
def lenL (L:List Nat):Int:=if L.length = 0 then 0 else 32 * ((L.length:Int) - 1)+(Lib.bitLen (L[L.length - 1]?.getD 0):Int)
theorem len_any (neg:Bool) (ao:Option Addr) (cap:Nat) (L:List Nat) (w:World) (h:LimbsAt w ao cap L) (hl:L.length≤35184372088830) :
  Calls Tryz.prog 208 #[.agg #[.bool neg,.slice ao L.length cap]] w fun e w'=>e = .returned (.int .i64 (lenL L))∧Below w.heap.size w w':=by
 by_cases h0:L = []
 ·subst h0
  go_enter Tryz.func208,Tryz.ntmps208
  go_wp2
  go_ret
  exact ⟨ret_int (by simp [lenL]),(Below.refl _ _).alloc (Nat.le_refl _) _⟩
 obtain ⟨b,off,rfl,hb,hc⟩:=h.ne (List.length_pos_iff.2 h0)
 have hp:0 < L.length:=List.length_pos_iff.2 h0
 have hc1:=hc (L.length - 1) (by omega)
 have hx:=h.lt (L.length - 1)
 have HE:Hid (lenL L = 32 * ((L.length:Int) - 1)+(Lib.bitLen (L[L.length - 1]?.getD 0):Int)):=by unfold Hid lenL;rw [if_neg (by omega)]
 generalize lenL L = r at *
 generalize hn:L.length = n at *
 generalize L[n - 1]?.getD 0 = x at *
 clear hn h hc h0
 have hbx:=bitLen_le x
 have hne:((n:Int) == 0) = false:=by simp;omega
 go_enter Tryz.func208,Tryz.ntmps208
 go_wp2_with (go_at_call 240;refine (len32_any _ _ (by omega) (by omega)).mono ?_;rw [Int.toNat_natCast];rintro e w' ⟨rfl,rfl⟩)
 go_ret
 exact ⟨ret_int (by rw [HE.out];omega),(Below.refl _ _).alloc (Nat.le_refl _) _⟩
theorem refLen_any (neg:Bool) (ao:Option Addr) (cap:Nat) (L:List Nat) (w:World) (h:LimbsAt w ao cap L) (hl:L.length≤35184372088830) :
  Calls Tryz.prog 127 #[.agg #[.bool neg,.slice ao L.length cap]] w fun e w'=>e = .returned (.int .i64 (lenL L))∧Below w.heap.size w w':=by
 by_cases h0:L = []
 ·subst h0
  go_enter Tryz.func127,Tryz.ntmps127
  go_wp2
  go_ret
  exact ⟨ret_int (by simp [lenL]),(Below.refl _ _).alloc (Nat.le_refl _) _⟩
 obtain ⟨b,off,rfl,hb,hc⟩:=h.ne (List.length_pos_iff.2 h0)
 have hp:0 < L.length:=List.length_pos_iff.2 h0
 have hc1:=hc (L.length - 1) (by omega)
 have hx:=h.lt (L.length - 1)
 have HE:Hid (lenL L = 32 * ((L.length:Int) - 1)+(Lib.bitLen (L[L.length - 1]?.getD 0):Int)):=by unfold Hid lenL;rw [if_neg (by omega)]
 generalize lenL L = r at *
 generalize hn:L.length = n at *
 generalize L[n - 1]?.getD 0 = x at *
 clear hn h hc h0
 have hbx:=bitLen_le x
 have hne:((n:Int) == 0) = false:=by simp;omega
 go_enter Tryz.func127,Tryz.ntmps127
 go_wp2
 go_loop [3,4] (fun m t=>∃ (k y:Nat),m = .int .i64 (32 * ((n:Int) - 1)+(k:Int))∧t = .int .u32 (y:Int)∧y < 4294967296∧k≤64∧Hid (k+Lib.bitLen y = Lib.bitLen x)) (fun _ t=>(intOf t).toNat)
 case atStart=>exact ⟨0,x,int_eq (by omega),rfl,hx,by omega,by unfold Hid;omega⟩
 case round =>
  obtain ⟨k,y,rfl,rfl,hy,hk,hv⟩:=hrel
  by_cases hy0:y = 0
  ·subst hy0
   have hv':=hv.out
   rw [bitLen_zero] at hv'
   have HV:=hide hv'
   clear hv' hv
   go_wp2
   go_ret
   exact ⟨ret_int (by rw [HE.out];have:=uH HV;omega),(Below.refl _ _).alloc (Nat.le_refl _) _⟩
  ·have hh:=bitLen_half y (by omega) hy
   have hv':=hv.out
   have HV:=hide (show k+1+Lib.bitLen (y / 2) = Lib.bitLen x by omega)
   have hk':k+1≤64:=by omega
   clear hh hv' hv
   go_wp2
   go_round
   case rel=>exact ⟨k+1,y / 2,int_eq (by omega),int_eq (by omega),by omega,hk',uH HV⟩
   case measure=>simp [intOf];omega
theorem ret_int2 {k k':IntKind} {a b c d:Int} (h:a = b) (h':c = d):Ending.returned (.tuple #[.int k a,.int k' c]) = .returned (.tuple #[.int k b,.int k' d]):=by rw [h,h']
end Go.Proofs.YtcbcmlaogehimaaGreatDoor
