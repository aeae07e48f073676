/- Part 5 of the texts. -/
import Derived.Test.YtcbcmlaogehimaaGreatDoorPartt04
import Derived.Lib.BitFns
set_option maxHeartbeats 4000000
namespace Go.Proofs.YtcbcmlaogehimaaGreatDoor
open Go.RowKit
attribute [local go_sem ↓] Go.wp_at_zero Go.wp_at_succ
theorem vC(A B:List Nat)(fA:bh A)(u:bh B)(z:bQ A)(cB:bQ B):nU A B=bt (ai A) (ai B):=by
 unfold nU
 split
 ·rfl
 ·rename_i D
  rcases Nat.lt_or_gt_of_ne D with h|h
  ·have:ai A<ai B:=by
    have:=dJ B A fA cB
    by_cases d:ai B≤ai A
    ·have:=this d;omega
    ·omega
   rw[dL (by omega),dL (by omega)]
  ·have:ai B<ai A:=by
    have:=dJ A B u z
    by_cases d:ai A≤ai B
    ·have:=this d;omega
    ·omega
   rw[eW (by omega),eW (by omega)]
theorem nZ(u D:Bool)(H I:Option Addr)(J K:Nat)(A B:List Nat)(w:World)(hA:ag w H J A)(hB:ag w I K B)(la:A.length≤35184372088830)(lb:B.length≤35184372088830)(cA:bQ A)(cB:bQ B)(hn:u≠D):
  Calls Tryz.prog 300 #[.agg #[.bool u,.slice H A.length J],.agg #[.bool D,.slice I B.length K]] w fun e d=>∃v,e=.returned (.tuple #[v,.int .i64 (bD (af u A+af D B))])∧au w.heap.size d v (dR (af u A+af D B))∧Below w.heap.size w d:=by
 have Z:(∀L:List Nat,ai L=ai B-ai A→ai A<ai B→af D L=af u A+af D B)∧(∀L:List Nat,ai L=ai A-ai B→ai B≤ai A→af u L=af u A+af D B):=by
  constructor<;>intro L h h'<;>unfold af<;>cases u<;>cases D<;>simp at hn<;>simp[h]<;>omega
 have an:=vC A B hA.2.1 hB.2.1 cA cB
 have HS:=ac Z
 clear Z
 generalize af u A+af D B=z at*
 have az:(u==D)=false:=by simpa using hn
 have HC:=ac an
 clear an hn
 go_enter Tryz.func300,Tryz.ntmps300
 go_wp2_with fail
 refine(mg H I J K A B _ (hA.below ?_) (hB.below ?_) (by omega) (by omega)).mono ?_
 ·exact(((Below.refl _ _).alloc (Nat.le_refl _) _).alloc (by simp) _).alloc (by simp;omega) _
 ·exact(((Below.refl _ _).alloc (Nat.le_refl _) _).alloc (by simp) _).alloc (by simp;omega) _
 rintro e d ⟨rfl,m,rfl⟩
 rw[uH HC]
 by_cases hv:ai A<ai B
 ·rw[dL (by omega)]
  clear HC
  have aa:=ac (fun L h=>(uH HS).1 L h hv)
  clear HS
  go_wp2
  refine ap (fun W=>Below w.heap.size w W∧W.heap.size=w.heap.size+3∧aB W w.heap.size (.bool u) (.slice H A.length J)∧aB W (w.heap.size+1) (.bool D) (.slice I B.length K)∧aB W (w.heap.size+2) (.bool false) (.slice none 0 0)) ?_ ?_
  ·refine⟨below_drewN ((((Below.refl _ _).alloc (Nat.le_refl _) _).alloc (by simp) _).alloc (by simp;omega) _) _,by simp,(((aB.new _ _ _).old _).old _).drewN _,?_,?_⟩
   ·have:=((aB.new (w.alloc (.cells #[.bool u,.slice H A.length J] 33)) (.bool D) (.slice I B.length K)).old (.cells #[.bool false,.slice none 0 0] 33)).drewN m
    simpa using this
   ·have:=(aB.new ((w.alloc (.cells #[.bool u,.slice H A.length J] 33)).alloc (.cells #[.bool D,.slice I B.length K] 33)) (.bool false) (.slice none 0 0)).drewN m
    simpa using this
  rintro U ⟨F,X,x0,x1,x2⟩
  have hK:∀d,Below (w.heap.size+2) U d→Below (w.heap.size+2) U d∧d.cell? ⟨w.heap.size+1,0,none⟩=some (.bool D)∧d.cell? ⟨w.heap.size,1,none⟩=some (.slice H A.length J)∧d.cell? ⟨w.heap.size+1,1,none⟩=some (.slice I B.length K):=fun d h=>
   ⟨h,(x1.below h (by omega)).c0,(x0.below h (by omega)).c1,(x1.below h (by omega)).c1⟩
  have HK:=ac hK
  have HA:=ac (hA.below F)
  have HB:=ac (hB.below F)
  have X2:=ac x2
  have ae:=ac F
  have ah:ai A≤ai B:=by omega
  clear hK hA hB x0 x1 x2 F
  go_region_held3(fun d=>Below (w.heap.size+2) U d∧d.cell? ⟨w.heap.size+1,0,none⟩=some (.bool D)∧d.cell? ⟨w.heap.size,1,none⟩=some (.slice H A.length J)∧d.cell? ⟨w.heap.size+1,1,none⟩=some (.slice I B.length K))
   (first|exact uH HK _ (Below.refl _ _).drew|exact uH HK _ (by assumption)|exact uH HK _ ((O.setCell (by simp) _).setCell (by simp) _))
   (first|(go_at_call 303;refine(kK I H K J B A _ ((uH HB).below ((Below.refl _ _).drew)) ((uH HA).below ((Below.refl _ _).drew)) lb la ah).mono ?_;rintro e w1 ⟨ax,ar,Y,rfl,g1,g2,g3,g4,G⟩;have am:Below (w.heap.size+2) U w1:=((Below.refl _ _).drew).trans (G.mono (by simp[X]));have X3:=ac ((uH X2).drew.below G (by simp[X]));have G1:=ac g1;have G2:=ac g2;have G4:=ac g4;have L4:Y.length≤35184372088832:=(by omega);have s1:=G.size;clear g1 g2 g4 g3 G)|(go_at_call 266;refine(jH _ D _ _ _ _ (uH G1) (uH G2) L4).mono ?_;rintro e w2 ⟨v,rfl,⟨n2,a2,c2,L2,rfl,i1⟩,N⟩;have O:Below (w.heap.size+2) U w2:=am.trans (N.mono (by simp at s1;omega));have Q:=(uH X3).below N (by simp at s1;omega);have y0:=Q.c0;have y1:=Q.c1;have f0:=Q.free 0;have f1:=Q.free 1;have I1:=ac i1;clear i1 N Q))
  have hz:=uH aa Y (uH G4)
  have HI:=ac (hz▸uH I1)
  have HE:=ac (show bD (af D Y)=bD z by rw[hz])
  clear hz
  go_wp2
  refine bodyPost_ret (v:=.tuple #[.agg #[.bool n2,.slice a2 L2.length c2],.int .i64 (bD (af D Y))]) (by simp[results,Tryz.results300,go_sem,y0,y1]) rfl ⟨.agg #[.bool n2,.slice a2 L2.length c2],?_,?_,?_⟩
  ·rw[uH HE]
  ·exact au.stored (uH HI) (by simp;omega) (by simp;omega) (by simp;omega) _ _
  ·exact(((uH ae).trans (O.mono (by omega))).setCell (by simp;omega) _).setCell (by simp;omega) _
 ·have aI:¬bt (ai A) (ai B)<0:=by unfold bt;rw[if_neg (by omega)];split<;>omega
  generalize bt (ai A) (ai B)=cm at*
  clear HC
  have aa:=ac (fun L h=>(uH HS).2 L h (by omega))
  clear HS
  go_wp2
  refine ap (fun W=>Below w.heap.size w W∧W.heap.size=w.heap.size+3∧aB W w.heap.size (.bool u) (.slice H A.length J)∧aB W (w.heap.size+1) (.bool D) (.slice I B.length K)∧aB W (w.heap.size+2) (.bool false) (.slice none 0 0)) ?_ ?_
  ·refine⟨below_drewN ((((Below.refl _ _).alloc (Nat.le_refl _) _).alloc (by simp) _).alloc (by simp;omega) _) _,by simp,(((aB.new _ _ _).old _).old _).drewN _,?_,?_⟩
   ·have:=((aB.new (w.alloc (.cells #[.bool u,.slice H A.length J] 33)) (.bool D) (.slice I B.length K)).old (.cells #[.bool false,.slice none 0 0] 33)).drewN m
    simpa using this
   ·have:=(aB.new ((w.alloc (.cells #[.bool u,.slice H A.length J] 33)).alloc (.cells #[.bool D,.slice I B.length K] 33)) (.bool false) (.slice none 0 0)).drewN m
    simpa using this
  rintro U ⟨F,X,x0,x1,x2⟩
  have hK:∀d,Below (w.heap.size+2) U d→Below (w.heap.size+2) U d∧d.cell? ⟨w.heap.size,0,none⟩=some (.bool u)∧d.cell? ⟨w.heap.size,1,none⟩=some (.slice H A.length J)∧d.cell? ⟨w.heap.size+1,1,none⟩=some (.slice I B.length K):=fun d h=>
   ⟨h,(x0.below h (by omega)).c0,(x0.below h (by omega)).c1,(x1.below h (by omega)).c1⟩
  have HK:=ac hK
  have HA:=ac (hA.below F)
  have HB:=ac (hB.below F)
  have X2:=ac x2
  have ae:=ac F
  have ah:ai B≤ai A:=by omega
  clear hK hA hB x0 x1 x2 F
  go_region_held3(fun d=>Below (w.heap.size+2) U d∧d.cell? ⟨w.heap.size,0,none⟩=some (.bool u)∧d.cell? ⟨w.heap.size,1,none⟩=some (.slice H A.length J)∧d.cell? ⟨w.heap.size+1,1,none⟩=some (.slice I B.length K))
   (first|exact uH HK _ (Below.refl _ _).drew|exact uH HK _ (by assumption)|exact uH HK _ ((O.setCell (by simp) _).setCell (by simp) _))
   (first|(go_at_call 303;refine(kK H I J K A B _ ((uH HA).below ((Below.refl _ _).drew)) ((uH HB).below ((Below.refl _ _).drew)) la lb ah).mono ?_;rintro e w1 ⟨ax,ar,Y,rfl,g1,g2,g3,g4,G⟩;have am:Below (w.heap.size+2) U w1:=((Below.refl _ _).drew).trans (G.mono (by simp[X]));have X3:=ac ((uH X2).drew.below G (by simp[X]));have G1:=ac g1;have G2:=ac g2;have G4:=ac g4;have L4:Y.length≤35184372088832:=(by omega);have s1:=G.size;clear g1 g2 g4 g3 G)|(go_at_call 266;refine(jH _ u _ _ _ _ (uH G1) (uH G2) L4).mono ?_;rintro e w2 ⟨v,rfl,⟨n2,a2,c2,L2,rfl,i1⟩,N⟩;have O:Below (w.heap.size+2) U w2:=am.trans (N.mono (by simp at s1;omega));have Q:=(uH X3).below N (by simp at s1;omega);have y0:=Q.c0;have y1:=Q.c1;have f0:=Q.free 0;have f1:=Q.free 1;have I1:=ac i1;clear i1 N Q))
  have hz:=uH aa Y (uH G4)
  have HI:=ac (hz▸uH I1)
  have HE:=ac (show bD (af u Y)=bD z by rw[hz])
  clear hz
  go_wp2
  refine bodyPost_ret (v:=.tuple #[.agg #[.bool n2,.slice a2 L2.length c2],.int .i64 (bD (af u Y))]) (by simp[results,Tryz.results300,go_sem,y0,y1]) rfl ⟨.agg #[.bool n2,.slice a2 L2.length c2],?_,?_,?_⟩
  ·rw[uH HE]
  ·exact au.stored (uH HI) (by simp;omega) (by simp;omega) (by simp;omega) _ _
  ·exact(((uH ae).trans (O.mono (by omega))).setCell (by simp;omega) _).setCell (by simp;omega) _
theorem pG(d h:Bool)(u z:Option Addr)(D F:Nat)(A B:List Nat)(w:World)(G:ag w u D A)(H:ag w z F B)(I:A.length≤35184372088830)(J:B.length≤35184372088830)(N:bQ A)(cB:bQ B):
  Calls Tryz.prog 300 #[.agg #[.bool d,.slice u A.length D],.agg #[.bool h,.slice z B.length F]] w fun e K=>∃v,e=.returned (.tuple #[v,.int .i64 (bD (af d A+af h B))])∧au w.heap.size K v (dR (af d A+af h B))∧Below w.heap.size w K:=by
 by_cases L:d=h
 ·subst L;exact nY d u z D F A B w G H I J
 ·exact nZ d h u z D F A B w G H I J N cB L
theorem sZ(d:Bool)(G H:Option Addr)(I J:Nat)(A B:List Nat)(w:World)(hA:ag w G I A)(hB:ag w H J B)(la:A.length≤35184372088830)(lb:B.length≤35184372088830):
  Calls Tryz.prog 56 #[.agg #[.bool d,.slice G A.length I],.agg #[.bool d,.slice H B.length J]] w fun e u=>∃v,e=.returned v∧aJ (max A.length B.length+1) w.heap.size u v (af d A+af d B)∧Below w.heap.size w u:=by
 have K:∀L:List Nat,ai L=ai A+ai B→af d L=af d A+af d B:=by
  intro L h;unfold af;cases d<;>simp[h]<;>omega
 have HS:=ac K
 clear K
 generalize af d A+af d B=z at*
 go_enter Tryz.func56,Tryz.ntmps56
 go_wp2
 refine ap (fun W=>Below w.heap.size w W∧W.heap.size=w.heap.size+3∧aB W w.heap.size (.bool d) (.slice G A.length I)∧aB W (w.heap.size+1) (.bool d) (.slice H B.length J)∧aB W (w.heap.size+2) (.bool false) (.slice none 0 0)) ?_ ?_
 ·refine⟨((((Below.refl _ _).alloc (Nat.le_refl _) _).alloc (by simp) _).alloc (by simp;omega) _),by simp,((aB.new _ _ _).old _).old _,?_,?_⟩
  ·have:=(aB.new (w.alloc (.cells #[.bool d,.slice G A.length I] 33)) (.bool d) (.slice H B.length J)).old (.cells #[.bool false,.slice none 0 0] 33)
   simpa using this
  ·have:=aB.new ((w.alloc (.cells #[.bool d,.slice G A.length I] 33)).alloc (.cells #[.bool d,.slice H B.length J] 33)) (.bool false) (.slice none 0 0)
   simpa using this
 rintro U ⟨D,X,x0,x1,x2⟩
 have hK:∀u,Below (w.heap.size+2) U u→Below (w.heap.size+2) U u∧u.cell? ⟨w.heap.size,0,none⟩=some (.bool d)∧u.cell? ⟨w.heap.size,1,none⟩=some (.slice G A.length I)∧u.cell? ⟨w.heap.size+1,1,none⟩=some (.slice H B.length J):=fun u h=>
  ⟨h,(x0.below h (by omega)).c0,(x0.below h (by omega)).c1,(x1.below h (by omega)).c1⟩
 have Y:=ac hK
 have HA:=ac (hA.below D)
 have HB:=ac (hB.below D)
 have X2:=ac x2
 have Z:=ac D
 clear hK hA hB x0 x1 x2 D
 go_region_held3(fun u=>Below (w.heap.size+2) U u∧u.cell? ⟨w.heap.size,0,none⟩=some (.bool d)∧u.cell? ⟨w.heap.size,1,none⟩=some (.slice G A.length I)∧u.cell? ⟨w.heap.size+1,1,none⟩=some (.slice H B.length J))
  (first|exact uH Y _ (Below.refl _ _).drew|exact uH Y _ (by assumption)|exact uH Y _ ((O.setCell (by simp) _).setCell (by simp) _))
  (first|(go_at_call 107;refine(nX G H I J A B _ ((uH HA).below ((Below.refl _ _).drew)) ((uH HB).below ((Below.refl _ _).drew)) la lb).mono ?_;rintro e w1 ⟨ah,ae,L',rfl,g1,g2,g3,g4,F⟩;have aa:Below (w.heap.size+2) U w1:=((Below.refl _ _).drew).trans (F.mono (by simp[X]));have X3:=ac ((uH X2).drew.below F (by simp[X]));have G1:=ac g1;have G2:=ac g2;have G4:=ac g4;have L4:L'.length≤35184372088832:=(by omega);have L5:L'.length≤max A.length B.length+1:=(by omega);have s1:=F.size;clear g1 g2 g4 g3 F)|(go_at_call 65;refine(cZ _ d _ _ _ _ (uH G1) (uH G2) L4).mono ?_;rintro e w2 ⟨v,rfl,⟨n2,a2,c2,L2,rfl,i1⟩,N⟩;have O:Below (w.heap.size+2) U w2:=aa.trans (N.mono (by simp at s1;omega));have Q:=(uH X3).below N (by simp at s1;omega);have y0:=Q.c0;have y1:=Q.c1;have f0:=Q.free 0;have f1:=Q.free 1;have I1:=ac i1;clear i1 N Q))
 have hz:=uH HS L' (uH G4)
 have HI:=ac (hz▸uH I1)
 clear hz
 go_wp2
 refine bodyPost_ret (v:=.agg #[.bool n2,.slice a2 L2.length c2]) (by simp[results,Tryz.results56,go_sem,y0,y1]) rfl ⟨.agg #[.bool n2,.slice a2 L2.length c2],rfl,?_,?_⟩
 ·exact(aJ.stored (uH HI) (by simp;omega) (by simp;omega) (by simp;omega) _ _).more (by have:=L5;omega)
 ·exact(((uH Z).trans (O.mono (by omega))).setCell (by simp;omega) _).setCell (by simp;omega) _
theorem tc(F G:Bool)(H I:Option Addr)(J K:Nat)(A B:List Nat)(w:World)(hA:ag w H J A)(hB:ag w I K B)(la:A.length≤35184372088830)(lb:B.length≤35184372088830)(hn:F≠G):
  Calls Tryz.prog 56 #[.agg #[.bool F,.slice H A.length J],.agg #[.bool G,.slice I B.length K]] w fun e d=>∃v,e=.returned v∧aJ (max A.length B.length+1) w.heap.size d v (af F A+af G B)∧Below w.heap.size w d:=by
 have Y:(∀L:List Nat,ai L=ai B-ai A→ai A<ai B→af G L=af F A+af G B)∧(∀L:List Nat,ai L=ai A-ai B→ai B≤ai A→af F L=af F A+af G B):=by
  constructor<;>intro L h h'<;>unfold af<;>cases F<;>cases G<;>simp at hn<;>simp[h]<;>omega
 have HS:=ac Y
 clear Y
 generalize af F A+af G B=z at*
 have ar:(F==G)=false:=by simpa using hn
 clear hn
 go_enter Tryz.func56,Tryz.ntmps56
 go_wp2_with fail
 refine(Bb H I J K A B _ (hA.below ?_) (hB.below ?_) (by omega) (by omega)).mono ?_
 ·exact(((Below.refl _ _).alloc (Nat.le_refl _) _).alloc (by simp) _).alloc (by simp;omega) _
 ·exact(((Below.refl _ _).alloc (Nat.le_refl _) _).alloc (by simp) _).alloc (by simp;omega) _
 rintro e d ⟨rfl,rfl⟩
 by_cases hv:ai A<ai B
 ·rw[dL (by omega)]
  have Z:=ac (fun L h=>(uH HS).1 L h hv)
  clear HS
  go_wp2
  refine ap (fun W=>Below w.heap.size w W∧W.heap.size=w.heap.size+3∧aB W w.heap.size (.bool F) (.slice H A.length J)∧aB W (w.heap.size+1) (.bool G) (.slice I B.length K)∧aB W (w.heap.size+2) (.bool false) (.slice none 0 0)) ?_ ?_
  ·refine⟨((((Below.refl _ _).alloc (Nat.le_refl _) _).alloc (by simp) _).alloc (by simp;omega) _),by simp,(((aB.new _ _ _).old _).old _),?_,?_⟩
   ·have:=((aB.new (w.alloc (.cells #[.bool F,.slice H A.length J] 33)) (.bool G) (.slice I B.length K)).old (.cells #[.bool false,.slice none 0 0] 33))
    simpa using this
   ·have:=(aB.new ((w.alloc (.cells #[.bool F,.slice H A.length J] 33)).alloc (.cells #[.bool G,.slice I B.length K] 33)) (.bool false) (.slice none 0 0))
    simpa using this
  rintro U ⟨u,X,x0,x1,x2⟩
  have hK:∀d,Below (w.heap.size+2) U d→Below (w.heap.size+2) U d∧d.cell? ⟨w.heap.size+1,0,none⟩=some (.bool G)∧d.cell? ⟨w.heap.size,1,none⟩=some (.slice H A.length J)∧d.cell? ⟨w.heap.size+1,1,none⟩=some (.slice I B.length K):=fun d h=>
   ⟨h,(x1.below h (by omega)).c0,(x0.below h (by omega)).c1,(x1.below h (by omega)).c1⟩
  have HK:=ac hK
  have HA:=ac (hA.below u)
  have HB:=ac (hB.below u)
  have X2:=ac x2
  have aa:=ac u
  have ae:ai A≤ai B:=by omega
  clear hK hA hB x0 x1 x2 u
  go_region_held3(fun d=>Below (w.heap.size+2) U d∧d.cell? ⟨w.heap.size+1,0,none⟩=some (.bool G)∧d.cell? ⟨w.heap.size,1,none⟩=some (.slice H A.length J)∧d.cell? ⟨w.heap.size+1,1,none⟩=some (.slice I B.length K))
   (first|exact uH HK _ (Below.refl _ _).drew|exact uH HK _ (by assumption)|exact uH HK _ ((O.setCell (by simp) _).setCell (by simp) _))
   (first|(go_at_call 110;refine(ql I H K J B A _ ((uH HB).below ((Below.refl _ _).drew)) ((uH HA).below ((Below.refl _ _).drew)) lb la ae).mono ?_;rintro e w1 ⟨an,am,L',rfl,g1,g2,g3,g4,D⟩;have ah:Below (w.heap.size+2) U w1:=((Below.refl _ _).drew).trans (D.mono (by simp[X]));have X3:=ac ((uH X2).drew.below D (by simp[X]));have G1:=ac g1;have G2:=ac g2;have G4:=ac g4;have L4:L'.length≤35184372088832:=(by omega);have L5:L'.length≤max A.length B.length+1:=(by omega);have s1:=D.size;clear g1 g2 g4 g3 D)|(go_at_call 65;refine(cZ _ G _ _ _ _ (uH G1) (uH G2) L4).mono ?_;rintro e w2 ⟨v,rfl,⟨n2,a2,c2,L2,rfl,i1⟩,N⟩;have O:Below (w.heap.size+2) U w2:=ah.trans (N.mono (by simp at s1;omega));have Q:=(uH X3).below N (by simp at s1;omega);have y0:=Q.c0;have y1:=Q.c1;have f0:=Q.free 0;have f1:=Q.free 1;have I1:=ac i1;clear i1 N Q))
  have hz:=uH Z L' (uH G4)
  have HI:=ac (hz▸uH I1)
  clear hz
  go_wp2
  refine bodyPost_ret (v:=.agg #[.bool n2,.slice a2 L2.length c2]) (by simp[results,Tryz.results56,go_sem,y0,y1]) rfl ⟨.agg #[.bool n2,.slice a2 L2.length c2],rfl,?_,?_⟩
  ·exact(aJ.stored (uH HI) (by simp;omega) (by simp;omega) (by simp;omega) _ _).more (by have:=L5;omega)
  ·exact(((uH aa).trans (O.mono (by omega))).setCell (by simp;omega) _).setCell (by simp;omega) _
 ·have ax:¬bt (ai A) (ai B)<0:=by unfold bt;rw[if_neg (by omega)];split<;>omega
  generalize bt (ai A) (ai B)=cm at*
  have Z:=ac (fun L h=>(uH HS).2 L h (by omega))
  clear HS
  go_wp2
  refine ap (fun W=>Below w.heap.size w W∧W.heap.size=w.heap.size+3∧aB W w.heap.size (.bool F) (.slice H A.length J)∧aB W (w.heap.size+1) (.bool G) (.slice I B.length K)∧aB W (w.heap.size+2) (.bool false) (.slice none 0 0)) ?_ ?_
  ·refine⟨((((Below.refl _ _).alloc (Nat.le_refl _) _).alloc (by simp) _).alloc (by simp;omega) _),by simp,(((aB.new _ _ _).old _).old _),?_,?_⟩
   ·have:=((aB.new (w.alloc (.cells #[.bool F,.slice H A.length J] 33)) (.bool G) (.slice I B.length K)).old (.cells #[.bool false,.slice none 0 0] 33))
    simpa using this
   ·have:=(aB.new ((w.alloc (.cells #[.bool F,.slice H A.length J] 33)).alloc (.cells #[.bool G,.slice I B.length K] 33)) (.bool false) (.slice none 0 0))
    simpa using this
  rintro U ⟨u,X,x0,x1,x2⟩
  have hK:∀d,Below (w.heap.size+2) U d→Below (w.heap.size+2) U d∧d.cell? ⟨w.heap.size,0,none⟩=some (.bool F)∧d.cell? ⟨w.heap.size,1,none⟩=some (.slice H A.length J)∧d.cell? ⟨w.heap.size+1,1,none⟩=some (.slice I B.length K):=fun d h=>
   ⟨h,(x0.below h (by omega)).c0,(x0.below h (by omega)).c1,(x1.below h (by omega)).c1⟩
  have HK:=ac hK
  have HA:=ac (hA.below u)
  have HB:=ac (hB.below u)
  have X2:=ac x2
  have aa:=ac u
  have ae:ai B≤ai A:=by omega
  clear hK hA hB x0 x1 x2 u
  go_region_held3(fun d=>Below (w.heap.size+2) U d∧d.cell? ⟨w.heap.size,0,none⟩=some (.bool F)∧d.cell? ⟨w.heap.size,1,none⟩=some (.slice H A.length J)∧d.cell? ⟨w.heap.size+1,1,none⟩=some (.slice I B.length K))
   (first|exact uH HK _ (Below.refl _ _).drew|exact uH HK _ (by assumption)|exact uH HK _ ((O.setCell (by simp) _).setCell (by simp) _))
   (first|(go_at_call 110;refine(ql H I J K A B _ ((uH HA).below ((Below.refl _ _).drew)) ((uH HB).below ((Below.refl _ _).drew)) la lb ae).mono ?_;rintro e w1 ⟨an,am,L',rfl,g1,g2,g3,g4,D⟩;have ah:Below (w.heap.size+2) U w1:=((Below.refl _ _).drew).trans (D.mono (by simp[X]));have X3:=ac ((uH X2).drew.below D (by simp[X]));have G1:=ac g1;have G2:=ac g2;have G4:=ac g4;have L4:L'.length≤35184372088832:=(by omega);have L5:L'.length≤max A.length B.length+1:=(by omega);have s1:=D.size;clear g1 g2 g4 g3 D)|(go_at_call 65;refine(cZ _ F _ _ _ _ (uH G1) (uH G2) L4).mono ?_;rintro e w2 ⟨v,rfl,⟨n2,a2,c2,L2,rfl,i1⟩,N⟩;have O:Below (w.heap.size+2) U w2:=ah.trans (N.mono (by simp at s1;omega));have Q:=(uH X3).below N (by simp at s1;omega);have y0:=Q.c0;have y1:=Q.c1;have f0:=Q.free 0;have f1:=Q.free 1;have I1:=ac i1;clear i1 N Q))
  have hz:=uH Z L' (uH G4)
  have HI:=ac (hz▸uH I1)
  clear hz
  go_wp2
  refine bodyPost_ret (v:=.agg #[.bool n2,.slice a2 L2.length c2]) (by simp[results,Tryz.results56,go_sem,y0,y1]) rfl ⟨.agg #[.bool n2,.slice a2 L2.length c2],rfl,?_,?_⟩
  ·exact(aJ.stored (uH HI) (by simp;omega) (by simp;omega) (by simp;omega) _ _).more (by have:=L5;omega)
  ·exact(((uH aa).trans (O.mono (by omega))).setCell (by simp;omega) _).setCell (by simp;omega) _
theorem vD(d h:Bool)(u z:Option Addr)(D F:Nat)(A B:List Nat)(w:World)(G:ag w u D A)(H:ag w z F B)(I:A.length≤35184372088830)(J:B.length≤35184372088830):
  Calls Tryz.prog 56 #[.agg #[.bool d,.slice u A.length D],.agg #[.bool h,.slice z B.length F]] w fun e K=>∃v,e=.returned v∧aJ (max A.length B.length+1) w.heap.size K v (af d A+af h B)∧Below w.heap.size w K:=by
 by_cases L:d=h
 ·subst L;exact sZ d u z D F A B w G H I J
 ·exact tc d h u z D F A B w G H I J L
def vE(na:Bool)(A:List Nat)(nb:Bool)(B:List Nat):Int:=if av na A&&av nb B then 0 else 1
theorem j0(d D:Bool)(J G:Option Addr)(K H:Nat)(A B:List Nat)(w:World)(U:ag w J K A)(X:ag w G H B)(Y:A.length≤35184372088830)(Z:B.length≤35184372088830):
  Calls Tryz.prog 296 #[.agg #[.bool d,.slice J A.length K],.agg #[.bool D,.slice G B.length H]] w fun e w'=>e=.returned (.int .i64 (vE d A D B))∧Below w.heap.size w w':=by
 have Q:(av d A=false→vE d A D B=1)∧(av d A=true→vE d A D B=eO D B):=by
  constructor<;>intro h<;>simp[vE,eO,h]
 have I:=ac Q
 clear Q
 generalize vE d A D B=r at*
 go_enter Tryz.func296,Tryz.ntmps296
 go_wp2_with fail
 refine(ew d J K A _ (U.below (((Below.refl _ _).alloc (Nat.le_refl _) _).alloc (by simp) _)) Y).mono ?_
 rintro e N ⟨rfl,z⟩
 have u:Below w.heap.size w N:=(((Below.refl _ _).alloc (Nat.le_refl _) _).alloc (by simp) _).trans (z.mono (by simp;omega))
 have aa:N.cell? ⟨w.heap.size+1,0,none⟩=some (.bool D):=by rw[z.cell (p:=⟨w.heap.size+1,0,none⟩) (by simp)];simp[go_sem]
 have ae:N.cell? ⟨w.heap.size+1,1,none⟩=some (.slice G B.length H):=by rw[z.cell (p:=⟨w.heap.size+1,1,none⟩) (by simp)];simp[go_sem]
 clear z
 cases hr:av d A
 ·have L:=ac ((uH I).1 hr)
  have F:eO d A=1:=by simp[eO,hr]
  rw[F]
  clear F hr I
  go_wp2
  go_ret
  exact⟨aW (uH L).symm,u⟩
 ·have L:=ac ((uH I).2 hr)
  have F:eO d A=0:=by simp[eO,hr]
  rw[F]
  clear F hr I
  go_wp2_with fail
  refine(ew D G H B _ (X.below u) Z).mono ?_
  rintro e w2 ⟨rfl,O⟩
  go_wp2
  go_ret
  exact⟨aW (uH L).symm,u.trans (O.mono u.size)⟩
end Go.Proofs.YtcbcmlaogehimaaGreatDoor
namespace Go.Proofs.YtcbcmlaogehimaaGreatDoor
open Go.RowKit
def qm(ok:Bool)(z:Int):Int:=if ok then bD z else 1
def qp(ok:Bool)(z:Int):Int:=if ok then dR z else 0
theorem gJ(z:Int):qm true z=bD z:=by unfold qm;rw[if_pos rfl]
theorem gK(z:Int):qp true z=dR z:=by unfold qp;rw[if_pos rfl]
theorem mM(z:Int):qm false z=1:=by unfold qm;rw[if_neg (by decide)]
theorem mN(z:Int):qp false z=0:=by unfold qp;rw[if_neg (by decide)]
theorem ay{neg:Bool}{L:List Nat}(h:av neg L=true):L.length≤512∧bQ L∧(neg=true→L≠ []):=by
 simp only[av,Bool.and_eq_true,decide_eq_true_eq,Bool.not_eq_true',Bool.and_eq_false_iff,decide_eq_false_iff_not,Bool.or_eq_true]at h
 obtain⟨⟨z,d⟩,u⟩:=h
 refine⟨z,?_,?_⟩
 ·rcases u with u|u
  ·exact .inl (List.length_eq_zero_iff.1 u)
  ·exact .inr u
 ·rintro A rfl
  rcases d with d|d
  ·simp at d
  ·rw[A]at d;cases d
theorem Bc(d:Bool)(B:List Nat):af (!d) B= -af d B:=by unfold af;cases d<;>simp
theorem Fj(u z:Bool)(G H:Option Addr)(I J:Nat)(A B:List Nat)(w:World)(Z:ag w G I A)(hB:ag w H J B)(la:A.length≤35184372088830)(lb:B.length≤35184372088830):
  Calls Tryz.prog 295 #[.agg #[.bool u,.slice G A.length I],.agg #[.bool z,.slice H B.length J]] w fun e w'=>∃v,e=.returned (.tuple #[v,.int .i64 (qm (av u A&&av z B) (af u A+af z B))])∧au w.heap.size w' v (qp (av u A&&av z B) (af u A+af z B))∧Below w.heap.size w w':=by
 have hC:(av u A&&av z B)=true→bQ A∧bQ B:=fun h=>by
  simp only[Bool.and_eq_true]at h;exact⟨(ay h.1).2.1,(ay h.2).2.1⟩
 have HC:=ac hC
 have H2:=ac (show vE u A z B=if(av u A&&av z B)then 0 else 1 from rfl)
 clear hC
 generalize Y:(av u A&&av z B)=ok at*
 clear Y
 go_enter Tryz.func295,Tryz.ntmps295
 go_wp2_with fail
 have F:Below w.heap.size w (((w.alloc (.cells #[.bool u,.slice G A.length I] 33)).alloc (.cells #[.bool z,.slice H B.length J] 33)).alloc (.cells #[.bool false,.slice none 0 0] 33)):=
  (((Below.refl _ _).alloc (Nat.le_refl _) _).alloc (by simp) _).alloc (by simp;omega) _
 refine(j0 u z G H I J A B _ (Z.below F) (hB.below F) la lb).mono ?_
 rintro e K ⟨rfl,d⟩
 have aa:w.heap.size+3≤K.heap.size:=by have:=d.size;simpa using this
 have D:Below w.heap.size w K:=F.trans (d.mono (by simp;omega))
 have p0:K.cell? ⟨w.heap.size,0,none⟩=some (.bool u):=by rw[d.cell (p:=⟨w.heap.size,0,none⟩) (by simp;omega)];simp[go_sem]
 have p1:K.cell? ⟨w.heap.size,1,none⟩=some (.slice G A.length I):=by rw[d.cell (p:=⟨w.heap.size,1,none⟩) (by simp;omega)];simp[go_sem]
 have q0:K.cell? ⟨w.heap.size+1,0,none⟩=some (.bool z):=by rw[d.cell (p:=⟨w.heap.size+1,0,none⟩) (by simp)];simp[go_sem]
 have q1:K.cell? ⟨w.heap.size+1,1,none⟩=some (.slice H B.length J):=by rw[d.cell (p:=⟨w.heap.size+1,1,none⟩) (by simp)];simp[go_sem]
 have L:aB K (w.heap.size+2) (.bool false) (.slice none 0 0):=by
  have:=aB.new ((w.alloc (.cells #[.bool u,.slice G A.length I] 33)).alloc (.cells #[.bool z,.slice H B.length J] 33)) (.bool false) (.slice none 0 0)
  exact aB.below (by simpa using this) d (by simp)
 rw[uH H2]
 clear d H2 F
 cases ok
 ·simp only[Bool.false_eq_true,if_false]
  have Q:=L.c0;have U:=L.c1;have f0:=L.free 0;have f1:=L.free 1
  go_wp2
  refine bodyPost_ret (v:=.tuple #[.agg #[.bool false,.slice none 0 0],.int .i64 1]) (by simp[results,Tryz.results295,go_sem,Q,U]) rfl ⟨.agg #[.bool false,.slice none 0 0],by rw[mM],by rw[mN];exact au.zero _ _ _ _,?_⟩
  exact(D.setCell (by simp;omega) _).setCell (by simp;omega) _
 ·obtain⟨cA,cB⟩:=uH HC rfl
  have CA:=ac cA
  have CB:=ac cB
  clear cA cB
  simp only[if_true]
  go_wp2_with fail
  refine(pG u z G H I J A B _ (Z.below D) (hB.below D) la lb (uH CA) (uH CB)).mono ?_
  rintro e w2 ⟨v,rfl,⟨n2,a2,c2,L2,rfl,i1⟩,N⟩
  have O:=L.below N (by omega)
  have Q:=O.c0;have U:=O.c1;have f0:=O.free 0;have f1:=O.free 1
  have I1:=ac i1
  have X:=D.trans (N.mono D.size)
  clear i1
  go_wp2
  refine bodyPost_ret (v:=.tuple #[.agg #[.bool n2,.slice a2 L2.length c2],.int .i64 (bD (af u A+af z B))]) (by simp[results,Tryz.results295,go_sem,Q,U]) rfl ⟨.agg #[.bool n2,.slice a2 L2.length c2],by rw[gJ],?_,?_⟩
  ·rw[gK];exact au.stored (uH I1) (by simp;omega) (by simp;omega) (by omega) _ _
  ·exact(X.setCell (by simp;omega) _).setCell (by simp;omega) _
attribute [local go_sem ↓] Go.wp_at_zero Go.wp_at_succ
theorem ag.box{w:World}{F:Option Addr}{z g:Nat}{L:List Nat}(h:ag w F z L){x:Bool}{a:Option Addr}{n c:Nat}(I:aB w g (.bool x) (.slice a n c))(u J:Value):
  ag ((w.setCell ⟨g,0,none⟩ u).setCell ⟨g,1,none⟩ J) F z L:=by
 refine⟨h.1,h.2.1,?_⟩
 rcases h.2.2 with O|⟨b,d,Q,U,H⟩
 ·exact .inl O
 ·by_cases G:L= []
  ·exact .inl G
  ·have N:0<L.length:=List.length_pos_iff.2 G
   have A:b≠g:=by
    rintro rfl
    have D:=H 0 N
    rw[cell_of_row w b (d+0) _ _ _ I]at D
    rcases(show d=0∨d=1∨2≤d by omega)with e|e|e
    ·subst e;simp at D
    ·subst e;simp at D
    ·rw[Array.getElem?_eq_none (by simp;omega)]at D;simp at D
   refine .inr ⟨b,d,Q,by simpa[World.setCell]using U,fun i K=>?_⟩
   rw[bc _ _ _ _ (by simpa using A),bc _ _ _ _ (by simpa using A)]
   exact H i K
theorem oc(u:Bool)(A:Option Addr)(D:Nat)(B:List Nat)(w:World)(K:ag w A D B)(lb:B.length≤35184372088830):
  Calls Tryz.prog 116 #[.agg #[.bool u,.slice A B.length D]] w fun e L=>∃v,e=.returned v∧aJ B.length 0 L v (-af u B)∧Below w.heap.size w L:=by
 have Q:=ac (Bc u B)
 go_enter Tryz.func116,Tryz.ntmps116
 go_wp2_with fail
 have d:Below w.heap.size w ((w.alloc (.cells #[.bool u,.slice A B.length D] 33)).alloc (.cells #[.bool false,.slice none 0 0] 33)):=((Below.refl _ _).alloc (Nat.le_refl _) _).alloc (by simp) _
 refine(cZ 0 (!u) A D B _ (K.below d) (bC.zero K) (by omega)).mono ?_
 rw[uH Q]
 rintro e Z ⟨v,rfl,⟨G,H,I,J,rfl,O⟩,h⟩
 have z:aB Z (w.heap.size+1) (.bool false) (.slice none 0 0):=by
  have:=aB.new (w.alloc (.cells #[.bool u,.slice A B.length D] 33)) (.bool false) (.slice none 0 0)
  exact aB.below (by simpa using this) h (by simp)
 have U:=z.c0;have X:=z.c1;have f0:=z.free 0;have f1:=z.free 1
 have N:=ac O
 have Y:=ac z
 have F:=ac (d.trans (h.mono (by simp;omega)))
 clear O h d z
 go_wp2
 refine bodyPost_ret (v:=.agg #[.bool G,.slice H J.length I]) (by simp[results,Tryz.results116,go_sem,U,X]) rfl ⟨.agg #[.bool G,.slice H J.length I],rfl,?_,?_⟩
 ·exact⟨G,H,I,J,rfl,(uH N).1.box (uH Y) _ _,(uH N).2⟩
 ·exact((uH F).setCell (by simp) _).setCell (by simp) _
end Go.Proofs.YtcbcmlaogehimaaGreatDoor
namespace Go.Proofs.YtcbcmlaogehimaaGreatDoor
open Go.RowKit
set_option maxRecDepth 100000 in
theorem yY(x:Int)(w:World)(J:0≤x)(K:x≤4294967295):
  Calls Tryz.prog 240 #[.int .u32 x] w fun e G=>e=.returned (.int .i64 (Lib.bitLen x.toNat))∧w=G:=by
 rcases(show x<256∨(256≤x∧x<65536)∨(65536≤x∧x<16777216)∨16777216≤x by omega)with h|⟨H,I⟩|⟨H,I⟩|h
 ·have F:=fun w=>Lib.run_index_len8tab (P:=Tryz.prog) w 9 .u8 (x) Tryz.underlying9 (by omega) (by omega)
  have d:=Lib.len8_eq ⟨(x).toNat,by omega⟩
  have u:=Lib.bitLen_le8 ⟨(x).toNat,by omega⟩
  have z:0≤Lib.len8 (x):=by simp only[Int.toNat_of_nonneg (show 0≤x by omega)]at d;rw[d];omega
  have A:Lib.len8 (x)≤8:=by simp only[Int.toNat_of_nonneg (show 0≤x by omega)]at d;rw[d];simp only at u;omega
  have D:Hid (Lib.len8 (x)=(Lib.bitLen (x).toNat:Int)):=by unfold Hid;simp only[Int.toNat_of_nonneg (show 0≤x by omega)]at d;exact d
  clear d u
  go_enter Tryz.func240,Tryz.ntmps240
  go_wp2
  go_ret
  refine⟨aW ?_,rfl⟩
  rw[D.out]
 ·have F:=fun w=>Lib.run_index_len8tab (P:=Tryz.prog) w 9 .u8 (x/256) Tryz.underlying9 (by omega) (by omega)
  have d:=Lib.len8_eq ⟨(x/256).toNat,by omega⟩
  have u:=Lib.bitLen_le8 ⟨(x/256).toNat,by omega⟩
  have z:0≤Lib.len8 (x/256):=by simp only[Int.toNat_of_nonneg (show 0≤x/256 by omega)]at d;rw[d];omega
  have A:Lib.len8 (x/256)≤8:=by simp only[Int.toNat_of_nonneg (show 0≤x/256 by omega)]at d;rw[d];simp only at u;omega
  have D:Hid (Lib.len8 (x/256)=(Lib.bitLen (x/256).toNat:Int)):=by unfold Hid;simp only[Int.toNat_of_nonneg (show 0≤x/256 by omega)]at d;exact d
  clear d u
  go_enter Tryz.func240,Tryz.ntmps240
  go_wp2
  go_ret
  refine⟨aW ?_,rfl⟩
  rw[D.out]
  have s:=Lib.bitLen_shift8 x.toNat (by omega) (by omega)
  rw[show(x/256).toNat=x.toNat/256 by omega]
  omega
 ·have F:=fun w=>Lib.run_index_len8tab (P:=Tryz.prog) w 9 .u8 (x/65536) Tryz.underlying9 (by omega) (by omega)
  have d:=Lib.len8_eq ⟨(x/65536).toNat,by omega⟩
  have u:=Lib.bitLen_le8 ⟨(x/65536).toNat,by omega⟩
  have z:0≤Lib.len8 (x/65536):=by simp only[Int.toNat_of_nonneg (show 0≤x/65536 by omega)]at d;rw[d];omega
  have A:Lib.len8 (x/65536)≤8:=by simp only[Int.toNat_of_nonneg (show 0≤x/65536 by omega)]at d;rw[d];simp only at u;omega
  have D:Hid (Lib.len8 (x/65536)=(Lib.bitLen (x/65536).toNat:Int)):=by unfold Hid;simp only[Int.toNat_of_nonneg (show 0≤x/65536 by omega)]at d;exact d
  clear d u
  go_enter Tryz.func240,Tryz.ntmps240
  go_wp2
  go_ret
  refine⟨aW ?_,rfl⟩
  rw[D.out]
  have s:=Lib.bitLen_shift16 x.toNat (by omega) (by omega)
  rw[show(x/65536).toNat=x.toNat/65536 by omega]
  omega
 ·have F:=fun w=>Lib.run_index_len8tab (P:=Tryz.prog) w 9 .u8 (x/65536/256) Tryz.underlying9 (by omega) (by omega)
  have d:=Lib.len8_eq ⟨(x/65536/256).toNat,by omega⟩
  have u:=Lib.bitLen_le8 ⟨(x/65536/256).toNat,by omega⟩
  have z:0≤Lib.len8 (x/65536/256):=by simp only[Int.toNat_of_nonneg (show 0≤x/65536/256 by omega)]at d;rw[d];omega
  have A:Lib.len8 (x/65536/256)≤8:=by simp only[Int.toNat_of_nonneg (show 0≤x/65536/256 by omega)]at d;rw[d];simp only at u;omega
  have D:Hid (Lib.len8 (x/65536/256)=(Lib.bitLen (x/65536/256).toNat:Int)):=by unfold Hid;simp only[Int.toNat_of_nonneg (show 0≤x/65536/256 by omega)]at d;exact d
  clear d u
  go_enter Tryz.func240,Tryz.ntmps240
  go_wp2
  go_ret
  refine⟨aW ?_,rfl⟩
  rw[D.out]
  have s:=Lib.bitLen_shift24 x.toNat (by omega) (by omega)
  rw[show(x/65536/256).toNat=x.toNat/16777216 by omega]
  omega
theorem mO:∀(f x:Nat),x<2^f→Lib.bitLenAux (f+1) x=Lib.bitLenAux f x
 |0,x,h=>by simp at h;subst h;rfl
 |f+1,x,h=>by
  have d:=mO f (x/2) (by rw[Nat.pow_succ]at h;omega)
  have u:Lib.bitLenAux (f+1+1) x=if x=0 then 0 else 1+Lib.bitLenAux (f+1) (x/2):=rfl
  have z:Lib.bitLenAux (f+1) x=if x=0 then 0 else 1+Lib.bitLenAux f (x/2):=rfl
  rw[u,z,d]
theorem mP(t:Nat)(u:0<t)(h:t<4294967296):Lib.bitLen t=1+Lib.bitLen (t/2):=by
 have d:Lib.bitLen t=1+Lib.bitLenAux 63 (t/2):=by
  unfold Lib.bitLen
  rw[Lib.bitLenAux,if_neg (by omega)]
 rw[d]
 unfold Lib.bitLen
 rw[←mO 63 (t/2) (by omega)]
theorem td:Lib.bitLen 0=0:=rfl
theorem mh(t:Nat):Lib.bitLen t≤64:=by
 have:∀f x,Lib.bitLenAux f x≤f:=by
  intro f
  induction f with
  |zero=>intro x;simp[Lib.bitLenAux]
  |succ f ih=>intro x;rw[Lib.bitLenAux];split;omega;have:=ih (x/2);omega
 exact this 64 t
def dW(L:List Nat):Int:=if L.length=0 then 0 else 32*((L.length:Int)-1)+(Lib.bitLen (L[L.length-1]?.getD 0):Int)
theorem qZ(neg:Bool)(z:Option Addr)(d:Nat)(L:List Nat)(w:World)(h:ag w z d L)(N:L.length≤35184372088830):
  Calls Tryz.prog 208 #[.agg #[.bool neg,.slice z L.length d]] w fun e A=>e=.returned (.int .i64 (dW L))∧Below w.heap.size w A:=by
 by_cases u:L= []
 ·subst u
  go_enter Tryz.func208,Tryz.ntmps208
  go_wp2
  go_ret
  exact⟨aW (by simp[dW]),(Below.refl _ _).alloc (Nat.le_refl _) _⟩
 obtain⟨b,J,rfl,U,D⟩:=h.ne (List.length_pos_iff.2 u)
 have O:0<L.length:=List.length_pos_iff.2 u
 have F:=D (L.length-1) (by omega)
 have Q:=h.lt (L.length-1)
 have G:Hid (dW L=32*((L.length:Int)-1)+(Lib.bitLen (L[L.length-1]?.getD 0):Int)):=by unfold Hid dW;rw[if_neg (by omega)]
 generalize dW L=r at*
 generalize K:L.length=n at*
 generalize L[n-1]?.getD 0=x at*
 clear K h D u
 have H:=mh x
 have I:((n:Int)==0)=false:=by simp;omega
 go_enter Tryz.func208,Tryz.ntmps208
 go_wp2_with(go_at_call 240;refine(yY _ _ (by omega) (by omega)).mono ?_;rw[Int.toNat_natCast];rintro e A ⟨rfl,rfl⟩)
 go_ret
 exact⟨aW (by rw[G.out];omega),(Below.refl _ _).alloc (Nat.le_refl _) _⟩
theorem vF(neg:Bool)(H:Option Addr)(u:Nat)(L:List Nat)(w:World)(h:ag w H u L)(hl:L.length≤35184372088830):
  Calls Tryz.prog 127 #[.agg #[.bool neg,.slice H L.length u]] w fun e J=>e=.returned (.int .i64 (dW L))∧Below w.heap.size w J:=by
 by_cases z:L= []
 ·subst z
  go_enter Tryz.func127,Tryz.ntmps127
  go_wp2
  go_ret
  exact⟨aW (by simp[dW]),(Below.refl _ _).alloc (Nat.le_refl _) _⟩
 obtain⟨b,Y,rfl,hb,I⟩:=h.ne (List.length_pos_iff.2 z)
 have hp:0<L.length:=List.length_pos_iff.2 z
 have K:=I (L.length-1) (by omega)
 have N:=h.lt (L.length-1)
 have O:Hid (dW L=32*((L.length:Int)-1)+(Lib.bitLen (L[L.length-1]?.getD 0):Int)):=by unfold Hid dW;rw[if_neg (by omega)]
 generalize dW L=r at*
 generalize hn:L.length=n at*
 generalize L[n-1]?.getD 0=x at*
 clear hn h I z
 have Q:=mh x
 have U:((n:Int)==0)=false:=by simp;omega
 go_enter Tryz.func127,Tryz.ntmps127
 go_wp2
 go_loop [3,4] (fun m t=>∃(k y:Nat),m=.int .i64 (32*((n:Int)-1)+(k:Int))∧t=.int .u32 (y:Int)∧y<4294967296∧k≤64∧Hid (k+Lib.bitLen y=Lib.bitLen x)) (fun _ t=>(intOf t).toNat)
 case atStart=>exact⟨0,x,cL (by omega),rfl,N,by omega,by unfold Hid;omega⟩
 case round=>
  obtain⟨k,y,rfl,rfl,Z,hk,A⟩:=hrel
  by_cases D:y=0
  ·subst D
   have d:=A.out
   rw[td]at d
   have F:=ac d
   clear d A
   go_wp2
   go_ret
   exact⟨aW (by rw[O.out];have:=uH F;omega),(Below.refl _ _).alloc (Nat.le_refl _) _⟩
  ·have X:=mP y (by omega) Z
   have d:=A.out
   have F:=ac (show k+1+Lib.bitLen (y/2)=Lib.bitLen x by omega)
   have G:k+1≤64:=by omega
   clear X d A
   go_wp2
   go_round
   case rel=>exact⟨k+1,y/2,cL (by omega),cL (by omega),by omega,G,uH F⟩
   case measure=>simp[intOf];omega
theorem io{k k':IntKind}{a b c d:Int}(h:a=b)(u:c=d):Ending.returned (.tuple #[.int k a,.int k' c])=.returned (.tuple #[.int k b,.int k' d]):=by rw[h,u]
end Go.Proofs.YtcbcmlaogehimaaGreatDoor
