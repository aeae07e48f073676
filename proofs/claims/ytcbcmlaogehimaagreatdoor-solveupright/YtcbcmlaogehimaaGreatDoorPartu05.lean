/- Part 5 of the texts. -/
import Derived.Test.YtcbcmlaogehimaaGreatDoorPartu04
import Derived.Lib.BitFns
set_option maxHeartbeats 4000000
namespace Go.Proofs.YtcbcmlaogehimaaGreatDoor
open Go.RowKit
attribute [local go_sem ↓] Go.wp_at_zero Go.wp_at_succ
theorem yH(A B:H3)(fA:bQ A)(t:bQ B)(D:cL A)(cB:cL B):qv A B=bY (aj A) (aj B):=by
 unfold qv
 split
 ·rfl
 ·rename_i F
  rcases Nat.lt_or_gt_of_ne F with h|h
  ·have:aj A<aj B:=by
    have:=fj B A fA cB
    by_cases l:aj B<=aj A
    ·have:=this l;omega
    ·omega
   rw[fk (by omega),fk (by omega)]
  ·have:aj B<aj A:=by
    have:=fj A B t D
    by_cases l:aj A<=aj B
    ·have:=this l;omega
    ·omega
   rw[gR (by omega),gR (by omega)]
theorem qB(t D:Bool)(ao H:GY)(I J:Nat)(A B:H3)(w:World)(hA:ai w ao I A)(hB:ai w H J B)(la:A.length<=35184372088830)(lb:B.length<=35184372088830)(cA:cL A)(cB:cL B)(hn:t≠D):
  GF 300 #[.agg #[.bool t,.slice ao A.length I],.agg #[.bool D,.slice H B.length J]] w fun e l=>∃v,e=.returned (.tuple #[v,C0 (cn (af t A+af D B))])/\aA w.heap.size l v (fG (af t A+af D B))/\H8 w l:=by
 have Z:(∀L:H3,aj L=aj B-aj A->aj A<aj B->af D L=af t A+af D B)/\(∀L:H3,aj L=aj A-aj B->aj B<=aj A->af t L=af t A+af D B):=by
  constructor<;>intro L h h'<;>unfold af<;>cases t<;>cases D<;>simp at hn<;>simp[h]<;>omega
 have ax:=yH A B hA.2.1 hB.2.1 cA cB;have HS:=ac Z;clear Z;generalize af t A+af D B=z at*;have a1:(t==D)=false:=by simpa using hn
 have HC:=ac ax;clear ax hn
 go_enter Tryz.func300,Tryz.ntmps300
 go_wp2_with fail;refine(oH ao H I J A B _ (hA.below ?_) (hB.below ?_) (by omega) (by omega)).mono ?_
 ·exact(((Below.refl _ _).alloc (Nat.le_refl _) _).alloc (by simp) _).alloc (by simp;omega) _
 ·exact(((Below.refl _ _).alloc (Nat.le_refl _) _).alloc (by simp) _).alloc (by simp;omega) _
 rintro e l ⟨rfl,m,rfl⟩;rw[uH HC]
 by_cases hv:aj A<aj B
 ·rw[fk (by omega)]
  clear HC;have aa:=ac (fun L h=>(uH HS).1 L h hv);clear HS
  go_wp2
  refine aB (fun W=>H8 w W/\W.heap.size=w.heap.size+3/\aK W w.heap.size (.bool t) (.slice ao A.length I)/\aK W (w.heap.size+1) (.bool D) (.slice H B.length J)/\aK W (w.heap.size+2) (.bool false) (.slice none 0 0)) ?_ ?_
  ·refine⟨below_drewN ((((Below.refl _ _).alloc (Nat.le_refl _) _).alloc (by simp) _).alloc (by simp;omega) _) _,by simp,(((aK.new _ _ _).old _).old _).drewN _,?_,?_⟩
   ·have:=((aK.new (w.alloc (.cells #[.bool t,.slice ao A.length I] 33)) (.bool D) (.slice H B.length J)).old (.cells #[.bool false,.slice none 0 0] 33)).drewN m
    simpa using this
   ·have:=(aK.new ((w.alloc (.cells #[.bool t,.slice ao A.length I] 33)).alloc (.cells #[.bool D,.slice H B.length J] 33)) (.bool false) (.slice none 0 0)).drewN m
    simpa using this
  rintro O ⟨F,Q,x0,x1,x2⟩;have hK:∀l,Below (w.heap.size+2) O l->Below (w.heap.size+2) O l/\l.cell? ⟨w.heap.size+1,0,none⟩=some (.bool D)/\l.cell? ⟨w.heap.size,1,none⟩=some (.slice ao A.length I)/\l.cell? ⟨w.heap.size+1,1,none⟩=some (.slice H B.length J):=fun l h=>
   ⟨h,(x1.below h (by omega)).c0,(x0.below h (by omega)).c1,(x1.below h (by omega)).c1⟩
  have HK:=ac hK;have HA:=ac (hA.below F);have HB:=ac (hB.below F);have X2:=ac x2;have ae:=ac F;have am:aj A<=aj B:=by omega
  clear hK hA hB x0 x1 x2 F
  go_region_held3(fun l=>Below (w.heap.size+2) O l/\l.cell? ⟨w.heap.size+1,0,none⟩=some (.bool D)/\l.cell? ⟨w.heap.size,1,none⟩=some (.slice ao A.length I)/\l.cell? ⟨w.heap.size+1,1,none⟩=some (.slice H B.length J))
   (first|exact uH HK _ (Below.refl _ _).drew|exact uH HK _ (by assumption)|exact uH HK _ ((M.setCell (by simp) _).setCell (by simp) _))
   (first|(go_at_call 303;refine(nC H ao J I B A _ ((uH HB).below ((Below.refl _ _).drew)) ((uH HA).below ((Below.refl _ _).drew)) lb la am).mono ?_;rintro e w1 ⟨a0,aI,U,rfl,g1,g2,g3,g4,G⟩;have ap:Below (w.heap.size+2) O w1:=((Below.refl _ _).drew).trans (G.mono (by simp[Q]));have X3:=ac ((uH X2).drew.below G (by simp[Q]));have G1:=ac g1;have G2:=ac g2;have G4:=ac g4;have L4:U.length<=35184372088832:=(by omega);have s1:=G.size;clear g1 g2 g4 g3 G)|(go_at_call 266;refine(ly _ D _ _ _ _ (uH G1) (uH G2) L4).mono ?_;rintro e w2 ⟨v,rfl,⟨n2,a2,c2,L2,rfl,i1⟩,K⟩;have M:Below (w.heap.size+2) O w2:=ap.trans (K.mono (by simp at s1;omega));have N:=(uH X3).below K (by simp at s1;omega);have y0:=N.c0;have y1:=N.c1;have f0:=N.free 0;have f1:=N.free 1;have I1:=ac i1;clear i1 K N))
  have hz:=uH aa U (uH G4);have HI:=ac (hz▸uH I1);have HE:=ac (show cn (af D U)=cn z by rw[hz]);clear hz
  go_wp2
  refine bodyPost_ret (v:=.tuple #[.agg #[.bool n2,.slice a2 L2.length c2],C0 (cn (af D U))]) (by simp[results,Tryz.results300,go_sem,y0,y1]) rfl ⟨.agg #[.bool n2,.slice a2 L2.length c2],?_,?_,?_⟩
  ·rw[uH HE]
  ·exact aA.stored (uH HI) (by simp;omega) (by simp;omega) (by simp;omega) _ _
  ·exact(((uH ae).trans (M.mono (by omega))).setCell (by simp;omega) _).setCell (by simp;omega) _
 ·have a3:¬bY (aj A) (aj B)<0:=by unfold bY;rw[if_neg (by omega)];split<;>omega
  generalize bY (aj A) (aj B)=cm at*;clear HC;have aa:=ac (fun L h=>(uH HS).2 L h (by omega));clear HS
  go_wp2
  refine aB (fun W=>H8 w W/\W.heap.size=w.heap.size+3/\aK W w.heap.size (.bool t) (.slice ao A.length I)/\aK W (w.heap.size+1) (.bool D) (.slice H B.length J)/\aK W (w.heap.size+2) (.bool false) (.slice none 0 0)) ?_ ?_
  ·refine⟨below_drewN ((((Below.refl _ _).alloc (Nat.le_refl _) _).alloc (by simp) _).alloc (by simp;omega) _) _,by simp,(((aK.new _ _ _).old _).old _).drewN _,?_,?_⟩
   ·have:=((aK.new (w.alloc (.cells #[.bool t,.slice ao A.length I] 33)) (.bool D) (.slice H B.length J)).old (.cells #[.bool false,.slice none 0 0] 33)).drewN m
    simpa using this
   ·have:=(aK.new ((w.alloc (.cells #[.bool t,.slice ao A.length I] 33)).alloc (.cells #[.bool D,.slice H B.length J] 33)) (.bool false) (.slice none 0 0)).drewN m
    simpa using this
  rintro O ⟨F,Q,x0,x1,x2⟩;have hK:∀l,Below (w.heap.size+2) O l->Below (w.heap.size+2) O l/\l.cell? ⟨w.heap.size,0,none⟩=some (.bool t)/\l.cell? ⟨w.heap.size,1,none⟩=some (.slice ao A.length I)/\l.cell? ⟨w.heap.size+1,1,none⟩=some (.slice H B.length J):=fun l h=>
   ⟨h,(x0.below h (by omega)).c0,(x0.below h (by omega)).c1,(x1.below h (by omega)).c1⟩
  have HK:=ac hK;have HA:=ac (hA.below F);have HB:=ac (hB.below F);have X2:=ac x2;have ae:=ac F;have am:aj B<=aj A:=by omega
  clear hK hA hB x0 x1 x2 F
  go_region_held3(fun l=>Below (w.heap.size+2) O l/\l.cell? ⟨w.heap.size,0,none⟩=some (.bool t)/\l.cell? ⟨w.heap.size,1,none⟩=some (.slice ao A.length I)/\l.cell? ⟨w.heap.size+1,1,none⟩=some (.slice H B.length J))
   (first|exact uH HK _ (Below.refl _ _).drew|exact uH HK _ (by assumption)|exact uH HK _ ((M.setCell (by simp) _).setCell (by simp) _))
   (first|(go_at_call 303;refine(nC ao H I J A B _ ((uH HA).below ((Below.refl _ _).drew)) ((uH HB).below ((Below.refl _ _).drew)) la lb am).mono ?_;rintro e w1 ⟨a0,aI,U,rfl,g1,g2,g3,g4,G⟩;have ap:Below (w.heap.size+2) O w1:=((Below.refl _ _).drew).trans (G.mono (by simp[Q]));have X3:=ac ((uH X2).drew.below G (by simp[Q]));have G1:=ac g1;have G2:=ac g2;have G4:=ac g4;have L4:U.length<=35184372088832:=(by omega);have s1:=G.size;clear g1 g2 g4 g3 G)|(go_at_call 266;refine(ly _ t _ _ _ _ (uH G1) (uH G2) L4).mono ?_;rintro e w2 ⟨v,rfl,⟨n2,a2,c2,L2,rfl,i1⟩,K⟩;have M:Below (w.heap.size+2) O w2:=ap.trans (K.mono (by simp at s1;omega));have N:=(uH X3).below K (by simp at s1;omega);have y0:=N.c0;have y1:=N.c1;have f0:=N.free 0;have f1:=N.free 1;have I1:=ac i1;clear i1 K N))
  have hz:=uH aa U (uH G4);have HI:=ac (hz▸uH I1);have HE:=ac (show cn (af t U)=cn z by rw[hz]);clear hz
  go_wp2
  refine bodyPost_ret (v:=.tuple #[.agg #[.bool n2,.slice a2 L2.length c2],C0 (cn (af t U))]) (by simp[results,Tryz.results300,go_sem,y0,y1]) rfl ⟨.agg #[.bool n2,.slice a2 L2.length c2],?_,?_,?_⟩
  ·rw[uH HE]
  ·exact aA.stored (uH HI) (by simp;omega) (by simp;omega) (by simp;omega) _ _
  ·exact(((uH ae).trans (M.mono (by omega))).setCell (by simp;omega) _).setCell (by simp;omega) _
theorem sK(h l:Bool)(ao t:GY)(D F:Nat)(A B:H3)(w:World)(G:ai w ao D A)(H:ai w t F B)(I:A.length<=35184372088830)(J:B.length<=35184372088830)(M:cL A)(cB:cL B):
  GF 300 #[.agg #[.bool h,.slice ao A.length D],.agg #[.bool l,.slice t B.length F]] w fun e K=>∃v,e=.returned (.tuple #[v,C0 (cn (af h A+af l B))])/\aA w.heap.size K v (fG (af h A+af l B))/\H8 w K:=by
 by_cases L:h=l
 ·subst L;exact qA h ao t D F A B w G H I J
 ·exact qB h l ao t D F A B w G H I J M cB L
theorem vO(l:Bool)(ao G:GY)(H I:Nat)(A B:H3)(w:World)(hA:ai w ao H A)(hB:ai w G I B)(la:A.length<=35184372088830)(lb:B.length<=35184372088830):
  GF 56 #[.agg #[.bool l,.slice ao A.length H],.agg #[.bool l,.slice G B.length I]] w fun e t=>∃v,e=.returned v/\aS (max A.length B.length+1) w.heap.size t v (af l A+af l B)/\H8 w t:=by
 have J:∀L:H3,aj L=aj A+aj B->af l L=af l A+af l B:=by
  intro L h;unfold af;cases l<;>simp[h]<;>omega
 have HS:=ac J;clear J;generalize af l A+af l B=z at*
 go_enter Tryz.func56,Tryz.ntmps56
 go_wp2
 refine aB (fun W=>H8 w W/\W.heap.size=w.heap.size+3/\aK W w.heap.size (.bool l) (.slice ao A.length H)/\aK W (w.heap.size+1) (.bool l) (.slice G B.length I)/\aK W (w.heap.size+2) (.bool false) (.slice none 0 0)) ?_ ?_
 ·refine⟨((((Below.refl _ _).alloc (Nat.le_refl _) _).alloc (by simp) _).alloc (by simp;omega) _),by simp,((aK.new _ _ _).old _).old _,?_,?_⟩
  ·have:=(aK.new (w.alloc (.cells #[.bool l,.slice ao A.length H] 33)) (.bool l) (.slice G B.length I)).old (.cells #[.bool false,.slice none 0 0] 33)
   simpa using this
  ·have:=aK.new ((w.alloc (.cells #[.bool l,.slice ao A.length H] 33)).alloc (.cells #[.bool l,.slice G B.length I] 33)) (.bool false) (.slice none 0 0)
   simpa using this
 rintro O ⟨D,Q,x0,x1,x2⟩;have hK:∀t,Below (w.heap.size+2) O t->Below (w.heap.size+2) O t/\t.cell? ⟨w.heap.size,0,none⟩=some (.bool l)/\t.cell? ⟨w.heap.size,1,none⟩=some (.slice ao A.length H)/\t.cell? ⟨w.heap.size+1,1,none⟩=some (.slice G B.length I):=fun t h=>
  ⟨h,(x0.below h (by omega)).c0,(x0.below h (by omega)).c1,(x1.below h (by omega)).c1⟩
 have U:=ac hK;have HA:=ac (hA.below D);have HB:=ac (hB.below D);have X2:=ac x2;have Z:=ac D;clear hK hA hB x0 x1 x2 D
 go_region_held3(fun t=>Below (w.heap.size+2) O t/\t.cell? ⟨w.heap.size,0,none⟩=some (.bool l)/\t.cell? ⟨w.heap.size,1,none⟩=some (.slice ao A.length H)/\t.cell? ⟨w.heap.size+1,1,none⟩=some (.slice G B.length I))
  (first|exact uH U _ (Below.refl _ _).drew|exact uH U _ (by assumption)|exact uH U _ ((M.setCell (by simp) _).setCell (by simp) _))
  (first|(go_at_call 107;refine(qw ao G H I A B _ ((uH HA).below ((Below.refl _ _).drew)) ((uH HB).below ((Below.refl _ _).drew)) la lb).mono ?_;rintro e w1 ⟨am,ae,L',rfl,g1,g2,g3,g4,F⟩;have aa:Below (w.heap.size+2) O w1:=((Below.refl _ _).drew).trans (F.mono (by simp[Q]));have X3:=ac ((uH X2).drew.below F (by simp[Q]));have G1:=ac g1;have G2:=ac g2;have G4:=ac g4;have L4:L'.length<=35184372088832:=(by omega);have L5:L'.length<=max A.length B.length+1:=(by omega);have s1:=F.size;clear g1 g2 g4 g3 F)|(go_at_call 65;refine(dZ _ l _ _ _ _ (uH G1) (uH G2) L4).mono ?_;rintro e w2 ⟨v,rfl,⟨n2,a2,c2,L2,rfl,i1⟩,K⟩;have M:Below (w.heap.size+2) O w2:=aa.trans (K.mono (by simp at s1;omega));have N:=(uH X3).below K (by simp at s1;omega);have y0:=N.c0;have y1:=N.c1;have f0:=N.free 0;have f1:=N.free 1;have I1:=ac i1;clear i1 K N))
 have hz:=uH HS L' (uH G4);have HI:=ac (hz▸uH I1);clear hz
 go_wp2
 refine bodyPost_ret (v:=.agg #[.bool n2,.slice a2 L2.length c2]) (by simp[results,Tryz.results56,go_sem,y0,y1]) rfl ⟨.agg #[.bool n2,.slice a2 L2.length c2],rfl,?_,?_⟩
 ·exact(aS.stored (uH HI) (by simp;omega) (by simp;omega) (by simp;omega) _ _).more (by have:=L5;omega)
 ·exact(((uH Z).trans (M.mono (by omega))).setCell (by simp;omega) _).setCell (by simp;omega) _
theorem vP(F G:Bool)(ao H:GY)(I J:Nat)(A B:H3)(w:World)(hA:ai w ao I A)(hB:ai w H J B)(la:A.length<=35184372088830)(lb:B.length<=35184372088830)(hn:F≠G):
  GF 56 #[.agg #[.bool F,.slice ao A.length I],.agg #[.bool G,.slice H B.length J]] w fun e l=>∃v,e=.returned v/\aS (max A.length B.length+1) w.heap.size l v (af F A+af G B)/\H8 w l:=by
 have U:(∀L:H3,aj L=aj B-aj A->aj A<aj B->af G L=af F A+af G B)/\(∀L:H3,aj L=aj A-aj B->aj B<=aj A->af F L=af F A+af G B):=by
  constructor<;>intro L h h'<;>unfold af<;>cases F<;>cases G<;>simp at hn<;>simp[h]<;>omega
 have HS:=ac U;clear U;generalize af F A+af G B=z at*;have aI:(F==G)=false:=by simpa using hn
 clear hn
 go_enter Tryz.func56,Tryz.ntmps56
 go_wp2_with fail;refine(EG ao H I J A B _ (hA.below ?_) (hB.below ?_) (by omega) (by omega)).mono ?_
 ·exact(((Below.refl _ _).alloc (Nat.le_refl _) _).alloc (by simp) _).alloc (by simp;omega) _
 ·exact(((Below.refl _ _).alloc (Nat.le_refl _) _).alloc (by simp) _).alloc (by simp;omega) _
 rintro e l ⟨rfl,rfl⟩
 by_cases hv:aj A<aj B
 ·rw[fk (by omega)]
  have Z:=ac (fun L h=>(uH HS).1 L h hv);clear HS
  go_wp2
  refine aB (fun W=>H8 w W/\W.heap.size=w.heap.size+3/\aK W w.heap.size (.bool F) (.slice ao A.length I)/\aK W (w.heap.size+1) (.bool G) (.slice H B.length J)/\aK W (w.heap.size+2) (.bool false) (.slice none 0 0)) ?_ ?_
  ·refine⟨((((Below.refl _ _).alloc (Nat.le_refl _) _).alloc (by simp) _).alloc (by simp;omega) _),by simp,(((aK.new _ _ _).old _).old _),?_,?_⟩
   ·have:=((aK.new (w.alloc (.cells #[.bool F,.slice ao A.length I] 33)) (.bool G) (.slice H B.length J)).old (.cells #[.bool false,.slice none 0 0] 33))
    simpa using this
   ·have:=(aK.new ((w.alloc (.cells #[.bool F,.slice ao A.length I] 33)).alloc (.cells #[.bool G,.slice H B.length J] 33)) (.bool false) (.slice none 0 0))
    simpa using this
  rintro O ⟨t,Q,x0,x1,x2⟩;have hK:∀l,Below (w.heap.size+2) O l->Below (w.heap.size+2) O l/\l.cell? ⟨w.heap.size+1,0,none⟩=some (.bool G)/\l.cell? ⟨w.heap.size,1,none⟩=some (.slice ao A.length I)/\l.cell? ⟨w.heap.size+1,1,none⟩=some (.slice H B.length J):=fun l h=>
   ⟨h,(x1.below h (by omega)).c0,(x0.below h (by omega)).c1,(x1.below h (by omega)).c1⟩
  have HK:=ac hK;have HA:=ac (hA.below t);have HB:=ac (hB.below t);have X2:=ac x2;have aa:=ac t;have ae:aj A<=aj B:=by omega
  clear hK hA hB x0 x1 x2 t
  go_region_held3(fun l=>Below (w.heap.size+2) O l/\l.cell? ⟨w.heap.size+1,0,none⟩=some (.bool G)/\l.cell? ⟨w.heap.size,1,none⟩=some (.slice ao A.length I)/\l.cell? ⟨w.heap.size+1,1,none⟩=some (.slice H B.length J))
   (first|exact uH HK _ (Below.refl _ _).drew|exact uH HK _ (by assumption)|exact uH HK _ ((M.setCell (by simp) _).setCell (by simp) _))
   (first|(go_at_call 110;refine(tH H ao J I B A _ ((uH HB).below ((Below.refl _ _).drew)) ((uH HA).below ((Below.refl _ _).drew)) lb la ae).mono ?_;rintro e w1 ⟨ax,ap,L',rfl,g1,g2,g3,g4,D⟩;have am:Below (w.heap.size+2) O w1:=((Below.refl _ _).drew).trans (D.mono (by simp[Q]));have X3:=ac ((uH X2).drew.below D (by simp[Q]));have G1:=ac g1;have G2:=ac g2;have G4:=ac g4;have L4:L'.length<=35184372088832:=(by omega);have L5:L'.length<=max A.length B.length+1:=(by omega);have s1:=D.size;clear g1 g2 g4 g3 D)|(go_at_call 65;refine(dZ _ G _ _ _ _ (uH G1) (uH G2) L4).mono ?_;rintro e w2 ⟨v,rfl,⟨n2,a2,c2,L2,rfl,i1⟩,K⟩;have M:Below (w.heap.size+2) O w2:=am.trans (K.mono (by simp at s1;omega));have N:=(uH X3).below K (by simp at s1;omega);have y0:=N.c0;have y1:=N.c1;have f0:=N.free 0;have f1:=N.free 1;have I1:=ac i1;clear i1 K N))
  have hz:=uH Z L' (uH G4);have HI:=ac (hz▸uH I1);clear hz
  go_wp2
  refine bodyPost_ret (v:=.agg #[.bool n2,.slice a2 L2.length c2]) (by simp[results,Tryz.results56,go_sem,y0,y1]) rfl ⟨.agg #[.bool n2,.slice a2 L2.length c2],rfl,?_,?_⟩
  ·exact(aS.stored (uH HI) (by simp;omega) (by simp;omega) (by simp;omega) _ _).more (by have:=L5;omega)
  ·exact(((uH aa).trans (M.mono (by omega))).setCell (by simp;omega) _).setCell (by simp;omega) _
 ·have a0:¬bY (aj A) (aj B)<0:=by unfold bY;rw[if_neg (by omega)];split<;>omega
  generalize bY (aj A) (aj B)=cm at*;have Z:=ac (fun L h=>(uH HS).2 L h (by omega));clear HS
  go_wp2
  refine aB (fun W=>H8 w W/\W.heap.size=w.heap.size+3/\aK W w.heap.size (.bool F) (.slice ao A.length I)/\aK W (w.heap.size+1) (.bool G) (.slice H B.length J)/\aK W (w.heap.size+2) (.bool false) (.slice none 0 0)) ?_ ?_
  ·refine⟨((((Below.refl _ _).alloc (Nat.le_refl _) _).alloc (by simp) _).alloc (by simp;omega) _),by simp,(((aK.new _ _ _).old _).old _),?_,?_⟩
   ·have:=((aK.new (w.alloc (.cells #[.bool F,.slice ao A.length I] 33)) (.bool G) (.slice H B.length J)).old (.cells #[.bool false,.slice none 0 0] 33))
    simpa using this
   ·have:=(aK.new ((w.alloc (.cells #[.bool F,.slice ao A.length I] 33)).alloc (.cells #[.bool G,.slice H B.length J] 33)) (.bool false) (.slice none 0 0))
    simpa using this
  rintro O ⟨t,Q,x0,x1,x2⟩;have hK:∀l,Below (w.heap.size+2) O l->Below (w.heap.size+2) O l/\l.cell? ⟨w.heap.size,0,none⟩=some (.bool F)/\l.cell? ⟨w.heap.size,1,none⟩=some (.slice ao A.length I)/\l.cell? ⟨w.heap.size+1,1,none⟩=some (.slice H B.length J):=fun l h=>
   ⟨h,(x0.below h (by omega)).c0,(x0.below h (by omega)).c1,(x1.below h (by omega)).c1⟩
  have HK:=ac hK;have HA:=ac (hA.below t);have HB:=ac (hB.below t);have X2:=ac x2;have aa:=ac t;have ae:aj B<=aj A:=by omega
  clear hK hA hB x0 x1 x2 t
  go_region_held3(fun l=>Below (w.heap.size+2) O l/\l.cell? ⟨w.heap.size,0,none⟩=some (.bool F)/\l.cell? ⟨w.heap.size,1,none⟩=some (.slice ao A.length I)/\l.cell? ⟨w.heap.size+1,1,none⟩=some (.slice H B.length J))
   (first|exact uH HK _ (Below.refl _ _).drew|exact uH HK _ (by assumption)|exact uH HK _ ((M.setCell (by simp) _).setCell (by simp) _))
   (first|(go_at_call 110;refine(tH ao H I J A B _ ((uH HA).below ((Below.refl _ _).drew)) ((uH HB).below ((Below.refl _ _).drew)) la lb ae).mono ?_;rintro e w1 ⟨ax,ap,L',rfl,g1,g2,g3,g4,D⟩;have am:Below (w.heap.size+2) O w1:=((Below.refl _ _).drew).trans (D.mono (by simp[Q]));have X3:=ac ((uH X2).drew.below D (by simp[Q]));have G1:=ac g1;have G2:=ac g2;have G4:=ac g4;have L4:L'.length<=35184372088832:=(by omega);have L5:L'.length<=max A.length B.length+1:=(by omega);have s1:=D.size;clear g1 g2 g4 g3 D)|(go_at_call 65;refine(dZ _ F _ _ _ _ (uH G1) (uH G2) L4).mono ?_;rintro e w2 ⟨v,rfl,⟨n2,a2,c2,L2,rfl,i1⟩,K⟩;have M:Below (w.heap.size+2) O w2:=am.trans (K.mono (by simp at s1;omega));have N:=(uH X3).below K (by simp at s1;omega);have y0:=N.c0;have y1:=N.c1;have f0:=N.free 0;have f1:=N.free 1;have I1:=ac i1;clear i1 K N))
  have hz:=uH Z L' (uH G4);have HI:=ac (hz▸uH I1);clear hz
  go_wp2
  refine bodyPost_ret (v:=.agg #[.bool n2,.slice a2 L2.length c2]) (by simp[results,Tryz.results56,go_sem,y0,y1]) rfl ⟨.agg #[.bool n2,.slice a2 L2.length c2],rfl,?_,?_⟩
  ·exact(aS.stored (uH HI) (by simp;omega) (by simp;omega) (by simp;omega) _ _).more (by have:=L5;omega)
  ·exact(((uH aa).trans (M.mono (by omega))).setCell (by simp;omega) _).setCell (by simp;omega) _
theorem yI(h l:Bool)(ao t:GY)(D F:Nat)(A B:H3)(w:World)(G:ai w ao D A)(H:ai w t F B)(I:A.length<=35184372088830)(J:B.length<=35184372088830):
  GF 56 #[.agg #[.bool h,.slice ao A.length D],.agg #[.bool l,.slice t B.length F]] w fun e K=>∃v,e=.returned v/\aS (max A.length B.length+1) w.heap.size K v (af h A+af l B)/\H8 w K:=by
 by_cases L:h=l
 ·subst L;exact vO h ao t D F A B w G H I J
 ·exact vP h l ao t D F A B w G H I J L
def yJ(na:Bool)(A:H3)(nb:Bool)(B:H3):Int:=if aD na A&&aD nb B then 0 else 1
theorem mt(l F:Bool)(ao H:GY)(K I:Nat)(A B:H3)(w:World)(Q:ai w ao K A)(U:ai w H I B)(Z:A.length<=35184372088830)(lb:B.length<=35184372088830):
  BS 296 #[.agg #[.bool l,.slice ao A.length K],.agg #[.bool F,.slice H B.length I]] w (C0 (yJ l A F B)):=by
 have O:(aD l A=false->yJ l A F B=1)/\(aD l A=true->yJ l A F B=gL F B):=by
  constructor<;>intro h<;>simp[yJ,gL,h]
 have J:=ac O;clear O;generalize yJ l A F B=r at*
 go_enter Tryz.func296,Tryz.ntmps296
 go_wp2_with fail;refine(gC l ao K A _ (Q.below (((Below.refl _ _).alloc (Nat.le_refl _) _).alloc (by simp) _)) Z).mono ?_;rintro e M ⟨rfl,D⟩;have t:H8 w M:=(((Below.refl _ _).alloc (Nat.le_refl _) _).alloc (by simp) _).trans (D.mono (by simp;omega));have aa:M.cell? ⟨w.heap.size+1,0,none⟩=some (.bool F):=by rw[D.cell (p:=⟨w.heap.size+1,0,none⟩) (by simp)];simp[go_sem]
 have ae:M.cell? ⟨w.heap.size+1,1,none⟩=some (.slice H B.length I):=by rw[D.cell (p:=⟨w.heap.size+1,1,none⟩) (by simp)];simp[go_sem]
 clear D
 cases hr:aD l A
 ·have L:=ac ((uH J).1 hr)
  have G:gL l A=1:=by simp[gL,hr]
  rw[G];clear G hr J
  go_wp2
  go_ret
  exact⟨bh (uH L).symm,t⟩
 ·have L:=ac ((uH J).2 hr)
  have G:gL l A=0:=by simp[gL,hr]
  rw[G];clear G hr J;go_wp2_with fail;refine(gC F H I B _ (U.below t) lb).mono ?_;rintro e w2 ⟨rfl,N⟩
  go_wp2
  go_ret
  exact⟨bh (uH L).symm,t.trans (N.mono t.size)⟩
end Go.Proofs.YtcbcmlaogehimaaGreatDoor
namespace Go.Proofs.YtcbcmlaogehimaaGreatDoor
open Go.RowKit
def tI(ok:Bool)(z:Int):Int:=if ok then cn z else 1
def tJ(ok:Bool)(z:Int):Int:=if ok then fG z else 0
theorem ja(z:Int):tI true z=cn z:=by unfold tI;rw[if_pos rfl]
theorem jb(z:Int):tJ true z=fG z:=by unfold tJ;rw[if_pos rfl]
theorem ph(z:Int):tI false z=1:=by unfold tI;rw[if_neg (by decide)]
theorem pi(z:Int):tJ false z=0:=by unfold tJ;rw[if_neg (by decide)]
theorem aG{neg:Bool}{L:H3}(h:aD neg L=true):L.length<=512/\cL L/\(neg=true->L≠ []):=by
 simp only[aD,Bool.and_eq_true,decide_eq_true_eq,Bool.not_eq_true',Bool.and_eq_false_iff,decide_eq_false_iff_not,Bool.or_eq_true]at h;obtain⟨⟨D,l⟩,t⟩:=h;refine⟨D,?_,?_⟩
 ·rcases t with t|t
  ·exact .inl (List.length_eq_zero_iff.1 t)
  ·exact .inr t
 ·rintro F rfl
  rcases l with l|l
  ·simp at l
  ·rw[F]at l;cases l
theorem EH(h:Bool)(B:H3):af (!h) B= -af h B:=by unfold af;cases h<;>simp
theorem Jl(t D:Bool)(ao H:GY)(I J:Nat)(A B:H3)(w:World)(hA:ai w ao I A)(hB:ai w H J B)(la:A.length<=35184372088830)(lb:B.length<=35184372088830):
  GF 295 #[.agg #[.bool t,.slice ao A.length I],.agg #[.bool D,.slice H B.length J]] w fun e w'=>∃v,e=.returned (.tuple #[v,C0 (tI (aD t A&&aD D B) (af t A+af D B))])/\aA w.heap.size w' v (tJ (aD t A&&aD D B) (af t A+af D B))/\H8 w w':=by
 have hC:(aD t A&&aD D B)=true->cL A/\cL B:=fun h=>by
  simp only[Bool.and_eq_true]at h;exact⟨(aG h.1).2.1,(aG h.2).2.1⟩
 have HC:=ac hC;have H2:=ac (show yJ t A D B=if(aD t A&&aD D B)then 0 else 1 from rfl);clear hC;generalize Z:(aD t A&&aD D B)=ok at*;clear Z
 go_enter Tryz.func295,Tryz.ntmps295
 go_wp2_with fail;have G:H8 w (((w.alloc (.cells #[.bool t,.slice ao A.length I] 33)).alloc (.cells #[.bool D,.slice H B.length J] 33)).alloc (.cells #[.bool false,.slice none 0 0] 33)):=
  (((Below.refl _ _).alloc (Nat.le_refl _) _).alloc (by simp) _).alloc (by simp;omega) _
 refine(mt t D ao H I J A B _ (hA.below G) (hB.below G) la lb).mono ?_;rintro e K ⟨rfl,l⟩;have aa:w.heap.size+3<=K.heap.size:=by have:=l.size;simpa using this
 have F:H8 w K:=G.trans (l.mono (by simp;omega));have p0:K.cell? ⟨w.heap.size,0,none⟩=some (.bool t):=by rw[l.cell (p:=⟨w.heap.size,0,none⟩) (by simp;omega)];simp[go_sem]
 have p1:K.cell? ⟨w.heap.size,1,none⟩=some (.slice ao A.length I):=by rw[l.cell (p:=⟨w.heap.size,1,none⟩) (by simp;omega)];simp[go_sem]
 have q0:K.cell? ⟨w.heap.size+1,0,none⟩=some (.bool D):=by rw[l.cell (p:=⟨w.heap.size+1,0,none⟩) (by simp)];simp[go_sem]
 have q1:K.cell? ⟨w.heap.size+1,1,none⟩=some (.slice H B.length J):=by rw[l.cell (p:=⟨w.heap.size+1,1,none⟩) (by simp)];simp[go_sem]
 have L:aK K (w.heap.size+2) (.bool false) (.slice none 0 0):=by
  have:=aK.new ((w.alloc (.cells #[.bool t,.slice ao A.length I] 33)).alloc (.cells #[.bool D,.slice H B.length J] 33)) (.bool false) (.slice none 0 0);exact aK.below (by simpa using this) l (by simp)
 rw[uH H2];clear l H2 G
 cases ok
 ·simp only[Bool.false_eq_true,if_false]
  have O:=L.c0;have Q:=L.c1;have f0:=L.free 0;have f1:=L.free 1
  go_wp2
  refine bodyPost_ret (v:=.tuple #[.agg #[.bool false,.slice none 0 0],C0 1]) (by simp[results,Tryz.results295,go_sem,O,Q]) rfl ⟨.agg #[.bool false,.slice none 0 0],by rw[ph],by rw[pi];exact aA.zero _ _ _ _,?_⟩;exact(F.setCell (by simp;omega) _).setCell (by simp;omega) _
 ·obtain⟨cA,cB⟩:=uH HC rfl
  have CA:=ac cA;have CB:=ac cB;clear cA cB;simp only[if_true];go_wp2_with fail;refine(sK t D ao H I J A B _ (hA.below F) (hB.below F) la lb (uH CA) (uH CB)).mono ?_;rintro e w2 ⟨v,rfl,⟨n2,a2,c2,L2,rfl,i1⟩,M⟩;have N:=L.below M (by omega);have O:=N.c0;have Q:=N.c1;have f0:=N.free 0;have f1:=N.free 1;have I1:=ac i1;have U:=F.trans (M.mono F.size);clear i1
  go_wp2
  refine bodyPost_ret (v:=.tuple #[.agg #[.bool n2,.slice a2 L2.length c2],C0 (cn (af t A+af D B))]) (by simp[results,Tryz.results295,go_sem,O,Q]) rfl ⟨.agg #[.bool n2,.slice a2 L2.length c2],by rw[ja],?_,?_⟩
  ·rw[jb];exact aA.stored (uH I1) (by simp;omega) (by simp;omega) (by omega) _ _
  ·exact(U.setCell (by simp;omega) _).setCell (by simp;omega) _
attribute [local go_sem ↓] Go.wp_at_zero Go.wp_at_succ
theorem ai.box{w:World}{ao:GY}{cap g:Nat}{L:H3}(h:ai w ao cap L){x:Bool}{a:GY}{n c:Nat}(H:aK w g (.bool x) (.slice a n c))(u u':Value):
  ai ((w.setCell ⟨g,0,none⟩ u).setCell ⟨g,1,none⟩ u') ao cap L:=by
 refine⟨h.1,h.2.1,?_⟩;rcases h.2.2 with K|⟨b,l,M,N,G⟩
 ·exact .inl K
 ·by_cases F:L= []
  ·exact .inl F
  ·have J:0<L.length:=List.length_pos_iff.2 F
   have t:b≠g:=by
    rintro rfl;have D:=G 0 J;rw[cell_of_row w b (l+0) _ _ _ H]at D;rcases(show l=0\/l=1\/2<=l by omega)with e|e|e
    ·subst e;simp at D
    ·subst e;simp at D
    ·rw[Array.getElem?_eq_none (by simp;omega)]at D;simp at D
   refine .inr ⟨b,l,M,by simpa[World.setCell]using N,fun i I=>?_⟩;rw[au _ _ _ _ (by simpa using t),au _ _ _ _ (by simpa using t)];exact G i I
theorem qC(t:Bool)(F:GY)(G:Nat)(B:H3)(w:World)(M:ai w F G B)(lb:B.length<=35184372088830):
  GF 116 #[.agg #[.bool t,.slice F B.length G]] w fun e N=>∃v,e=.returned v/\aS B.length 0 N v (-af t B)/\H8 w N:=by
 have U:=ac (EH t B)
 go_enter Tryz.func116,Tryz.ntmps116
 go_wp2_with fail;have h:H8 w ((w.alloc (.cells #[.bool t,.slice F B.length G] 33)).alloc (.cells #[.bool false,.slice none 0 0] 33)):=((Below.refl _ _).alloc (Nat.le_refl _) _).alloc (by simp) _;refine(dZ 0 (!t) F G B _ (M.below h) (cj.zero M) (by omega)).mono ?_;rw[uH U];rintro e w1 ⟨v,rfl,⟨I,J,K,L,rfl,Q⟩,l⟩;have D:aK w1 (w.heap.size+1) (.bool false) (.slice none 0 0):=by
  have:=aK.new (w.alloc (.cells #[.bool t,.slice F B.length G] 33)) (.bool false) (.slice none 0 0);exact aK.below (by simpa using this) l (by simp)
 have Z:=D.c0;have y1:=D.c1;have f0:=D.free 0;have f1:=D.free 1;have O:=ac Q;have R1:=ac D;have H:=ac (h.trans (l.mono (by simp;omega)));clear Q l h D
 go_wp2
 refine bodyPost_ret (v:=.agg #[.bool I,.slice J L.length K]) (by simp[results,Tryz.results116,go_sem,Z,y1]) rfl ⟨.agg #[.bool I,.slice J L.length K],rfl,?_,?_⟩
 ·exact⟨I,J,K,L,rfl,(uH O).1.box (uH R1) _ _,(uH O).2⟩
 ·exact((uH H).setCell (by simp) _).setCell (by simp) _
end Go.Proofs.YtcbcmlaogehimaaGreatDoor
namespace Go.Proofs.YtcbcmlaogehimaaGreatDoor
open Go.RowKit
set_option maxRecDepth 100000 in
theorem Cj(x:Int)(w:World)(L:0<=x)(M:x<=4294967295):
  GF 240 #[.int .u32 x] w fun e I=>e=.returned (C0 (Lib.bitLen x.toNat))/\w=I:=by
 rcases(show x<256\/(256<=x/\x<65536)\/(65536<=x/\x<16777216)\/16777216<=x by omega)with h|⟨J,K⟩|⟨J,K⟩|h
 ·have H:=fun w=>Lib.run_index_len8tab (P:=Tryz.prog) w 9 .u8 (x) Tryz.underlying9 (by omega) (by omega)
  have l:=Lib.len8_eq ⟨(x).toNat,by omega⟩;have t:=Lib.bitLen_le8 ⟨(x).toNat,by omega⟩;have D:0<=Lib.len8 (x):=by simp only[Int.toNat_of_nonneg (show 0<=x by omega)]at l;rw[l];omega
  have F:Lib.len8 (x)<=8:=by simp only[Int.toNat_of_nonneg (show 0<=x by omega)]at l;rw[l];simp only at t;omega
  have G:Hid (Lib.len8 (x)=(Lib.bitLen (x).toNat:Int)):=by unfold Hid;simp only[Int.toNat_of_nonneg (show 0<=x by omega)]at l;exact l
  clear l t
  go_enter Tryz.func240,Tryz.ntmps240
  go_wp2
  go_ret
  refine⟨bh ?_,rfl⟩;rw[G.out]
 ·have H:=fun w=>Lib.run_index_len8tab (P:=Tryz.prog) w 9 .u8 (x/256) Tryz.underlying9 (by omega) (by omega)
  have l:=Lib.len8_eq ⟨(x/256).toNat,by omega⟩;have t:=Lib.bitLen_le8 ⟨(x/256).toNat,by omega⟩;have D:0<=Lib.len8 (x/256):=by simp only[Int.toNat_of_nonneg (show 0<=x/256 by omega)]at l;rw[l];omega
  have F:Lib.len8 (x/256)<=8:=by simp only[Int.toNat_of_nonneg (show 0<=x/256 by omega)]at l;rw[l];simp only at t;omega
  have G:Hid (Lib.len8 (x/256)=(Lib.bitLen (x/256).toNat:Int)):=by unfold Hid;simp only[Int.toNat_of_nonneg (show 0<=x/256 by omega)]at l;exact l
  clear l t
  go_enter Tryz.func240,Tryz.ntmps240
  go_wp2
  go_ret
  refine⟨bh ?_,rfl⟩;rw[G.out];have s:=Lib.bitLen_shift8 x.toNat (by omega) (by omega);rw[show(x/256).toNat=x.toNat/256 by omega];omega
 ·have H:=fun w=>Lib.run_index_len8tab (P:=Tryz.prog) w 9 .u8 (x/65536) Tryz.underlying9 (by omega) (by omega)
  have l:=Lib.len8_eq ⟨(x/65536).toNat,by omega⟩;have t:=Lib.bitLen_le8 ⟨(x/65536).toNat,by omega⟩;have D:0<=Lib.len8 (x/65536):=by simp only[Int.toNat_of_nonneg (show 0<=x/65536 by omega)]at l;rw[l];omega
  have F:Lib.len8 (x/65536)<=8:=by simp only[Int.toNat_of_nonneg (show 0<=x/65536 by omega)]at l;rw[l];simp only at t;omega
  have G:Hid (Lib.len8 (x/65536)=(Lib.bitLen (x/65536).toNat:Int)):=by unfold Hid;simp only[Int.toNat_of_nonneg (show 0<=x/65536 by omega)]at l;exact l
  clear l t
  go_enter Tryz.func240,Tryz.ntmps240
  go_wp2
  go_ret
  refine⟨bh ?_,rfl⟩;rw[G.out];have s:=Lib.bitLen_shift16 x.toNat (by omega) (by omega);rw[show(x/65536).toNat=x.toNat/65536 by omega];omega
 ·have H:=fun w=>Lib.run_index_len8tab (P:=Tryz.prog) w 9 .u8 (x/65536/256) Tryz.underlying9 (by omega) (by omega)
  have l:=Lib.len8_eq ⟨(x/65536/256).toNat,by omega⟩;have t:=Lib.bitLen_le8 ⟨(x/65536/256).toNat,by omega⟩;have D:0<=Lib.len8 (x/65536/256):=by simp only[Int.toNat_of_nonneg (show 0<=x/65536/256 by omega)]at l;rw[l];omega
  have F:Lib.len8 (x/65536/256)<=8:=by simp only[Int.toNat_of_nonneg (show 0<=x/65536/256 by omega)]at l;rw[l];simp only at t;omega
  have G:Hid (Lib.len8 (x/65536/256)=(Lib.bitLen (x/65536/256).toNat:Int)):=by unfold Hid;simp only[Int.toNat_of_nonneg (show 0<=x/65536/256 by omega)]at l;exact l
  clear l t
  go_enter Tryz.func240,Tryz.ntmps240
  go_wp2
  go_ret
  refine⟨bh ?_,rfl⟩;rw[G.out];have s:=Lib.bitLen_shift24 x.toNat (by omega) (by omega);rw[show(x/65536/256).toNat=x.toNat/16777216 by omega];omega
theorem pj:∀(f x:Nat),x<2^f->Lib.bitLenAux (f+1) x=Lib.bitLenAux f x
 |0,x,h=>by simp at h;subst h;rfl
 |f+1,x,h=>by
  have l:=pj f (x/2) (by rw[Nat.pow_succ]at h;omega);have t:Lib.bitLenAux (f+1+1) x=if x=0 then 0 else 1+Lib.bitLenAux (f+1) (x/2):=rfl;have D:Lib.bitLenAux (f+1) x=if x=0 then 0 else 1+Lib.bitLenAux f (x/2):=rfl;rw[t,D,l]
theorem pm(t:Nat)(D:0<t)(h:t<4294967296):Lib.bitLen t=1+Lib.bitLen (t/2):=by
 have l:Lib.bitLen t=1+Lib.bitLenAux 63 (t/2):=by
  unfold Lib.bitLen;rw[Lib.bitLenAux,if_neg (by omega)]
 rw[l];unfold Lib.bitLen;rw[<-pj 63 (t/2) (by omega)]
theorem vQ:Lib.bitLen 0=0:=rfl
theorem oI(t:Nat):Lib.bitLen t<=64:=by
 have:∀f x,Lib.bitLenAux f x<=f:=by
  intro f
  induction f with
  |zero=>intro x;simp[Lib.bitLenAux]
  |succ f ih=>intro x;rw[Lib.bitLenAux];split;omega;have:=ih (x/2);omega
 exact this 64 t
def fH(L:H3):Int:=if L.length=0 then 0 else 32*((L.length:Int)-1)+(Lib.bitLen (L[L.length-1]?.getD 0):Int)
theorem ut(neg:Bool)(ao:GY)(cap:Nat)(L:H3)(w:World)(h:ai w ao cap L)(M:L.length<=35184372088830):
  BS 208 #[.agg #[.bool neg,.slice ao L.length cap]] w (C0 (fH L)):=by
 by_cases l:L= []
 ·subst l
  go_enter Tryz.func208,Tryz.ntmps208
  go_wp2
  go_ret
  exact⟨bh (by simp[fH]),(Below.refl _ _).alloc (Nat.le_refl _) _⟩
 obtain⟨b,J,rfl,Q,D⟩:=h.ne (List.length_pos_iff.2 l);have N:0<L.length:=List.length_pos_iff.2 l;have F:=D (L.length-1) (by omega);have O:=h.lt (L.length-1);have G:Hid (fH L=32*((L.length:Int)-1)+(Lib.bitLen (L[L.length-1]?.getD 0):Int)):=by unfold Hid fH;rw[if_neg (by omega)]
 generalize fH L=r at*;generalize K:L.length=n at*;generalize L[n-1]?.getD 0=x at*;clear K h D l;have H:=oI x;have I:((n:Int)==0)=false:=by simp;omega
 go_enter Tryz.func208,Tryz.ntmps208
 go_wp2_with(go_at_call 240;refine(Cj _ _ (by omega) (by omega)).mono ?_;rw[Int.toNat_natCast];rintro e t ⟨rfl,rfl⟩)
 go_ret
 exact⟨bh (by rw[G.out];omega),(Below.refl _ _).alloc (Nat.le_refl _) _⟩
theorem yK(neg:Bool)(ao:GY)(cap:Nat)(L:H3)(w:World)(h:ai w ao cap L)(hl:L.length<=35184372088830):
  BS 127 #[.agg #[.bool neg,.slice ao L.length cap]] w (C0 (fH L)):=by
 by_cases D:L= []
 ·subst D
  go_enter Tryz.func127,Tryz.ntmps127
  go_wp2
  go_ret
  exact⟨bh (by simp[fH]),(Below.refl _ _).alloc (Nat.le_refl _) _⟩
 obtain⟨b,aa,rfl,hb,J⟩:=h.ne (List.length_pos_iff.2 D);have hp:0<L.length:=List.length_pos_iff.2 D;have M:=J (L.length-1) (by omega);have N:=h.lt (L.length-1);have O:Hid (fH L=32*((L.length:Int)-1)+(Lib.bitLen (L[L.length-1]?.getD 0):Int)):=by unfold Hid fH;rw[if_neg (by omega)]
 generalize fH L=r at*;generalize hn:L.length=n at*;generalize L[n-1]?.getD 0=x at*;clear hn h J D;have Q:=oI x;have U:((n:Int)==0)=false:=by simp;omega
 go_enter Tryz.func127,Tryz.ntmps127
 go_wp2
 go_loop [3,4] (fun m t=>∃(k y:Nat),m=.int .i64 (32*((n:Int)-1)+(k:Int))/\t=.int .u32 (y:Int)/\y<4294967296/\k<=64/\Hid (k+Lib.bitLen y=Lib.bitLen x)) (fun _ t=>(intOf t).toNat)
 case atStart=>exact⟨0,x,dG (by omega),rfl,N,by omega,by unfold Hid;omega⟩
 case round=>
  obtain⟨k,y,rfl,rfl,hy,hk,F⟩:=hrel
  by_cases G:y=0
  ·subst G
   have l:=F.out;rw[vQ]at l;have H:=ac l;clear l F
   go_wp2
   go_ret
   exact⟨bh (by rw[O.out];have:=uH H;omega),(Below.refl _ _).alloc (Nat.le_refl _) _⟩
  ·have Z:=pm y (by omega) hy
   have l:=F.out;have H:=ac (show k+1+Lib.bitLen (y/2)=Lib.bitLen x by omega);have I:k+1<=64:=by omega
   clear Z l F
   go_wp2
   go_round
   case rel=>exact⟨k+1,y/2,dG (by omega),dG (by omega),by omega,I,uH H⟩
   case measure=>simp[intOf];omega
theorem jH{k k':IntKind}{a b c d:Int}(h:a=b)(l:c=d):Ending.returned (.tuple #[.int k a,.int k' c])=.returned (.tuple #[.int k b,.int k' d]):=by rw[h,l]
end Go.Proofs.YtcbcmlaogehimaaGreatDoor
