/- Part 5 of the texts. -/
import Derived.Test.YtdhmglmccafbnaaGreatDoorPartw04
import Derived.Lib.BitFns
set_option maxHeartbeats 4000000
namespace Go.Proofs.YtdhmglmccafbnaaGreatDoor
open Go.RowKit
attribute [local go_sem ↓] Go.wp_at_zero Go.wp_at_succ
theorem t6(A B:List Nat)(fA:aX A)(f:aX B)(l:bG A)(cB:bG B):mT A B=bc (ai A) (ai B):=by
 unfold mT
 split
 ·rfl
 ·rename_i u
  rcases Nat.lt_or_gt_of_ne u with h|h
  ·have:ai A<ai B:=by
    have:=dj B A fA cB
    by_cases d:ai B≤ai A
    ·have:=this d;omega
    ·omega
   rw[dl (by omega),dl (by omega)]
  ·have:ai B<ai A:=by
    have:=dj A B f l
    by_cases d:ai A≤ai B
    ·have:=this d;omega
    ·omega
   rw[d9 (by omega),d9 (by omega)]
theorem mW(d f:Bool)(D F:Option Addr)(G H:Nat)(A B:List Nat)(w:World)(hA:ag w D G A)(hB:ag w F H B)(la:A.length≤35184372088830)(lb:B.length≤35184372088830)(cA:bG A)(cB:bG B)(hn:d≠f):
  Calls Tryz.prog 314 #[.agg #[.bool d,.slice D A.length G],.agg #[.bool f,.slice F B.length H]] w fun e w'=>∃v,e=.returned (.tuple #[v,.int .i64 (bd (ad d A+ad f B))])∧an w.heap.size w' v (du (ad d A+ad f B))∧Below w.heap.size w w':=by
 have U:(∀L:List Nat,ai L=ai B-ai A→ai A<ai B→ad f L=ad d A+ad f B)∧(∀L:List Nat,ai L=ai A-ai B→ai B≤ai A→ad d L=ad d A+ad f B):=by
  constructor<;>intro L h h'<;>unfold ad<;>cases d<;>cases f<;>simp at hn<;>simp[h]<;>omega
 have am:=t6 A B hA.2.1 hB.2.1 cA cB
 have HS:=aa U
 clear U
 generalize ad d A+ad f B=z at*
 have aI:(d==f)=false:=by simpa using hn
 have HC:=aa am
 clear am hn
 go_enter Tryz.func314,Tryz.ntmps314
 go_wp2_with fail
 refine(kQ D F G H A B _ (hA.below ?_) (hB.below ?_) (by omega) (by omega)).mono ?_
 ·exact(((Below.refl _ _).alloc (Nat.le_refl _) _).alloc (by simp) _).alloc (by simp;omega) _
 ·exact(((Below.refl _ _).alloc (Nat.le_refl _) _).alloc (by simp) _).alloc (by simp;omega) _
 rintro e w' ⟨rfl,m,rfl⟩
 rw[uH HC]
 by_cases hv:ai A<ai B
 ·rw[dl (by omega)]
  clear HC
  have V:=aa (fun L h=>(uH HS).1 L h hv)
  clear HS
  go_wp2
  refine aj (fun W=>Below w.heap.size w W∧W.heap.size=w.heap.size+3∧az W w.heap.size (.bool d) (.slice D A.length G)∧az W (w.heap.size+1) (.bool f) (.slice F B.length H)∧az W (w.heap.size+2) (.bool false) (.slice none 0 0)) ?_ ?_
  ·refine⟨below_drewN ((((Below.refl _ _).alloc (Nat.le_refl _) _).alloc (by simp) _).alloc (by simp;omega) _) _,by simp,(((az.new _ _ _).old _).old _).drewN _,?_,?_⟩
   ·have:=((az.new (w.alloc (.cells #[.bool d,.slice D A.length G] 39)) (.bool f) (.slice F B.length H)).old (.cells #[.bool false,.slice none 0 0] 39)).drewN m
    simpa using this
   ·have:=(az.new ((w.alloc (.cells #[.bool d,.slice D A.length G] 39)).alloc (.cells #[.bool f,.slice F B.length H] 39)) (.bool false) (.slice none 0 0)).drewN m
    simpa using this
  rintro N ⟨l,O,x0,x1,x2⟩
  have hK:∀w',Below (w.heap.size+2) N w'→Below (w.heap.size+2) N w'∧w'.cell? ⟨w.heap.size+1,0,none⟩=some (.bool f)∧w'.cell? ⟨w.heap.size,1,none⟩=some (.slice D A.length G)∧w'.cell? ⟨w.heap.size+1,1,none⟩=some (.slice F B.length H):=fun w' h=>
   ⟨h,(x1.below h (by omega)).c0,(x0.below h (by omega)).c1,(x1.below h (by omega)).c1⟩
  have X:=aa hK
  have HA:=aa (hA.below l)
  have HB:=aa (hB.below l)
  have X2:=aa x2
  have Y:=aa l
  have Z:ai A≤ai B:=by omega
  clear hK hA hB x0 x1 x2 l
  go_region_held3(fun w'=>Below (w.heap.size+2) N w'∧w'.cell? ⟨w.heap.size+1,0,none⟩=some (.bool f)∧w'.cell? ⟨w.heap.size,1,none⟩=some (.slice D A.length G)∧w'.cell? ⟨w.heap.size+1,1,none⟩=some (.slice F B.length H))
   (first|exact uH X _ (Below.refl _ _).drew|exact uH X _ (by assumption)|exact uH X _ ((K.setCell (by simp) _).setCell (by simp) _))
   (first|(go_at_call 317;refine(jX F D H G B A _ ((uH HB).below ((Below.refl _ _).drew)) ((uH HA).below ((Below.refl _ _).drew)) lb la Z).mono ?_;rintro e w1 ⟨ax,ap,Q,rfl,g1,g2,g3,g4,u⟩;have ae:Below (w.heap.size+2) N w1:=((Below.refl _ _).drew).trans (u.mono (by simp[O]));have X3:=aa ((uH X2).drew.below u (by simp[O]));have G1:=aa g1;have G2:=aa g2;have G4:=aa g4;have L4:Q.length≤35184372088832:=(by omega);have s1:=u.size;clear g1 g2 g4 g3 u)|(go_at_call 288;refine(jb _ f _ _ _ _ (uH G1) (uH G2) L4).mono ?_;rintro e w2 ⟨v,rfl,⟨n2,a2,c2,L2,rfl,i1⟩,J⟩;have K:Below (w.heap.size+2) N w2:=ae.trans (J.mono (by simp at s1;omega));have M:=(uH X3).below J (by simp at s1;omega);have y0:=M.c0;have y1:=M.c1;have f0:=M.free 0;have f1:=M.free 1;have I1:=aa i1;clear i1 J M))
  have hz:=uH V Q (uH G4)
  have HI:=aa (hz▸uH I1)
  have HE:=aa (show bd (ad f Q)=bd z by rw[hz])
  clear hz
  go_wp2
  refine bodyPost_ret (v:=.tuple #[.agg #[.bool n2,.slice a2 L2.length c2],.int .i64 (bd (ad f Q))]) (by simp[results,Tryz.results314,go_sem,y0,y1]) rfl ⟨.agg #[.bool n2,.slice a2 L2.length c2],?_,?_,?_⟩
  ·rw[uH HE]
  ·exact an.stored (uH HI) (by simp;omega) (by simp;omega) (by simp;omega) _ _
  ·exact(((uH Y).trans (K.mono (by omega))).setCell (by simp;omega) _).setCell (by simp;omega) _
 ·have a0:¬bc (ai A) (ai B)<0:=by unfold bc;rw[if_neg (by omega)];split<;>omega
  generalize bc (ai A) (ai B)=cm at*
  clear HC
  have V:=aa (fun L h=>(uH HS).2 L h (by omega))
  clear HS
  go_wp2
  refine aj (fun W=>Below w.heap.size w W∧W.heap.size=w.heap.size+3∧az W w.heap.size (.bool d) (.slice D A.length G)∧az W (w.heap.size+1) (.bool f) (.slice F B.length H)∧az W (w.heap.size+2) (.bool false) (.slice none 0 0)) ?_ ?_
  ·refine⟨below_drewN ((((Below.refl _ _).alloc (Nat.le_refl _) _).alloc (by simp) _).alloc (by simp;omega) _) _,by simp,(((az.new _ _ _).old _).old _).drewN _,?_,?_⟩
   ·have:=((az.new (w.alloc (.cells #[.bool d,.slice D A.length G] 39)) (.bool f) (.slice F B.length H)).old (.cells #[.bool false,.slice none 0 0] 39)).drewN m
    simpa using this
   ·have:=(az.new ((w.alloc (.cells #[.bool d,.slice D A.length G] 39)).alloc (.cells #[.bool f,.slice F B.length H] 39)) (.bool false) (.slice none 0 0)).drewN m
    simpa using this
  rintro N ⟨l,O,x0,x1,x2⟩
  have hK:∀w',Below (w.heap.size+2) N w'→Below (w.heap.size+2) N w'∧w'.cell? ⟨w.heap.size,0,none⟩=some (.bool d)∧w'.cell? ⟨w.heap.size,1,none⟩=some (.slice D A.length G)∧w'.cell? ⟨w.heap.size+1,1,none⟩=some (.slice F B.length H):=fun w' h=>
   ⟨h,(x0.below h (by omega)).c0,(x0.below h (by omega)).c1,(x1.below h (by omega)).c1⟩
  have X:=aa hK
  have HA:=aa (hA.below l)
  have HB:=aa (hB.below l)
  have X2:=aa x2
  have Y:=aa l
  have Z:ai B≤ai A:=by omega
  clear hK hA hB x0 x1 x2 l
  go_region_held3(fun w'=>Below (w.heap.size+2) N w'∧w'.cell? ⟨w.heap.size,0,none⟩=some (.bool d)∧w'.cell? ⟨w.heap.size,1,none⟩=some (.slice D A.length G)∧w'.cell? ⟨w.heap.size+1,1,none⟩=some (.slice F B.length H))
   (first|exact uH X _ (Below.refl _ _).drew|exact uH X _ (by assumption)|exact uH X _ ((K.setCell (by simp) _).setCell (by simp) _))
   (first|(go_at_call 317;refine(jX D F G H A B _ ((uH HA).below ((Below.refl _ _).drew)) ((uH HB).below ((Below.refl _ _).drew)) la lb Z).mono ?_;rintro e w1 ⟨ax,ap,Q,rfl,g1,g2,g3,g4,u⟩;have ae:Below (w.heap.size+2) N w1:=((Below.refl _ _).drew).trans (u.mono (by simp[O]));have X3:=aa ((uH X2).drew.below u (by simp[O]));have G1:=aa g1;have G2:=aa g2;have G4:=aa g4;have L4:Q.length≤35184372088832:=(by omega);have s1:=u.size;clear g1 g2 g4 g3 u)|(go_at_call 288;refine(jb _ d _ _ _ _ (uH G1) (uH G2) L4).mono ?_;rintro e w2 ⟨v,rfl,⟨n2,a2,c2,L2,rfl,i1⟩,J⟩;have K:Below (w.heap.size+2) N w2:=ae.trans (J.mono (by simp at s1;omega));have M:=(uH X3).below J (by simp at s1;omega);have y0:=M.c0;have y1:=M.c1;have f0:=M.free 0;have f1:=M.free 1;have I1:=aa i1;clear i1 J M))
  have hz:=uH V Q (uH G4)
  have HI:=aa (hz▸uH I1)
  have HE:=aa (show bd (ad d Q)=bd z by rw[hz])
  clear hz
  go_wp2
  refine bodyPost_ret (v:=.tuple #[.agg #[.bool n2,.slice a2 L2.length c2],.int .i64 (bd (ad d Q))]) (by simp[results,Tryz.results314,go_sem,y0,y1]) rfl ⟨.agg #[.bool n2,.slice a2 L2.length c2],?_,?_,?_⟩
  ·rw[uH HE]
  ·exact an.stored (uH HI) (by simp;omega) (by simp;omega) (by simp;omega) _ _
  ·exact(((uH Y).trans (K.mono (by omega))).setCell (by simp;omega) _).setCell (by simp;omega) _
theorem oR(d f:Bool)(h l:Option Addr)(u z:Nat)(A B:List Nat)(w:World)(D:ag w h u A)(F:ag w l z B)(G:A.length≤35184372088830)(H:B.length≤35184372088830)(K:bG A)(cB:bG B):
  Calls Tryz.prog 314 #[.agg #[.bool d,.slice h A.length u],.agg #[.bool f,.slice l B.length z]] w fun e w'=>∃v,e=.returned (.tuple #[v,.int .i64 (bd (ad d A+ad f B))])∧an w.heap.size w' v (du (ad d A+ad f B))∧Below w.heap.size w w':=by
 by_cases J:d=f
 ·subst J;exact mU d h l u z A B w D F G H
 ·exact mW d f h l u z A B w D F G H K cB J
theorem rI(d:Bool)(u D:Option Addr)(F G:Nat)(A B:List Nat)(w:World)(Z:ag w u F A)(hB:ag w D G B)(la:A.length≤35184372088830)(lb:B.length≤35184372088830):
  Calls Tryz.prog 74 #[.agg #[.bool d,.slice u A.length F],.agg #[.bool d,.slice D B.length G]] w fun e w'=>∃v,e=.returned v∧aB (max A.length B.length+1) w.heap.size w' v (ad d A+ad d B)∧Below w.heap.size w w':=by
 have H:∀L:List Nat,ai L=ai A+ai B→ad d L=ad d A+ad d B:=by
  intro L h;unfold ad;cases d<;>simp[h]<;>omega
 have HS:=aa H
 clear H
 generalize ad d A+ad d B=z at*
 go_enter Tryz.func74,Tryz.ntmps74
 go_wp2
 refine aj (fun W=>Below w.heap.size w W∧W.heap.size=w.heap.size+3∧az W w.heap.size (.bool d) (.slice u A.length F)∧az W (w.heap.size+1) (.bool d) (.slice D B.length G)∧az W (w.heap.size+2) (.bool false) (.slice none 0 0)) ?_ ?_
 ·refine⟨((((Below.refl _ _).alloc (Nat.le_refl _) _).alloc (by simp) _).alloc (by simp;omega) _),by simp,((az.new _ _ _).old _).old _,?_,?_⟩
  ·have:=(az.new (w.alloc (.cells #[.bool d,.slice u A.length F] 39)) (.bool d) (.slice D B.length G)).old (.cells #[.bool false,.slice none 0 0] 39)
   simpa using this
  ·have:=az.new ((w.alloc (.cells #[.bool d,.slice u A.length F] 39)).alloc (.cells #[.bool d,.slice D B.length G] 39)) (.bool false) (.slice none 0 0)
   simpa using this
 rintro N ⟨f,O,X,x1,x2⟩
 have hK:∀w',Below (w.heap.size+2) N w'→Below (w.heap.size+2) N w'∧w'.cell? ⟨w.heap.size,0,none⟩=some (.bool d)∧w'.cell? ⟨w.heap.size,1,none⟩=some (.slice u A.length F)∧w'.cell? ⟨w.heap.size+1,1,none⟩=some (.slice D B.length G):=fun w' h=>
  ⟨h,(X.below h (by omega)).c0,(X.below h (by omega)).c1,(x1.below h (by omega)).c1⟩
 have Q:=aa hK
 have HA:=aa (Z.below f)
 have HB:=aa (hB.below f)
 have X2:=aa x2
 have U:=aa f
 clear hK Z hB X x1 x2 f
 go_region_held3(fun w'=>Below (w.heap.size+2) N w'∧w'.cell? ⟨w.heap.size,0,none⟩=some (.bool d)∧w'.cell? ⟨w.heap.size,1,none⟩=some (.slice u A.length F)∧w'.cell? ⟨w.heap.size+1,1,none⟩=some (.slice D B.length G))
  (first|exact uH Q _ (Below.refl _ _).drew|exact uH Q _ (by assumption)|exact uH Q _ ((K.setCell (by simp) _).setCell (by simp) _))
  (first|(go_at_call 127;refine(rH u D F G A B _ ((uH HA).below ((Below.refl _ _).drew)) ((uH HB).below ((Below.refl _ _).drew)) la lb).mono ?_;rintro e w1 ⟨am,ae,Y,rfl,g1,g2,g3,g4,l⟩;have V:Below (w.heap.size+2) N w1:=((Below.refl _ _).drew).trans (l.mono (by simp[O]));have X3:=aa ((uH X2).drew.below l (by simp[O]));have G1:=aa g1;have G2:=aa g2;have G4:=aa g4;have L4:Y.length≤35184372088832:=(by omega);have L5:Y.length≤max A.length B.length+1:=(by omega);have s1:=l.size;clear g1 g2 g4 g3 l)|(go_at_call 101;refine(c8 _ d _ _ _ _ (uH G1) (uH G2) L4).mono ?_;rintro e w2 ⟨v,rfl,⟨n2,a2,c2,L2,rfl,i1⟩,J⟩;have K:Below (w.heap.size+2) N w2:=V.trans (J.mono (by simp at s1;omega));have M:=(uH X3).below J (by simp at s1;omega);have y0:=M.c0;have y1:=M.c1;have f0:=M.free 0;have f1:=M.free 1;have I1:=aa i1;clear i1 J M))
 have hz:=uH HS Y (uH G4)
 have HI:=aa (hz▸uH I1)
 clear hz
 go_wp2
 refine bodyPost_ret (v:=.agg #[.bool n2,.slice a2 L2.length c2]) (by simp[results,Tryz.results74,go_sem,y0,y1]) rfl ⟨.agg #[.bool n2,.slice a2 L2.length c2],rfl,?_,?_⟩
 ·exact(aB.stored (uH HI) (by simp;omega) (by simp;omega) (by simp;omega) _ _).more (by have:=L5;omega)
 ·exact(((uH U).trans (K.mono (by omega))).setCell (by simp;omega) _).setCell (by simp;omega) _
theorem rJ(l u:Bool)(D F:Option Addr)(G H:Nat)(A B:List Nat)(w:World)(hA:ag w D G A)(hB:ag w F H B)(la:A.length≤35184372088830)(lb:B.length≤35184372088830)(hn:l≠u):
  Calls Tryz.prog 74 #[.agg #[.bool l,.slice D A.length G],.agg #[.bool u,.slice F B.length H]] w fun e w'=>∃v,e=.returned v∧aB (max A.length B.length+1) w.heap.size w' v (ad l A+ad u B)∧Below w.heap.size w w':=by
 have Q:(∀L:List Nat,ai L=ai B-ai A→ai A<ai B→ad u L=ad l A+ad u B)∧(∀L:List Nat,ai L=ai A-ai B→ai B≤ai A→ad l L=ad l A+ad u B):=by
  constructor<;>intro L h h'<;>unfold ad<;>cases l<;>cases u<;>simp at hn<;>simp[h]<;>omega
 have HS:=aa Q
 clear Q
 generalize ad l A+ad u B=z at*
 have ap:(l==u)=false:=by simpa using hn
 clear hn
 go_enter Tryz.func74,Tryz.ntmps74
 go_wp2_with fail
 refine(yS D F G H A B _ (hA.below ?_) (hB.below ?_) (by omega) (by omega)).mono ?_
 ·exact(((Below.refl _ _).alloc (Nat.le_refl _) _).alloc (by simp) _).alloc (by simp;omega) _
 ·exact(((Below.refl _ _).alloc (Nat.le_refl _) _).alloc (by simp) _).alloc (by simp;omega) _
 rintro e w' ⟨rfl,rfl⟩
 by_cases hv:ai A<ai B
 ·rw[dl (by omega)]
  have U:=aa (fun L h=>(uH HS).1 L h hv)
  clear HS
  go_wp2
  refine aj (fun W=>Below w.heap.size w W∧W.heap.size=w.heap.size+3∧az W w.heap.size (.bool l) (.slice D A.length G)∧az W (w.heap.size+1) (.bool u) (.slice F B.length H)∧az W (w.heap.size+2) (.bool false) (.slice none 0 0)) ?_ ?_
  ·refine⟨((((Below.refl _ _).alloc (Nat.le_refl _) _).alloc (by simp) _).alloc (by simp;omega) _),by simp,(((az.new _ _ _).old _).old _),?_,?_⟩
   ·have:=((az.new (w.alloc (.cells #[.bool l,.slice D A.length G] 39)) (.bool u) (.slice F B.length H)).old (.cells #[.bool false,.slice none 0 0] 39))
    simpa using this
   ·have:=(az.new ((w.alloc (.cells #[.bool l,.slice D A.length G] 39)).alloc (.cells #[.bool u,.slice F B.length H] 39)) (.bool false) (.slice none 0 0))
    simpa using this
  rintro N ⟨d,O,x0,x1,x2⟩
  have hK:∀w',Below (w.heap.size+2) N w'→Below (w.heap.size+2) N w'∧w'.cell? ⟨w.heap.size+1,0,none⟩=some (.bool u)∧w'.cell? ⟨w.heap.size,1,none⟩=some (.slice D A.length G)∧w'.cell? ⟨w.heap.size+1,1,none⟩=some (.slice F B.length H):=fun w' h=>
   ⟨h,(x1.below h (by omega)).c0,(x0.below h (by omega)).c1,(x1.below h (by omega)).c1⟩
  have V:=aa hK
  have HA:=aa (hA.below d)
  have HB:=aa (hB.below d)
  have X2:=aa x2
  have X:=aa d
  have Y:ai A≤ai B:=by omega
  clear hK hA hB x0 x1 x2 d
  go_region_held3(fun w'=>Below (w.heap.size+2) N w'∧w'.cell? ⟨w.heap.size+1,0,none⟩=some (.bool u)∧w'.cell? ⟨w.heap.size,1,none⟩=some (.slice D A.length G)∧w'.cell? ⟨w.heap.size+1,1,none⟩=some (.slice F B.length H))
   (first|exact uH V _ (Below.refl _ _).drew|exact uH V _ (by assumption)|exact uH V _ ((K.setCell (by simp) _).setCell (by simp) _))
   (first|(go_at_call 130;refine(pr F D H G B A _ ((uH HB).below ((Below.refl _ _).drew)) ((uH HA).below ((Below.refl _ _).drew)) lb la Y).mono ?_;rintro e w1 ⟨am,ae,L',rfl,g1,g2,g3,g4,f⟩;have Z:Below (w.heap.size+2) N w1:=((Below.refl _ _).drew).trans (f.mono (by simp[O]));have X3:=aa ((uH X2).drew.below f (by simp[O]));have G1:=aa g1;have G2:=aa g2;have G4:=aa g4;have L4:L'.length≤35184372088832:=(by omega);have L5:L'.length≤max A.length B.length+1:=(by omega);have s1:=f.size;clear g1 g2 g4 g3 f)|(go_at_call 101;refine(c8 _ u _ _ _ _ (uH G1) (uH G2) L4).mono ?_;rintro e w2 ⟨v,rfl,⟨n2,a2,c2,L2,rfl,i1⟩,J⟩;have K:Below (w.heap.size+2) N w2:=Z.trans (J.mono (by simp at s1;omega));have M:=(uH X3).below J (by simp at s1;omega);have y0:=M.c0;have y1:=M.c1;have f0:=M.free 0;have f1:=M.free 1;have I1:=aa i1;clear i1 J M))
  have hz:=uH U L' (uH G4)
  have HI:=aa (hz▸uH I1)
  clear hz
  go_wp2
  refine bodyPost_ret (v:=.agg #[.bool n2,.slice a2 L2.length c2]) (by simp[results,Tryz.results74,go_sem,y0,y1]) rfl ⟨.agg #[.bool n2,.slice a2 L2.length c2],rfl,?_,?_⟩
  ·exact(aB.stored (uH HI) (by simp;omega) (by simp;omega) (by simp;omega) _ _).more (by have:=L5;omega)
  ·exact(((uH X).trans (K.mono (by omega))).setCell (by simp;omega) _).setCell (by simp;omega) _
 ·have ax:¬bc (ai A) (ai B)<0:=by unfold bc;rw[if_neg (by omega)];split<;>omega
  generalize bc (ai A) (ai B)=cm at*
  have U:=aa (fun L h=>(uH HS).2 L h (by omega))
  clear HS
  go_wp2
  refine aj (fun W=>Below w.heap.size w W∧W.heap.size=w.heap.size+3∧az W w.heap.size (.bool l) (.slice D A.length G)∧az W (w.heap.size+1) (.bool u) (.slice F B.length H)∧az W (w.heap.size+2) (.bool false) (.slice none 0 0)) ?_ ?_
  ·refine⟨((((Below.refl _ _).alloc (Nat.le_refl _) _).alloc (by simp) _).alloc (by simp;omega) _),by simp,(((az.new _ _ _).old _).old _),?_,?_⟩
   ·have:=((az.new (w.alloc (.cells #[.bool l,.slice D A.length G] 39)) (.bool u) (.slice F B.length H)).old (.cells #[.bool false,.slice none 0 0] 39))
    simpa using this
   ·have:=(az.new ((w.alloc (.cells #[.bool l,.slice D A.length G] 39)).alloc (.cells #[.bool u,.slice F B.length H] 39)) (.bool false) (.slice none 0 0))
    simpa using this
  rintro N ⟨d,O,x0,x1,x2⟩
  have hK:∀w',Below (w.heap.size+2) N w'→Below (w.heap.size+2) N w'∧w'.cell? ⟨w.heap.size,0,none⟩=some (.bool l)∧w'.cell? ⟨w.heap.size,1,none⟩=some (.slice D A.length G)∧w'.cell? ⟨w.heap.size+1,1,none⟩=some (.slice F B.length H):=fun w' h=>
   ⟨h,(x0.below h (by omega)).c0,(x0.below h (by omega)).c1,(x1.below h (by omega)).c1⟩
  have V:=aa hK
  have HA:=aa (hA.below d)
  have HB:=aa (hB.below d)
  have X2:=aa x2
  have X:=aa d
  have Y:ai B≤ai A:=by omega
  clear hK hA hB x0 x1 x2 d
  go_region_held3(fun w'=>Below (w.heap.size+2) N w'∧w'.cell? ⟨w.heap.size,0,none⟩=some (.bool l)∧w'.cell? ⟨w.heap.size,1,none⟩=some (.slice D A.length G)∧w'.cell? ⟨w.heap.size+1,1,none⟩=some (.slice F B.length H))
   (first|exact uH V _ (Below.refl _ _).drew|exact uH V _ (by assumption)|exact uH V _ ((K.setCell (by simp) _).setCell (by simp) _))
   (first|(go_at_call 130;refine(pr D F G H A B _ ((uH HA).below ((Below.refl _ _).drew)) ((uH HB).below ((Below.refl _ _).drew)) la lb Y).mono ?_;rintro e w1 ⟨am,ae,L',rfl,g1,g2,g3,g4,f⟩;have Z:Below (w.heap.size+2) N w1:=((Below.refl _ _).drew).trans (f.mono (by simp[O]));have X3:=aa ((uH X2).drew.below f (by simp[O]));have G1:=aa g1;have G2:=aa g2;have G4:=aa g4;have L4:L'.length≤35184372088832:=(by omega);have L5:L'.length≤max A.length B.length+1:=(by omega);have s1:=f.size;clear g1 g2 g4 g3 f)|(go_at_call 101;refine(c8 _ l _ _ _ _ (uH G1) (uH G2) L4).mono ?_;rintro e w2 ⟨v,rfl,⟨n2,a2,c2,L2,rfl,i1⟩,J⟩;have K:Below (w.heap.size+2) N w2:=Z.trans (J.mono (by simp at s1;omega));have M:=(uH X3).below J (by simp at s1;omega);have y0:=M.c0;have y1:=M.c1;have f0:=M.free 0;have f1:=M.free 1;have I1:=aa i1;clear i1 J M))
  have hz:=uH U L' (uH G4)
  have HI:=aa (hz▸uH I1)
  clear hz
  go_wp2
  refine bodyPost_ret (v:=.agg #[.bool n2,.slice a2 L2.length c2]) (by simp[results,Tryz.results74,go_sem,y0,y1]) rfl ⟨.agg #[.bool n2,.slice a2 L2.length c2],rfl,?_,?_⟩
  ·exact(aB.stored (uH HI) (by simp;omega) (by simp;omega) (by simp;omega) _ _).more (by have:=L5;omega)
  ·exact(((uH X).trans (K.mono (by omega))).setCell (by simp;omega) _).setCell (by simp;omega) _
theorem t7(d f:Bool)(h l:Option Addr)(u z:Nat)(A B:List Nat)(w:World)(D:ag w h u A)(F:ag w l z B)(G:A.length≤35184372088830)(H:B.length≤35184372088830):
  Calls Tryz.prog 74 #[.agg #[.bool d,.slice h A.length u],.agg #[.bool f,.slice l B.length z]] w fun e w'=>∃v,e=.returned v∧aB (max A.length B.length+1) w.heap.size w' v (ad d A+ad f B)∧Below w.heap.size w w':=by
 by_cases J:d=f
 ·subst J;exact rI d h l u z A B w D F G H
 ·exact rJ d f h l u z A B w D F G H J
def t8(na:Bool)(A:List Nat)(nb:Bool)(B:List Nat):Int:=if al na A&&al nb B then 0 else 1
theorem jq(d u:Bool)(H D:Option Addr)(J F:Nat)(A B:List Nat)(w:World)(O:ag w H J A)(Q:ag w D F B)(U:A.length≤35184372088830)(V:B.length≤35184372088830):
  Calls Tryz.prog 306 #[.agg #[.bool d,.slice H A.length J],.agg #[.bool u,.slice D B.length F]] w fun e w'=>e=.returned (.int .i64 (t8 d A u B))∧Below w.heap.size w w':=by
 have N:(al d A=false→t8 d A u B=1)∧(al d A=true→t8 d A u B=d6 u B):=by
  constructor<;>intro h<;>simp[t8,d6,h]
 have G:=aa N
 clear N
 generalize t8 d A u B=r at*
 go_enter Tryz.func306,Tryz.ntmps306
 go_wp2_with fail
 refine(dL d H J A _ (O.below (((Below.refl _ _).alloc (Nat.le_refl _) _).alloc (by simp) _)) U).mono ?_
 rintro e L ⟨rfl,l⟩
 have f:Below w.heap.size w L:=(((Below.refl _ _).alloc (Nat.le_refl _) _).alloc (by simp) _).trans (l.mono (by simp;omega))
 have X:L.cell? ⟨w.heap.size+1,0,none⟩=some (.bool u):=by rw[l.cell (p:=⟨w.heap.size+1,0,none⟩) (by simp)];simp[go_sem]
 have Y:L.cell? ⟨w.heap.size+1,1,none⟩=some (.slice D B.length F):=by rw[l.cell (p:=⟨w.heap.size+1,1,none⟩) (by simp)];simp[go_sem]
 clear l
 cases hr:al d A
 ·have K:=aa ((uH G).1 hr)
  have z:d6 d A=1:=by simp[d6,hr]
  rw[z]
  clear z hr G
  go_wp2
  go_ret
  exact⟨aH (uH K).symm,f⟩
 ·have K:=aa ((uH G).2 hr)
  have z:d6 d A=0:=by simp[d6,hr]
  rw[z]
  clear z hr G
  go_wp2_with fail
  refine(dL u D F B _ (Q.below f) V).mono ?_
  rintro e Z ⟨rfl,M⟩
  go_wp2
  go_ret
  exact⟨aH (uH K).symm,f.trans (M.mono f.size)⟩
end Go.Proofs.YtdhmglmccafbnaaGreatDoor
namespace Go.Proofs.YtdhmglmccafbnaaGreatDoor
open Go.RowKit
def ps(ok:Bool)(z:Int):Int:=if ok then bd z else 1
def pu(ok:Bool)(z:Int):Int:=if ok then du z else 0
theorem fO(z:Int):ps true z=bd z:=by unfold ps;rw[if_pos rfl]
theorem fU(z:Int):pu true z=du z:=by unfold pu;rw[if_pos rfl]
theorem lG(z:Int):ps false z=1:=by unfold ps;rw[if_neg (by decide)]
theorem lI(z:Int):pu false z=0:=by unfold pu;rw[if_neg (by decide)]
theorem au{neg:Bool}{L:List Nat}(h:al neg L=true):L.length≤512∧bG L∧(neg=true→L≠ []):=by
 simp only[al,Bool.and_eq_true,decide_eq_true_eq,Bool.not_eq_true',Bool.and_eq_false_iff,decide_eq_false_iff_not,Bool.or_eq_true]at h
 obtain⟨⟨l,d⟩,f⟩:=h
 refine⟨l,?_,?_⟩
 ·rcases f with f|f
  ·exact .inl (List.length_eq_zero_iff.1 f)
  ·exact .inr f
 ·rintro u rfl
  rcases d with d|d
  ·simp at d
  ·rw[u]at d;cases d
theorem yT(d:Bool)(B:List Nat):ad (!d) B= -ad d B:=by unfold ad;cases d<;>simp
theorem Da(f l:Bool)(D F:Option Addr)(G H:Nat)(A B:List Nat)(w:World)(V:ag w D G A)(X:ag w F H B)(Y:A.length≤35184372088830)(Z:B.length≤35184372088830):
  Calls Tryz.prog 311 #[.agg #[.bool f,.slice D A.length G],.agg #[.bool l,.slice F B.length H]] w fun e w'=>∃v,e=.returned (.tuple #[v,.int .i64 (ps (al f A&&al l B) (ad f A+ad l B))])∧an w.heap.size w' v (pu (al f A&&al l B) (ad f A+ad l B))∧Below w.heap.size w w':=by
 have hC:(al f A&&al l B)=true→bG A∧bG B:=fun h=>by
  simp only[Bool.and_eq_true]at h;exact⟨(au h.1).2.1,(au h.2).2.1⟩
 have HC:=aa hC
 have H2:=aa (show t8 f A l B=if(al f A&&al l B)then 0 else 1 from rfl)
 clear hC
 generalize U:(al f A&&al l B)=ok at*
 clear U
 go_enter Tryz.func311,Tryz.ntmps311
 go_wp2_with fail
 have z:Below w.heap.size w (((w.alloc (.cells #[.bool f,.slice D A.length G] 39)).alloc (.cells #[.bool l,.slice F B.length H] 39)).alloc (.cells #[.bool false,.slice none 0 0] 39)):=
  (((Below.refl _ _).alloc (Nat.le_refl _) _).alloc (by simp) _).alloc (by simp;omega) _
 refine(jq f l D F G H A B _ (V.below z) (X.below z) Y Z).mono ?_
 rintro e J ⟨rfl,d⟩
 have ae:w.heap.size+3≤J.heap.size:=by have:=d.size;simpa using this
 have u:Below w.heap.size w J:=z.trans (d.mono (by simp;omega))
 have p0:J.cell? ⟨w.heap.size,0,none⟩=some (.bool f):=by rw[d.cell (p:=⟨w.heap.size,0,none⟩) (by simp;omega)];simp[go_sem]
 have p1:J.cell? ⟨w.heap.size,1,none⟩=some (.slice D A.length G):=by rw[d.cell (p:=⟨w.heap.size,1,none⟩) (by simp;omega)];simp[go_sem]
 have q0:J.cell? ⟨w.heap.size+1,0,none⟩=some (.bool l):=by rw[d.cell (p:=⟨w.heap.size+1,0,none⟩) (by simp)];simp[go_sem]
 have q1:J.cell? ⟨w.heap.size+1,1,none⟩=some (.slice F B.length H):=by rw[d.cell (p:=⟨w.heap.size+1,1,none⟩) (by simp)];simp[go_sem]
 have K:az J (w.heap.size+2) (.bool false) (.slice none 0 0):=by
  have:=az.new ((w.alloc (.cells #[.bool f,.slice D A.length G] 39)).alloc (.cells #[.bool l,.slice F B.length H] 39)) (.bool false) (.slice none 0 0)
  exact az.below (by simpa using this) d (by simp)
 rw[uH H2]
 clear d H2 z
 cases ok
 ·simp only[Bool.false_eq_true,if_false]
  have N:=K.c0;have O:=K.c1;have f0:=K.free 0;have f1:=K.free 1
  go_wp2
  refine bodyPost_ret (v:=.tuple #[.agg #[.bool false,.slice none 0 0],.int .i64 1]) (by simp[results,Tryz.results311,go_sem,N,O]) rfl ⟨.agg #[.bool false,.slice none 0 0],by rw[lG],by rw[lI];exact an.zero _ _ _ _,?_⟩
  exact(u.setCell (by simp;omega) _).setCell (by simp;omega) _
 ·obtain⟨cA,cB⟩:=uH HC rfl
  have CA:=aa cA
  have CB:=aa cB
  clear cA cB
  simp only[if_true]
  go_wp2_with fail
  refine(oR f l D F G H A B _ (V.below u) (X.below u) Y Z (uH CA) (uH CB)).mono ?_
  rintro e w2 ⟨v,rfl,⟨n2,a2,c2,L2,rfl,i1⟩,L⟩
  have M:=K.below L (by omega)
  have N:=M.c0;have O:=M.c1;have f0:=M.free 0;have f1:=M.free 1
  have I1:=aa i1
  have Q:=u.trans (L.mono u.size)
  clear i1
  go_wp2
  refine bodyPost_ret (v:=.tuple #[.agg #[.bool n2,.slice a2 L2.length c2],.int .i64 (bd (ad f A+ad l B))]) (by simp[results,Tryz.results311,go_sem,N,O]) rfl ⟨.agg #[.bool n2,.slice a2 L2.length c2],by rw[fO],?_,?_⟩
  ·rw[fU];exact an.stored (uH I1) (by simp;omega) (by simp;omega) (by omega) _ _
  ·exact(Q.setCell (by simp;omega) _).setCell (by simp;omega) _
attribute [local go_sem ↓] Go.wp_at_zero Go.wp_at_succ
theorem ag.box{w:World}{D:Option Addr}{f g:Nat}{L:List Nat}(h:ag w D f L){x:Bool}{a:Option Addr}{n c:Nat}(H:az w g (.bool x) (.slice a n c))(u J:Value):
  ag ((w.setCell ⟨g,0,none⟩ u).setCell ⟨g,1,none⟩ J) D f L:=by
 refine⟨h.1,h.2.1,?_⟩
 rcases h.2.2 with N|⟨b,d,O,Q,G⟩
 ·exact .inl N
 ·by_cases F:L= []
  ·exact .inl F
  ·have M:0<L.length:=List.length_pos_iff.2 F
   have l:b≠g:=by
    rintro rfl
    have z:=G 0 M
    rw[cell_of_row w b (d+0) _ _ _ H]at z
    rcases(show d=0∨d=1∨2≤d by omega)with e|e|e
    ·subst e;simp at z
    ·subst e;simp at z
    ·rw[Array.getElem?_eq_none (by simp;omega)]at z;simp at z
   refine .inr ⟨b,d,O,by simpa[World.setCell]using Q,fun i K=>?_⟩
   rw[aJ _ _ _ _ (by simpa using l),aJ _ _ _ _ (by simpa using l)]
   exact G i K
theorem mX(h:Bool)(u:Option Addr)(z:Nat)(B:List Nat)(w:World)(K:ag w u z B)(X:B.length≤35184372088830):
  Calls Tryz.prog 119 #[.agg #[.bool h,.slice u B.length z]] w fun e w'=>∃v,e=.returned v∧aB B.length 0 w' v (-ad h B)∧Below w.heap.size w w':=by
 have N:=aa (yT h B)
 go_enter Tryz.func119,Tryz.ntmps119
 go_wp2_with fail
 have d:Below w.heap.size w ((w.alloc (.cells #[.bool h,.slice u B.length z] 39)).alloc (.cells #[.bool false,.slice none 0 0] 39)):=((Below.refl _ _).alloc (Nat.le_refl _) _).alloc (by simp) _
 refine(c8 0 (!h) u z B _ (K.below d) (bs.zero K) (by omega)).mono ?_
 rw[uH N]
 rintro e V ⟨v,rfl,⟨F,G,H,J,rfl,M⟩,f⟩
 have l:az V (w.heap.size+1) (.bool false) (.slice none 0 0):=by
  have:=az.new (w.alloc (.cells #[.bool h,.slice u B.length z] 39)) (.bool false) (.slice none 0 0)
  exact az.below (by simpa using this) f (by simp)
 have O:=l.c0;have Q:=l.c1;have Y:=l.free 0;have Z:=l.free 1
 have L:=aa M
 have U:=aa l
 have D:=aa (d.trans (f.mono (by simp;omega)))
 clear M f d l
 go_wp2
 refine bodyPost_ret (v:=.agg #[.bool F,.slice G J.length H]) (by simp[results,Tryz.results119,go_sem,O,Q]) rfl ⟨.agg #[.bool F,.slice G J.length H],rfl,?_,?_⟩
 ·exact⟨F,G,H,J,rfl,(uH L).1.box (uH U) _ _,(uH L).2⟩
 ·exact((uH D).setCell (by simp) _).setCell (by simp) _
end Go.Proofs.YtdhmglmccafbnaaGreatDoor
namespace Go.Proofs.YtdhmglmccafbnaaGreatDoor
open Go.RowKit
set_option maxRecDepth 100000 in
theorem wI(x:Int)(w:World)(H:0≤x)(J:x≤4294967295):
  Calls Tryz.prog 270 #[.int .u32 x] w fun e w'=>e=.returned (.int .i64 (Lib.bitLen x.toNat))∧w=w':=by
 rcases(show x<256∨(256≤x∧x<65536)∨(65536≤x∧x<16777216)∨16777216≤x by omega)with h|⟨F,G⟩|⟨F,G⟩|h
 ·have D:=fun w=>Lib.run_index_len8tab (P:=Tryz.prog) w 9 .u8 (x) Tryz.underlying9 (by omega) (by omega)
  have d:=Lib.len8_eq ⟨(x).toNat,by omega⟩
  have f:=Lib.bitLen_le8 ⟨(x).toNat,by omega⟩
  have l:0≤Lib.len8 (x):=by simp only[Int.toNat_of_nonneg (show 0≤x by omega)]at d;rw[d];omega
  have u:Lib.len8 (x)≤8:=by simp only[Int.toNat_of_nonneg (show 0≤x by omega)]at d;rw[d];simp only at f;omega
  have z:Hid (Lib.len8 (x)=(Lib.bitLen (x).toNat:Int)):=by unfold Hid;simp only[Int.toNat_of_nonneg (show 0≤x by omega)]at d;exact d
  clear d f
  go_enter Tryz.func270,Tryz.ntmps270
  go_wp2
  go_ret
  refine⟨aH ?_,rfl⟩
  rw[z.out]
 ·have D:=fun w=>Lib.run_index_len8tab (P:=Tryz.prog) w 9 .u8 (x/256) Tryz.underlying9 (by omega) (by omega)
  have d:=Lib.len8_eq ⟨(x/256).toNat,by omega⟩
  have f:=Lib.bitLen_le8 ⟨(x/256).toNat,by omega⟩
  have l:0≤Lib.len8 (x/256):=by simp only[Int.toNat_of_nonneg (show 0≤x/256 by omega)]at d;rw[d];omega
  have u:Lib.len8 (x/256)≤8:=by simp only[Int.toNat_of_nonneg (show 0≤x/256 by omega)]at d;rw[d];simp only at f;omega
  have z:Hid (Lib.len8 (x/256)=(Lib.bitLen (x/256).toNat:Int)):=by unfold Hid;simp only[Int.toNat_of_nonneg (show 0≤x/256 by omega)]at d;exact d
  clear d f
  go_enter Tryz.func270,Tryz.ntmps270
  go_wp2
  go_ret
  refine⟨aH ?_,rfl⟩
  rw[z.out]
  have s:=Lib.bitLen_shift8 x.toNat (by omega) (by omega)
  rw[show(x/256).toNat=x.toNat/256 by omega]
  omega
 ·have D:=fun w=>Lib.run_index_len8tab (P:=Tryz.prog) w 9 .u8 (x/65536) Tryz.underlying9 (by omega) (by omega)
  have d:=Lib.len8_eq ⟨(x/65536).toNat,by omega⟩
  have f:=Lib.bitLen_le8 ⟨(x/65536).toNat,by omega⟩
  have l:0≤Lib.len8 (x/65536):=by simp only[Int.toNat_of_nonneg (show 0≤x/65536 by omega)]at d;rw[d];omega
  have u:Lib.len8 (x/65536)≤8:=by simp only[Int.toNat_of_nonneg (show 0≤x/65536 by omega)]at d;rw[d];simp only at f;omega
  have z:Hid (Lib.len8 (x/65536)=(Lib.bitLen (x/65536).toNat:Int)):=by unfold Hid;simp only[Int.toNat_of_nonneg (show 0≤x/65536 by omega)]at d;exact d
  clear d f
  go_enter Tryz.func270,Tryz.ntmps270
  go_wp2
  go_ret
  refine⟨aH ?_,rfl⟩
  rw[z.out]
  have s:=Lib.bitLen_shift16 x.toNat (by omega) (by omega)
  rw[show(x/65536).toNat=x.toNat/65536 by omega]
  omega
 ·have D:=fun w=>Lib.run_index_len8tab (P:=Tryz.prog) w 9 .u8 (x/65536/256) Tryz.underlying9 (by omega) (by omega)
  have d:=Lib.len8_eq ⟨(x/65536/256).toNat,by omega⟩
  have f:=Lib.bitLen_le8 ⟨(x/65536/256).toNat,by omega⟩
  have l:0≤Lib.len8 (x/65536/256):=by simp only[Int.toNat_of_nonneg (show 0≤x/65536/256 by omega)]at d;rw[d];omega
  have u:Lib.len8 (x/65536/256)≤8:=by simp only[Int.toNat_of_nonneg (show 0≤x/65536/256 by omega)]at d;rw[d];simp only at f;omega
  have z:Hid (Lib.len8 (x/65536/256)=(Lib.bitLen (x/65536/256).toNat:Int)):=by unfold Hid;simp only[Int.toNat_of_nonneg (show 0≤x/65536/256 by omega)]at d;exact d
  clear d f
  go_enter Tryz.func270,Tryz.ntmps270
  go_wp2
  go_ret
  refine⟨aH ?_,rfl⟩
  rw[z.out]
  have s:=Lib.bitLen_shift24 x.toNat (by omega) (by omega)
  rw[show(x/65536/256).toNat=x.toNat/16777216 by omega]
  omega
theorem lK:∀(f x:Nat),x<2^f→Lib.bitLenAux (f+1) x=Lib.bitLenAux f x
 |0,x,h=>by simp at h;subst h;rfl
 |f+1,x,h=>by
  have d:=lK f (x/2) (by rw[Nat.pow_succ]at h;omega)
  have l:Lib.bitLenAux (f+1+1) x=if x=0 then 0 else 1+Lib.bitLenAux (f+1) (x/2):=rfl
  have u:Lib.bitLenAux (f+1) x=if x=0 then 0 else 1+Lib.bitLenAux f (x/2):=rfl
  rw[l,u,d]
theorem lL(t:Nat)(f:0<t)(h:t<4294967296):Lib.bitLen t=1+Lib.bitLen (t/2):=by
 have d:Lib.bitLen t=1+Lib.bitLenAux 63 (t/2):=by
  unfold Lib.bitLen
  rw[Lib.bitLenAux,if_neg (by omega)]
 rw[d]
 unfold Lib.bitLen
 rw[←lK 63 (t/2) (by omega)]
theorem rK:Lib.bitLen 0=0:=rfl
theorem kS(t:Nat):Lib.bitLen t≤64:=by
 have:∀f x,Lib.bitLenAux f x≤f:=by
  intro f
  induction f with
  |zero=>intro x;simp[Lib.bitLenAux]
  |succ f ih=>intro x;rw[Lib.bitLenAux];split;omega;have:=ih (x/2);omega
 exact this 64 t
def dw(L:List Nat):Int:=if L.length=0 then 0 else 32*((L.length:Int)-1)+(Lib.bitLen (L[L.length-1]?.getD 0):Int)
theorem qk(neg:Bool)(l:Option Addr)(d:Nat)(L:List Nat)(w:World)(h:ag w l d L)(K:L.length≤35184372088830):
  Calls Tryz.prog 238 #[.agg #[.bool neg,.slice l L.length d]] w fun e w'=>e=.returned (.int .i64 (dw L))∧Below w.heap.size w w':=by
 by_cases f:L= []
 ·subst f
  go_enter Tryz.func238,Tryz.ntmps238
  go_wp2
  go_ret
  exact⟨aH (by simp[dw]),(Below.refl _ _).alloc (Nat.le_refl _) _⟩
 obtain⟨b,H,rfl,O,u⟩:=h.ne (List.length_pos_iff.2 f)
 have M:0<L.length:=List.length_pos_iff.2 f
 have z:=u (L.length-1) (by omega)
 have N:=h.lt (L.length-1)
 have D:Hid (dw L=32*((L.length:Int)-1)+(Lib.bitLen (L[L.length-1]?.getD 0):Int)):=by unfold Hid dw;rw[if_neg (by omega)]
 generalize dw L=r at*
 generalize J:L.length=n at*
 generalize L[n-1]?.getD 0=x at*
 clear J h u f
 have F:=kS x
 have G:((n:Int)==0)=false:=by simp;omega
 go_enter Tryz.func238,Tryz.ntmps238
 go_wp2_with(go_at_call 270;refine(wI _ _ (by omega) (by omega)).mono ?_;rw[Int.toNat_natCast];rintro e w' ⟨rfl,rfl⟩)
 go_ret
 exact⟨aH (by rw[D.out];omega),(Below.refl _ _).alloc (Nat.le_refl _) _⟩
theorem t9(neg:Bool)(G:Option Addr)(f:Nat)(L:List Nat)(w:World)(h:ag w G f L)(Y:L.length≤35184372088830):
  Calls Tryz.prog 170 #[.agg #[.bool neg,.slice G L.length f]] w fun e w'=>e=.returned (.int .i64 (dw L))∧Below w.heap.size w w':=by
 by_cases l:L= []
 ·subst l
  go_enter Tryz.func170,Tryz.ntmps170
  go_wp2
  go_ret
  exact⟨aH (by simp[dw]),(Below.refl _ _).alloc (Nat.le_refl _) _⟩
 obtain⟨b,U,rfl,hb,H⟩:=h.ne (List.length_pos_iff.2 l)
 have Z:0<L.length:=List.length_pos_iff.2 l
 have J:=H (L.length-1) (by omega)
 have K:=h.lt (L.length-1)
 have M:Hid (dw L=32*((L.length:Int)-1)+(Lib.bitLen (L[L.length-1]?.getD 0):Int)):=by unfold Hid dw;rw[if_neg (by omega)]
 generalize dw L=r at*
 generalize X:L.length=n at*
 generalize L[n-1]?.getD 0=x at*
 clear X h H l
 have N:=kS x
 have O:((n:Int)==0)=false:=by simp;omega
 go_enter Tryz.func170,Tryz.ntmps170
 go_wp2
 go_loop [3,4] (fun m t=>∃(k y:Nat),m=.int .i64 (32*((n:Int)-1)+(k:Int))∧t=.int .u32 (y:Int)∧y<4294967296∧k≤64∧Hid (k+Lib.bitLen y=Lib.bitLen x)) (fun _ t=>(intOf t).toNat)
 case atStart=>exact⟨0,x,cJ (by omega),rfl,K,by omega,by unfold Hid;omega⟩
 case round=>
  obtain⟨k,y,rfl,rfl,V,hk,u⟩:=hrel
  by_cases z:y=0
  ·subst z
   have d:=u.out
   rw[rK]at d
   have D:=aa d
   clear d u
   go_wp2
   go_ret
   exact⟨aH (by rw[M.out];have:=uH D;omega),(Below.refl _ _).alloc (Nat.le_refl _) _⟩
  ·have Q:=lL y (by omega) V
   have d:=u.out
   have D:=aa (show k+1+Lib.bitLen (y/2)=Lib.bitLen x by omega)
   have F:k+1≤64:=by omega
   clear Q d u
   go_wp2
   go_round
   case rel=>exact⟨k+1,y/2,cJ (by omega),cJ (by omega),by omega,F,uH D⟩
   case measure=>simp[intOf];omega
theorem gK{k k':IntKind}{a b c d:Int}(h:a=b)(f:c=d):Ending.returned (.tuple #[.int k a,.int k' c])=.returned (.tuple #[.int k b,.int k' d]):=by rw[h,f]
end Go.Proofs.YtdhmglmccafbnaaGreatDoor
