/- Part 4 of the texts. -/
import Derived.Test.YtmpkkhackbpflaaGreatDoorPartg03
set_option maxHeartbeats 1000000
namespace Go.Proofs.YtmpkkhackbpflaaGreatDoor
open Go.RowKit
attribute [local go_sem ↓] Go.wp_at_zero Go.wp_at_succ
theorem oW(d:Bool)(F G:Option Addr)(H I:Nat)(A B:List Nat)(w:World)(hA:af w F H A)(hB:af w G I B)(la:A.length≤35184372088830)(lb:B.length≤35184372088830):
  Calls Tryz.prog 267 #[.agg #[.bool d,.slice F A.length H],.agg #[.bool d,.slice G B.length I]] w fun e l=>∃v,e=.returned (.tuple #[v,.int .i64 (bO (aj d A+aj d B))])∧ar w.heap.size l v (eI (aj d A+aj d B))∧Below w.heap.size w l:=by
 have J:∀L:List Nat,val L=val A+val B→aj d L=aj d A+aj d B:=by
  intro L h;unfold aj;cases d<;>simp[h]<;>omega
 have HS:=ac J
 clear J
 generalize aj d A+aj d B=z at*
 go_enter Tryz.func267,Tryz.ntmps267
 go_wp2
 refine aG (fun W=>Below w.heap.size w W∧W.heap.size=w.heap.size+3∧aC W w.heap.size (.bool d) (.slice F A.length H)∧aC W (w.heap.size+1) (.bool d) (.slice G B.length I)∧aC W (w.heap.size+2) (.bool false) (.slice none 0 0)) ?_ ?_
 ·refine⟨((((Below.refl _ _).alloc (Nat.le_refl _) _).alloc (by simp) _).alloc (by simp;omega) _),by simp,((aC.new _ _ _).old _).old _,?_,?_⟩
  ·have:=(aC.new (w.alloc (.cells #[.bool d,.slice F A.length H] 55)) (.bool d) (.slice G B.length I)).old (.cells #[.bool false,.slice none 0 0] 55)
   simpa using this
  ·have:=aC.new ((w.alloc (.cells #[.bool d,.slice F A.length H] 55)).alloc (.cells #[.bool d,.slice G B.length I] 55)) (.bool false) (.slice none 0 0)
   simpa using this
 rintro Q ⟨t,T,x0,x1,x2⟩
 have hK:∀l,Below (w.heap.size+2) Q l→Below (w.heap.size+2) Q l∧l.cell? ⟨w.heap.size,0,none⟩=some (.bool d)∧l.cell? ⟨w.heap.size,1,none⟩=some (.slice F A.length H)∧l.cell? ⟨w.heap.size+1,1,none⟩=some (.slice G B.length I):=fun l h=>
  ⟨h,(x0.below h (by omega)).c0,(x0.below h (by omega)).c1,(x1.below h (by omega)).c1⟩
 have V:=ac hK
 have HA:=ac (hA.below t)
 have HB:=ac (hB.below t)
 have X2:=ac x2
 have X:=ac t
 clear hK hA hB x0 x1 x2 t
 go_region_held3(fun l=>Below (w.heap.size+2) Q l∧l.cell? ⟨w.heap.size,0,none⟩=some (.bool d)∧l.cell? ⟨w.heap.size,1,none⟩=some (.slice F A.length H)∧l.cell? ⟨w.heap.size+1,1,none⟩=some (.slice G B.length I))
  (first|exact uH V _ (Below.refl _ _).drew|exact uH V _ (by assumption)|exact uH V _ ((N.setCell (by simp) _).setCell (by simp) _))
  (first|(go_at_call 268;refine(sB F G H I A B _ ((uH HA).below ((Below.refl _ _).drew)) ((uH HB).below ((Below.refl _ _).drew)) la lb).mono ?_;rintro e w1 ⟨ad,aa,U,rfl,g1,g2,g3,g4,D⟩;have Y:Below (w.heap.size+2) Q w1:=((Below.refl _ _).drew).trans (D.mono (by simp[T]));have X3:=ac ((uH X2).drew.below D (by simp[T]));have G1:=ac g1;have G2:=ac g2;have G4:=ac g4;have L4:U.length≤35184372088832:=(by omega);have s1:=D.size;clear g1 g2 g4 g3 D)|(go_at_call 248;refine(j8 _ d _ _ _ _ (uH G1) (uH G2) L4).mono ?_;rintro e w2 ⟨v,rfl,⟨n2,a2,c2,L2,rfl,i1⟩,M⟩;have N:Below (w.heap.size+2) Q w2:=Y.trans (M.mono (by simp at s1;omega));have O:=(uH X3).below M (by simp at s1;omega);have y0:=O.c0;have y1:=O.c1;have f0:=O.free 0;have f1:=O.free 1;have I1:=ac i1;clear i1 M O))
 have Z:=uH HS U (uH G4)
 have HI:=ac (Z▸uH I1)
 have HE:=ac (show bO (aj d U)=bO z by rw[Z])
 clear Z
 go_wp2
 refine bodyPost_ret (v:=.tuple #[.agg #[.bool n2,.slice a2 L2.length c2],.int .i64 (bO (aj d U))]) (by simp[results,Tryz.results267,go_sem,y0,y1]) rfl ⟨.agg #[.bool n2,.slice a2 L2.length c2],?_,?_,?_⟩
 ·rw[uH HE]
 ·exact ar.stored (uH HI) (by simp;omega) (by simp;omega) (by simp;omega) _ _
 ·exact(((uH X).trans (N.mono (by omega))).setCell (by simp;omega) _).setCell (by simp;omega) _
theorem wP(A B:List Nat)(fA:bM A)(l:bM B)(t:bZ A)(cB:bZ B):oV A B=cU (val A) (val B):=by
 unfold oV
 split
 ·rfl
 ·rename_i z
  rcases Nat.lt_or_gt_of_ne z with h|h
  ·have:val A<val B:=by
    have:=ew B A fA cB
    by_cases d:val B≤val A
    ·have:=this d;omega
    ·omega
   rw[jg (by omega),jg (by omega)]
  ·have:val B<val A:=by
    have:=ew A B l t
    by_cases d:val A≤val B
    ·have:=this d;omega
    ·omega
   rw[lL (by omega),lL (by omega)]
theorem oX(l t:Bool)(G H:Option Addr)(I J:Nat)(A B:List Nat)(w:World)(hA:af w G I A)(hB:af w H J B)(la:A.length≤35184372088830)(lb:B.length≤35184372088830)(cA:bZ A)(cB:bZ B)(hn:l≠t):
  Calls Tryz.prog 267 #[.agg #[.bool l,.slice G A.length I],.agg #[.bool t,.slice H B.length J]] w fun e d=>∃v,e=.returned (.tuple #[v,.int .i64 (bO (aj l A+aj t B))])∧ar w.heap.size d v (eI (aj l A+aj t B))∧Below w.heap.size w d:=by
 have V:(∀L:List Nat,val L=val B-val A→val A<val B→aj t L=aj l A+aj t B)∧(∀L:List Nat,val L=val A-val B→val B≤val A→aj l L=aj l A+aj t B):=by
  constructor<;>intro L h h'<;>unfold aj<;>cases l<;>cases t<;>simp at hn<;>simp[h]<;>omega
 have ae:=wP A B hA.2.1 hB.2.1 cA cB
 have HS:=ac V
 clear V
 generalize aj l A+aj t B=z at*
 have ap:(l==t)=false:=by simpa using hn
 have HC:=ac ae
 clear ae hn
 go_enter Tryz.func267,Tryz.ntmps267
 go_wp2_with fail
 refine(mZ G H I J A B _ (hA.below ?_) (hB.below ?_) (by omega) (by omega)).mono ?_
 ·exact(((Below.refl _ _).alloc (Nat.le_refl _) _).alloc (by simp) _).alloc (by simp;omega) _
 ·exact(((Below.refl _ _).alloc (Nat.le_refl _) _).alloc (by simp) _).alloc (by simp;omega) _
 rintro e d ⟨rfl,m,rfl⟩
 rw[uH HC]
 by_cases hv:val A<val B
 ·rw[jg (by omega)]
  clear HC
  have X:=ac (fun L h=>(uH HS).1 L h hv)
  clear HS
  go_wp2
  refine aG (fun W=>Below w.heap.size w W∧W.heap.size=w.heap.size+3∧aC W w.heap.size (.bool l) (.slice G A.length I)∧aC W (w.heap.size+1) (.bool t) (.slice H B.length J)∧aC W (w.heap.size+2) (.bool false) (.slice none 0 0)) ?_ ?_
  ·refine⟨below_drewN ((((Below.refl _ _).alloc (Nat.le_refl _) _).alloc (by simp) _).alloc (by simp;omega) _) _,by simp,(((aC.new _ _ _).old _).old _).drewN _,?_,?_⟩
   ·have:=((aC.new (w.alloc (.cells #[.bool l,.slice G A.length I] 55)) (.bool t) (.slice H B.length J)).old (.cells #[.bool false,.slice none 0 0] 55)).drewN m
    simpa using this
   ·have:=(aC.new ((w.alloc (.cells #[.bool l,.slice G A.length I] 55)).alloc (.cells #[.bool t,.slice H B.length J] 55)) (.bool false) (.slice none 0 0)).drewN m
    simpa using this
  rintro Q ⟨D,T,x0,x1,x2⟩
  have hK:∀d,Below (w.heap.size+2) Q d→Below (w.heap.size+2) Q d∧d.cell? ⟨w.heap.size+1,0,none⟩=some (.bool t)∧d.cell? ⟨w.heap.size,1,none⟩=some (.slice G A.length I)∧d.cell? ⟨w.heap.size+1,1,none⟩=some (.slice H B.length J):=fun d h=>
   ⟨h,(x1.below h (by omega)).c0,(x0.below h (by omega)).c1,(x1.below h (by omega)).c1⟩
  have Y:=ac hK
  have HA:=ac (hA.below D)
  have HB:=ac (hB.below D)
  have X2:=ac x2
  have Z:=ac D
  have aa:val A≤val B:=by omega
  clear hK hA hB x0 x1 x2 D
  go_region_held3(fun d=>Below (w.heap.size+2) Q d∧d.cell? ⟨w.heap.size+1,0,none⟩=some (.bool t)∧d.cell? ⟨w.heap.size,1,none⟩=some (.slice G A.length I)∧d.cell? ⟨w.heap.size+1,1,none⟩=some (.slice H B.length J))
   (first|exact uH Y _ (Below.refl _ _).drew|exact uH Y _ (by assumption)|exact uH Y _ ((N.setCell (by simp) _).setCell (by simp) _))
   (first|(go_at_call 270;refine(lK H G J I B A _ ((uH HB).below ((Below.refl _ _).drew)) ((uH HA).below ((Below.refl _ _).drew)) lb la aa).mono ?_;rintro e w1 ⟨am,ai,U,rfl,g1,g2,g3,g4,F⟩;have ad:Below (w.heap.size+2) Q w1:=((Below.refl _ _).drew).trans (F.mono (by simp[T]));have X3:=ac ((uH X2).drew.below F (by simp[T]));have G1:=ac g1;have G2:=ac g2;have G4:=ac g4;have L4:U.length≤35184372088832:=(by omega);have s1:=F.size;clear g1 g2 g4 g3 F)|(go_at_call 248;refine(j8 _ t _ _ _ _ (uH G1) (uH G2) L4).mono ?_;rintro e w2 ⟨v,rfl,⟨n2,a2,c2,L2,rfl,i1⟩,M⟩;have N:Below (w.heap.size+2) Q w2:=ad.trans (M.mono (by simp at s1;omega));have O:=(uH X3).below M (by simp at s1;omega);have y0:=O.c0;have y1:=O.c1;have f0:=O.free 0;have f1:=O.free 1;have I1:=ac i1;clear i1 M O))
  have hz:=uH X U (uH G4)
  have HI:=ac (hz▸uH I1)
  have HE:=ac (show bO (aj t U)=bO z by rw[hz])
  clear hz
  go_wp2
  refine bodyPost_ret (v:=.tuple #[.agg #[.bool n2,.slice a2 L2.length c2],.int .i64 (bO (aj t U))]) (by simp[results,Tryz.results267,go_sem,y0,y1]) rfl ⟨.agg #[.bool n2,.slice a2 L2.length c2],?_,?_,?_⟩
  ·rw[uH HE]
  ·exact ar.stored (uH HI) (by simp;omega) (by simp;omega) (by simp;omega) _ _
  ·exact(((uH Z).trans (N.mono (by omega))).setCell (by simp;omega) _).setCell (by simp;omega) _
 ·have aq:¬cU (val A) (val B)<0:=by unfold cU;rw[if_neg (by omega)];split<;>omega
  generalize cU (val A) (val B)=cm at*
  clear HC
  have X:=ac (fun L h=>(uH HS).2 L h (by omega))
  clear HS
  go_wp2
  refine aG (fun W=>Below w.heap.size w W∧W.heap.size=w.heap.size+3∧aC W w.heap.size (.bool l) (.slice G A.length I)∧aC W (w.heap.size+1) (.bool t) (.slice H B.length J)∧aC W (w.heap.size+2) (.bool false) (.slice none 0 0)) ?_ ?_
  ·refine⟨below_drewN ((((Below.refl _ _).alloc (Nat.le_refl _) _).alloc (by simp) _).alloc (by simp;omega) _) _,by simp,(((aC.new _ _ _).old _).old _).drewN _,?_,?_⟩
   ·have:=((aC.new (w.alloc (.cells #[.bool l,.slice G A.length I] 55)) (.bool t) (.slice H B.length J)).old (.cells #[.bool false,.slice none 0 0] 55)).drewN m
    simpa using this
   ·have:=(aC.new ((w.alloc (.cells #[.bool l,.slice G A.length I] 55)).alloc (.cells #[.bool t,.slice H B.length J] 55)) (.bool false) (.slice none 0 0)).drewN m
    simpa using this
  rintro Q ⟨D,T,x0,x1,x2⟩
  have hK:∀d,Below (w.heap.size+2) Q d→Below (w.heap.size+2) Q d∧d.cell? ⟨w.heap.size,0,none⟩=some (.bool l)∧d.cell? ⟨w.heap.size,1,none⟩=some (.slice G A.length I)∧d.cell? ⟨w.heap.size+1,1,none⟩=some (.slice H B.length J):=fun d h=>
   ⟨h,(x0.below h (by omega)).c0,(x0.below h (by omega)).c1,(x1.below h (by omega)).c1⟩
  have Y:=ac hK
  have HA:=ac (hA.below D)
  have HB:=ac (hB.below D)
  have X2:=ac x2
  have Z:=ac D
  have aa:val B≤val A:=by omega
  clear hK hA hB x0 x1 x2 D
  go_region_held3(fun d=>Below (w.heap.size+2) Q d∧d.cell? ⟨w.heap.size,0,none⟩=some (.bool l)∧d.cell? ⟨w.heap.size,1,none⟩=some (.slice G A.length I)∧d.cell? ⟨w.heap.size+1,1,none⟩=some (.slice H B.length J))
   (first|exact uH Y _ (Below.refl _ _).drew|exact uH Y _ (by assumption)|exact uH Y _ ((N.setCell (by simp) _).setCell (by simp) _))
   (first|(go_at_call 270;refine(lK G H I J A B _ ((uH HA).below ((Below.refl _ _).drew)) ((uH HB).below ((Below.refl _ _).drew)) la lb aa).mono ?_;rintro e w1 ⟨am,ai,U,rfl,g1,g2,g3,g4,F⟩;have ad:Below (w.heap.size+2) Q w1:=((Below.refl _ _).drew).trans (F.mono (by simp[T]));have X3:=ac ((uH X2).drew.below F (by simp[T]));have G1:=ac g1;have G2:=ac g2;have G4:=ac g4;have L4:U.length≤35184372088832:=(by omega);have s1:=F.size;clear g1 g2 g4 g3 F)|(go_at_call 248;refine(j8 _ l _ _ _ _ (uH G1) (uH G2) L4).mono ?_;rintro e w2 ⟨v,rfl,⟨n2,a2,c2,L2,rfl,i1⟩,M⟩;have N:Below (w.heap.size+2) Q w2:=ad.trans (M.mono (by simp at s1;omega));have O:=(uH X3).below M (by simp at s1;omega);have y0:=O.c0;have y1:=O.c1;have f0:=O.free 0;have f1:=O.free 1;have I1:=ac i1;clear i1 M O))
  have hz:=uH X U (uH G4)
  have HI:=ac (hz▸uH I1)
  have HE:=ac (show bO (aj l U)=bO z by rw[hz])
  clear hz
  go_wp2
  refine bodyPost_ret (v:=.tuple #[.agg #[.bool n2,.slice a2 L2.length c2],.int .i64 (bO (aj l U))]) (by simp[results,Tryz.results267,go_sem,y0,y1]) rfl ⟨.agg #[.bool n2,.slice a2 L2.length c2],?_,?_,?_⟩
  ·rw[uH HE]
  ·exact ar.stored (uH HI) (by simp;omega) (by simp;omega) (by simp;omega) _ _
  ·exact(((uH Z).trans (N.mono (by omega))).setCell (by simp;omega) _).setCell (by simp;omega) _
theorem qG(d h:Bool)(l t:Option Addr)(z D:Nat)(A B:List Nat)(w:World)(F:af w l z A)(G:af w t D B)(H:A.length≤35184372088830)(I:B.length≤35184372088830)(M:bZ A)(cB:bZ B):
  Calls Tryz.prog 267 #[.agg #[.bool d,.slice l A.length z],.agg #[.bool h,.slice t B.length D]] w fun e J=>∃v,e=.returned (.tuple #[v,.int .i64 (bO (aj d A+aj h B))])∧ar w.heap.size J v (eI (aj d A+aj h B))∧Below w.heap.size w J:=by
 by_cases L:d=h
 ·subst L;exact oW d l t z D A B w F G H I
 ·exact oX d h l t z D A B w F G H I M cB L
end Go.Proofs.YtmpkkhackbpflaaGreatDoor
namespace Go.Proofs.YtmpkkhackbpflaaGreatDoor
open Go.RowKit
def rm(ok:Bool)(z:Int):Int:=if ok then bO z else 1
def rn(ok:Bool)(z:Int):Int:=if ok then eI z else 0
theorem ia(z:Int):rm true z=bO z:=by unfold rm;rw[if_pos rfl]
theorem ib(z:Int):rn true z=eI z:=by unfold rn;rw[if_pos rfl]
theorem nX(z:Int):rm false z=1:=by unfold rm;rw[if_neg (by decide)]
theorem nY(z:Int):rn false z=0:=by unfold rn;rw[if_neg (by decide)]
theorem aN{neg:Bool}{L:List Nat}(h:aE neg L=true):L.length≤512∧bZ L∧(neg=true→L≠ []):=by
 simp only[aE,Bool.and_eq_true,decide_eq_true_eq,Bool.not_eq_true',Bool.and_eq_false_iff,decide_eq_false_iff_not,Bool.or_eq_true]at h
 obtain⟨⟨t,d⟩,l⟩:=h
 refine⟨t,?_,?_⟩
 ·rcases l with l|l
  ·exact .inl (List.length_eq_zero_iff.1 l)
  ·exact .inr l
 ·rintro z rfl
  rcases d with d|d
  ·simp at d
  ·rw[z]at d;cases d
theorem Cs(d:Bool)(B:List Nat):aj (!d) B= -aj d B:=by unfold aj;cases d<;>simp
theorem FS(l t:Bool)(F G:Option Addr)(H I:Nat)(A B:List Nat)(w:World)(V:af w F H A)(X:af w G I B)(Y:A.length≤35184372088830)(Z:B.length≤35184372088830):
  Calls Tryz.prog 266 #[.agg #[.bool l,.slice F A.length H],.agg #[.bool t,.slice G B.length I]] w fun e w'=>∃v,e=.returned (.tuple #[v,.int .i64 (rm (aE l A&&aE t B) (aj l A+aj t B))])∧ar w.heap.size w' v (rn (aE l A&&aE t B) (aj l A+aj t B))∧Below w.heap.size w w':=by
 have hC:(aE l A&&aE t B)=true→bZ A∧bZ B:=fun h=>by
  simp only[Bool.and_eq_true]at h;exact⟨(aN h.1).2.1,(aN h.2).2.1⟩
 have HC:=ac hC
 have H2:=ac (show wO l A t B=if(aE l A&&aE t B)then 0 else 1 from rfl)
 clear hC
 generalize U:(aE l A&&aE t B)=ok at*
 clear U
 go_enter Tryz.func266,Tryz.ntmps266
 go_wp2_with fail
 have D:Below w.heap.size w (((w.alloc (.cells #[.bool l,.slice F A.length H] 55)).alloc (.cells #[.bool t,.slice G B.length I] 55)).alloc (.cells #[.bool false,.slice none 0 0] 55)):=
  (((Below.refl _ _).alloc (Nat.le_refl _) _).alloc (by simp) _).alloc (by simp;omega) _
 refine(kJ l t F G H I A B _ (V.below D) (X.below D) Y Z).mono ?_
 rintro e J ⟨rfl,d⟩
 have aa:w.heap.size+3≤J.heap.size:=by have:=d.size;simpa using this
 have z:Below w.heap.size w J:=D.trans (d.mono (by simp;omega))
 have p0:J.cell? ⟨w.heap.size,0,none⟩=some (.bool l):=by rw[d.cell (p:=⟨w.heap.size,0,none⟩) (by simp;omega)];simp[go_sem]
 have p1:J.cell? ⟨w.heap.size,1,none⟩=some (.slice F A.length H):=by rw[d.cell (p:=⟨w.heap.size,1,none⟩) (by simp;omega)];simp[go_sem]
 have q0:J.cell? ⟨w.heap.size+1,0,none⟩=some (.bool t):=by rw[d.cell (p:=⟨w.heap.size+1,0,none⟩) (by simp)];simp[go_sem]
 have q1:J.cell? ⟨w.heap.size+1,1,none⟩=some (.slice G B.length I):=by rw[d.cell (p:=⟨w.heap.size+1,1,none⟩) (by simp)];simp[go_sem]
 have L:aC J (w.heap.size+2) (.bool false) (.slice none 0 0):=by
  have:=aC.new ((w.alloc (.cells #[.bool l,.slice F A.length H] 55)).alloc (.cells #[.bool t,.slice G B.length I] 55)) (.bool false) (.slice none 0 0)
  exact aC.below (by simpa using this) d (by simp)
 rw[uH H2]
 clear d H2 D
 cases ok
 ·simp only[Bool.false_eq_true,if_false]
  have O:=L.c0;have Q:=L.c1;have f0:=L.free 0;have f1:=L.free 1
  go_wp2
  refine bodyPost_ret (v:=.tuple #[.agg #[.bool false,.slice none 0 0],.int .i64 1]) (by simp[results,Tryz.results266,go_sem,O,Q]) rfl ⟨.agg #[.bool false,.slice none 0 0],by rw[nX],by rw[nY];exact ar.zero _ _ _ _,?_⟩
  exact(z.setCell (by simp;omega) _).setCell (by simp;omega) _
 ·obtain⟨cA,cB⟩:=uH HC rfl
  have CA:=ac cA
  have CB:=ac cB
  clear cA cB
  simp only[if_true]
  go_wp2_with fail
  refine(qG l t F G H I A B _ (V.below z) (X.below z) Y Z (uH CA) (uH CB)).mono ?_
  rintro e w2 ⟨v,rfl,⟨n2,a2,c2,L2,rfl,i1⟩,M⟩
  have N:=L.below M (by omega)
  have O:=N.c0;have Q:=N.c1;have f0:=N.free 0;have f1:=N.free 1
  have I1:=ac i1
  have T:=z.trans (M.mono z.size)
  clear i1
  go_wp2
  refine bodyPost_ret (v:=.tuple #[.agg #[.bool n2,.slice a2 L2.length c2],.int .i64 (bO (aj l A+aj t B))]) (by simp[results,Tryz.results266,go_sem,O,Q]) rfl ⟨.agg #[.bool n2,.slice a2 L2.length c2],by rw[ia],?_,?_⟩
  ·rw[ib];exact ar.stored (uH I1) (by simp;omega) (by simp;omega) (by omega) _ _
  ·exact(T.setCell (by simp;omega) _).setCell (by simp;omega) _
theorem kc(w:World)(g:Nat)(a b:Int)(lo d:Nat)(h:w.heap.size=g)(l:a=(lo:Int))(t:b=(d:Int)):
  cH (w.alloc (.cells #[.int .u32 a,.int .u32 b] 147)) g [lo,d]:=by
 subst h;subst l;subst t
 exact heap_alloc_new w _
theorem Ct(n:Int)(d:-9223372036854775808≤n)(h:n<0):IntKind.u64.wrap (-IntKind.u64.wrap n)= -n:=by
 simp only[IntKind.wrap,IntKind.signed,IntKind.bits]
 simp
 omega
theorem oD(m:Nat):val [m%4294967296,m/4294967296]=m:=by simp only[val];omega
theorem wQ(n:Int)(w:World)(Z:-9223372036854775808≤n)(h1:n≤9223372036854775807):
  Calls Tryz.prog 219 #[.int .i64 n] w fun e J=>∃v,e=.returned v∧ar w.heap.size J v n∧Below w.heap.size w J:=by
 obtain⟨m,l⟩:∃m,m=n.natAbs:=⟨_,rfl⟩
 have V:bM [m%4294967296,m/4294967296]:=by intro x hx;simp at hx;omega
 have L:=ac V
 have t:=ac l
 clear V l
 by_cases X:n<0
 ·have Y:=Ct n Z X
  have M:=ac Y
  clear Y
  go_enter Tryz.func219,Tryz.ntmps219
  go_wp2_with fail
  have l:=uH t
  have D:=kc (w.alloc (.cells #[.bool false,.slice none 0 0] 55)) (w.heap.size+1) (IntKind.u64.wrap (-IntKind.u64.wrap n)%4294967296) (IntKind.u64.wrap (-IntKind.u64.wrap n)/4294967296%4294967296) (m%4294967296) (m/4294967296) (by simp) (by rw[uH M];omega) (by rw[uH M];omega)
  refine(oT (some ⟨w.heap.size+1,0,none⟩) 2 [m%4294967296,m/4294967296] _ (D.limbs (uH L) 2 (by simp)) (by simp)).mono ?_
  rintro e J ⟨v,rfl,⟨h,d,z,rfl,F,G,U,H,I⟩,rfl⟩
  have N:=ac H
  have O:=ac F
  have Q:=ac G
  have T:=ac I
  clear F G H I D l
  go_wp2
  refine bodyPost_ret (v:=.agg #[.bool true,.slice h z.length d]) (by simp[results,Tryz.results219,go_sem]) rfl ⟨.agg #[.bool true,.slice h z.length d],rfl,⟨true,h,d,z,rfl,uH N _ ?_,uH T _ (.inr ⟨_,_,rfl,by omega⟩),uH O,by simp[X],?_⟩,?_⟩
  ·refine(kc _ (w.heap.size+1) _ _ _ _ (by simp) ?_ ?_).limbs (uH L) 2 (by simp)
   ·have l:=uH t;rw[uH M];omega
   ·have l:=uH t;rw[uH M];omega
  ·exact⟨by rw[uH Q,oD];exact uH t,by simp at U;omega⟩
  ·exact((Below.refl _ _).alloc (Nat.le_refl _) _).alloc (by simp) _
 ·go_enter Tryz.func219,Tryz.ntmps219
  go_wp2_with fail
  have l:=uH t
  have D:=kc (w.alloc (.cells #[.bool false,.slice none 0 0] 55)) (w.heap.size+1) (n%4294967296) (n/4294967296) (m%4294967296) (m/4294967296) (by simp) (by omega) (by omega)
  refine(oT (some ⟨w.heap.size+1,0,none⟩) 2 [m%4294967296,m/4294967296] _ (D.limbs (uH L) 2 (by simp)) (by simp)).mono ?_
  rintro e J ⟨v,rfl,⟨h,d,z,rfl,F,G,U,H,I⟩,rfl⟩
  have N:=ac H
  have O:=ac F
  have Q:=ac G
  have T:=ac I
  clear F G H I D l
  go_wp2
  refine bodyPost_ret (v:=.agg #[.bool false,.slice h z.length d]) (by simp[results,Tryz.results219,go_sem]) rfl ⟨.agg #[.bool false,.slice h z.length d],rfl,⟨false,h,d,z,rfl,uH N _ ?_,uH T _ (.inr ⟨_,_,rfl,by omega⟩),uH O,by simp;omega,?_⟩,?_⟩
  ·refine(kc _ (w.heap.size+1) _ _ _ _ (by simp) ?_ ?_).limbs (uH L) 2 (by simp)
   ·have l:=uH t;omega
   ·have l:=uH t;omega
  ·exact⟨by rw[uH Q,oD];exact uH t,by simp at U;omega⟩
  ·exact((Below.refl _ _).alloc (Nat.le_refl _) _).alloc (by simp) _
theorem ar.right{B:Nat}{w:World}{v:Value}{x:Int}(h:ar B w v x)(M:x.natAbs<eN):
  ∃neg t d L,v=.agg #[.bool neg,.slice t L.length d]∧af w t d L∧aE neg L=true∧aj neg L=x∧L.length≤512:=by
 obtain⟨neg,t,d,L,rfl,D,N,F,G,J,O⟩:=h
 have z:L.length≤512:=(gj L D.2.1 F).1 (by omega)
 refine⟨neg,t,d,L,rfl,D,?_,?_,z⟩
 ·have H:L.length=0→neg=false:=fun e=>by
   have:L= []:=List.length_eq_zero_iff.1 e
   subst this
   rw[G];simp[val]at J;simp;omega
  have I:L.length=0∨L[L.length-1]?.getD 0≠0:=by
   rcases F with h|h
   ·left;rw[h];rfl
   ·exact .inr h
  simp only[aE,Bool.and_eq_true,decide_eq_true_eq,Bool.not_eq_true',Bool.and_eq_false_iff,decide_eq_false_iff_not,Bool.or_eq_true]
  refine⟨⟨z,?_⟩,I⟩
  by_cases e:L.length=0
  ·exact .inr (H e)
  ·exact .inl e
 ·unfold aj
  rw[G]
  by_cases l:x<0
  ·simp[l];omega
  ·simp[l];omega
theorem FT{B h:Nat}{w:World}{v u:Value}{x y:Int}(l:ar B w v x)(t:ar h w u y)(z:x.natAbs<eN)(D:y.natAbs<eN):
  Calls Tryz.prog 266 #[v,u] w fun e d=>∃r,e=.returned (.tuple #[r,.int .i64 (bO (x+y))])∧ar w.heap.size d r (eI (x+y))∧Below w.heap.size w d:=by
 obtain⟨F,G,H,A,rfl,I,J,L,V⟩:=l.right z
 obtain⟨M,N,O,C,rfl,Q,T,U,X⟩:=t.right D
 have:=FS F M G N H O A C w I Q (by omega) (by omega)
 rwa[J,T,L,U,Bool.and_self,ia,ib]at this
theorem dK(x:Nat)(h:x<18446744073709551616):x<eN:=by
 have:(4294967296^2:Nat)≤4294967296^sA:=Nat.pow_le_pow_right (by decide) (by decide)
 unfold eN
 omega
theorem gE(x:Int)(h:x.natAbs<eN):bO x=0:=by unfold bO;rw[if_pos h]
theorem gF(x:Int)(h:x.natAbs<eN):eI x=x:=by unfold eI;rw[if_pos h]
end Go.Proofs.YtmpkkhackbpflaaGreatDoor
