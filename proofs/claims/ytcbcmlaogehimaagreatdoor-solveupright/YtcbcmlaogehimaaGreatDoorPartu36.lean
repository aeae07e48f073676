/- Part 36 of the texts. -/
import Derived.Test.YtcbcmlaogehimaaGreatDoorPartu35
set_option maxHeartbeats 8000000
set_option maxRecDepth 20000
namespace Go.Proofs.YtcbcmlaogehimaaGreatDoor
open Go.RowKit
attribute [local go_sem ↓] Go.wp_at_zero Go.wp_at_succ
theorem ag.put3{w:World}{ao:GY}{c:Nat}{I:List Int}(h:ag w ao c I){g:Nat}{x:Bool}{a:GY}{n d:Nat}{k:Int}(H:ar w g (.bool x) (.slice a n d) (C0 k))(u u' u'':Value):
  ag (((w.setCell ⟨g,0,.none⟩ u).setCell ⟨g,1,.none⟩ u').setCell ⟨g,2,.none⟩ u'') ao c I:=by
 refine⟨h.1,h.2.1,?_⟩;rcases h.2.2 with L|⟨b,l,M,N,G⟩
 ·exact .inl L
 ·by_cases F:I= []
  ·exact .inl F
  ·have K:0<I.length:=List.length_pos_iff.2 F
   have t:b≠g:=by
    rintro rfl;have D:=G 0 K;rw[cell_of_row w b (l+0) _ _ _ H]at D;rcases(show l=0\/l=1\/l=2\/3<=l by omega)with e|e|e|e
    ·subst e;simp at D
    ·subst e;simp at D
    ·subst e;simp at D
    ·rw[Array.getElem?_eq_none (by simp;omega)]at D;simp at D
   refine .inr ⟨b,l,M,by simpa[World.setCell]using N,fun i J=>?_⟩;rw[au _ _ _ _ (by simpa using t),au _ _ _ _ (by simpa using t),au _ _ _ _ (by simpa using t)];exact G i J
theorem aN.ex17{w:World}{v:Value}{lo z:Int}(h:aN w v lo z):∃(n:Bool) (a:GY) (l c:Nat) (E:Int),v=.agg #[.bool n,.slice a l c,C0 E]/\aN w (.agg #[.bool n,.slice a l c,C0 E]) lo z:=by
 obtain⟨n,a,c,L,rfl,t⟩:=h;exact⟨n,a,L.length,c,oE z lo,rfl,n,a,c,L,rfl,t⟩
structure yb (w W:World) (r c q n:Nat) (ao bo xo:GY) (k cap m d xc g5 g7:Nat) (X:List Int) (n1:Bool) (a1:GY) (l1 c1:Nat) (E1:Int):Prop where
 hx:aE W w.heap.size (C0 (r:Nat)) (C0 (c:Nat)) (.slice ao k cap)
 hy:aE W (w.heap.size+1) (C0 (r:Nat)) (C0 (q:Nat)) (.slice bo m d)
 hw:aE W g5 (C0 (c:Nat)) (C0 (q:Nat)) (.slice xo n xc)
 lx:ag W xo xc X
 hz:ar W g7 (.bool n1) (.slice a1 l1 c1) (C0 E1)
 hb:H8 w W
theorem yb.all{w W t:World}{r c q n:Nat}{ao D F:GY}{k cap m d G H I:Nat}{X:List Int}{J:Bool}{K:GY}{L M:Nat}{N:Int}(h:yb w W r c q n ao D F k cap m d G H I X J K L M N)(l:H8 W t):yb w t r c q n ao D F k cap m d G H I X J K L M N:=
 ⟨h.hx.all l,h.hy.all l,h.hw.all l,h.lx.below l,h.hz.all l,h.hb.trans (l.mono h.hb.size)⟩
theorem yb.put3{w W:World}{r c q n:Nat}{ao D F:GY}{k cap m d G H t:Nat}{X:List Int}{I:Bool}{J:GY}{K L:Nat}{M:Int}(h:yb w W r c q n ao D F k cap m d G H t X I J K L M){g:Nat}{x:Bool}{a:GY}{e f:Nat}{z:Int}(l:ar W g (.bool x) (.slice a e f) (C0 z))(N:t<g)(O:w.heap.size<=g)(u u' u'':Value):yb w (((W.setCell ⟨g,0,.none⟩ u).setCell ⟨g,1,.none⟩ u').setCell ⟨g,2,.none⟩ u'') r c q n ao D F k cap m d G H t X I J K L M:=
 ⟨h.hx.oth3 (fun e=>h.hx.not3 (by rw[e];exact l)) u u' u'',h.hy.oth3 (fun e=>h.hy.not3 (by rw[e];exact l)) u u' u'',h.hw.oth3 (fun e=>h.hw.not3 (by rw[e];exact l)) u u' u'',h.lx.put3 l u u' u'',h.hz.oth3 (Nat.ne_of_lt N) u u' u'',az h.hb O u u' u''⟩
theorem o7(r c p q:Int)(ao H:GY)(k cap m d:Nat)(w:World)
  (N:∀h,H8 w h->BS 13 #[.agg #[C0 r,C0 c,.slice ao k cap],C0 60] h (.bool false))
  (O:∀h,H8 w h->BS 14 #[] h (.bool true)):
  BS 3 #[.agg #[C0 r,C0 c,.slice ao k cap],.agg #[C0 p,C0 q,.slice H m d]] w (.bool true):=by
 have Q:=ac (jf w (C0 r) (C0 c) (.slice ao k cap) (C0 p) (C0 q) (.slice H m d));obtain⟨U,Z,x1⟩:=uH Q ((w.alloc (.cells #[C0 r,C0 c,.slice ao k cap] 24)).alloc (.cells #[C0 p,C0 q,.slice H m d] 24)) (by have:=Below.refl ((w.alloc (.cells #[C0 r,C0 c,.slice ao k cap] 24)).alloc (.cells #[C0 p,C0 q,.slice H m d] 24)).heap.size ((w.alloc (.cells #[C0 r,C0 c,.slice ao k cap] 24)).alloc (.cells #[C0 p,C0 q,.slice H m d] 24));simpa only[an]using this);have D:=ac U;have l:=ac Z;have t:=ac x1;have I:=ac N;have J:=ac O;clear N O Q U Z x1
 go_enter Tryz.func3,Tryz.ntmps3
 have K:=(uH l).c0;have L:=(uH l).c1;have M:=(uH l).c2;have u0:=(uH t).c0;have u1:=(uH t).c1;have u2:=(uH t).c2;go_wp2_with fail;clear K L M u0 u1 u2;refine(uH I _ (uH D)).mono ?_;rintro e wn ⟨rfl,F⟩;replace l:=ac ((uH l).all F);replace t:=ac ((uH t).all F);replace D:=ac ((uH D).trans (F.mono (uH D).size));clear F;have K:=(uH l).c0;have L:=(uH l).c1;have M:=(uH l).c2;have u0:=(uH t).c0;have u1:=(uH t).c1;have u2:=(uH t).c2;go_wp2_with fail;clear K L M u0 u1 u2;refine(uH J _ (uH D)).mono ?_;rintro e wn ⟨rfl,F⟩;replace l:=ac ((uH l).all F);replace t:=ac ((uH t).all F);replace D:=ac ((uH D).trans (F.mono (uH D).size));clear F;go_wp2_with fail
 go_ret
 exact⟨rfl,uH D⟩
theorem o8(r c p q:Int)(ao H:GY)(k cap m d:Nat)(w:World)
  (O:∀h,H8 w h->BS 13 #[.agg #[C0 r,C0 c,.slice ao k cap],C0 60] h (.bool true))
  (Q:∀h,H8 w h->BS 13 #[.agg #[C0 p,C0 q,.slice H m d],C0 60] h (.bool false))
  (U:∀h,H8 w h->BS 14 #[] h (.bool true)):
  BS 3 #[.agg #[C0 r,C0 c,.slice ao k cap],.agg #[C0 p,C0 q,.slice H m d]] w (.bool true):=by
 have Z:=ac (jf w (C0 r) (C0 c) (.slice ao k cap) (C0 p) (C0 q) (.slice H m d));obtain⟨b0,x0,x1⟩:=uH Z ((w.alloc (.cells #[C0 r,C0 c,.slice ao k cap] 24)).alloc (.cells #[C0 p,C0 q,.slice H m d] 24)) (by have:=Below.refl ((w.alloc (.cells #[C0 r,C0 c,.slice ao k cap] 24)).alloc (.cells #[C0 p,C0 q,.slice H m d] 24)).heap.size ((w.alloc (.cells #[C0 r,C0 c,.slice ao k cap] 24)).alloc (.cells #[C0 p,C0 q,.slice H m d] 24));simpa only[an]using this);have F:=ac b0;have l:=ac x0;have t:=ac x1;have L:=ac O;have M:=ac Q;have N:=ac U;clear O Q U Z b0 x0 x1
 go_enter Tryz.func3,Tryz.ntmps3
 have I:=(uH l).c0;have J:=(uH l).c1;have K:=(uH l).c2;have u0:=(uH t).c0;have u1:=(uH t).c1;have u2:=(uH t).c2;go_wp2_with fail;clear I J K u0 u1 u2;refine(uH L _ (uH F)).mono ?_;rintro e wn ⟨rfl,D⟩;replace l:=ac ((uH l).all D);replace t:=ac ((uH t).all D);replace F:=ac ((uH F).trans (D.mono (uH F).size));clear D;have I:=(uH l).c0;have J:=(uH l).c1;have K:=(uH l).c2;have u0:=(uH t).c0;have u1:=(uH t).c1;have u2:=(uH t).c2;go_wp2_with fail;clear I J K u0 u1 u2;refine(uH M _ (uH F)).mono ?_;rintro e wn ⟨rfl,D⟩;replace l:=ac ((uH l).all D);replace t:=ac ((uH t).all D);replace F:=ac ((uH F).trans (D.mono (uH F).size));clear D;have I:=(uH l).c0;have J:=(uH l).c1;have K:=(uH l).c2;have u0:=(uH t).c0;have u1:=(uH t).c1;have u2:=(uH t).c2;go_wp2_with fail;clear I J K u0 u1 u2;refine(uH N _ (uH F)).mono ?_;rintro e wn ⟨rfl,D⟩;replace l:=ac ((uH l).all D);replace t:=ac ((uH t).all D);replace F:=ac ((uH F).trans (D.mono (uH F).size));clear D;go_wp2_with fail
 go_ret
 exact⟨rfl,uH F⟩
theorem jX(er:Int)(r c p q:Int)(ao H:GY)(k cap m d:Nat)(w:World)(L:er=3\/er=5)
  (U:∀h,H8 w h->BS 13 #[.agg #[C0 r,C0 c,.slice ao k cap],C0 60] h (.bool true))
  (Z:∀h,H8 w h->BS 13 #[.agg #[C0 p,C0 q,.slice H m d],C0 60] h (.bool true))
  (C3:∀h,H8 w h->BS 15 #[.agg #[C0 r,C0 c,.slice ao k cap],.agg #[C0 p,C0 q,.slice H m d]] h (.tuple #[.agg #[C0 0,C0 0,.slice none 0 0],C0 er]))
  (CA:∀h,H8 w h->BS 14 #[] h (.bool true)):
  BS 3 #[.agg #[C0 r,C0 c,.slice ao k cap],.agg #[C0 p,C0 q,.slice H m d]] w (.bool true):=by
 have KB:=ac (jf w (C0 r) (C0 c) (.slice ao k cap) (C0 p) (C0 q) (.slice H m d));obtain⟨b0,x0,x1⟩:=uH KB ((w.alloc (.cells #[C0 r,C0 c,.slice ao k cap] 24)).alloc (.cells #[C0 p,C0 q,.slice H m d] 24)) (by have:=Below.refl ((w.alloc (.cells #[C0 r,C0 c,.slice ao k cap] 24)).alloc (.cells #[C0 p,C0 q,.slice H m d] 24)).heap.size ((w.alloc (.cells #[C0 r,C0 c,.slice ao k cap] 24)).alloc (.cells #[C0 p,C0 q,.slice H m d] 24));simpa only[an]using this);have l:=ac b0;have F:=ac x0;have G:=ac x1;have M:=ac U;have N:=ac Z;have O:=ac C3;have Q:=ac CA;clear U Z C3 CA KB b0 x0 x1;rcases L with rfl|rfl
 all_goals
  go_enter Tryz.func3,Tryz.ntmps3
  have I:=(uH F).c0;have J:=(uH F).c1;have K:=(uH F).c2;have u0:=(uH G).c0;have u1:=(uH G).c1;have u2:=(uH G).c2;go_wp2_with fail;clear I J K u0 u1 u2;refine(uH M _ (uH l)).mono ?_;rintro e wn ⟨rfl,D⟩;replace F:=ac ((uH F).all D);replace G:=ac ((uH G).all D);replace l:=ac ((uH l).trans (D.mono (uH l).size));clear D;have I:=(uH F).c0;have J:=(uH F).c1;have K:=(uH F).c2;have u0:=(uH G).c0;have u1:=(uH G).c1;have u2:=(uH G).c2;go_wp2_with fail;clear I J K u0 u1 u2;refine(uH N _ (uH l)).mono ?_;rintro e wn ⟨rfl,D⟩;replace F:=ac ((uH F).all D);replace G:=ac ((uH G).all D);replace l:=ac ((uH l).trans (D.mono (uH l).size));clear D;have I:=(uH F).c0;have J:=(uH F).c1;have K:=(uH F).c2;have u0:=(uH G).c0;have u1:=(uH G).c1;have u2:=(uH G).c2;go_wp2_with fail;clear I J K u0 u1 u2;refine(uH O _ (uH l)).mono ?_;rintro e w3 ⟨rfl,D⟩;replace l:=ac ((uH l).trans (D.mono (uH l).size));have ba:=ad w3 (.cells #[C0 0,C0 0,.slice none 0 0] 24);replace l:=ac ((uH l).trans (ba.mono (uH l).size));clear D ba F G;go_wp2_with fail;refine(uH Q _ (uH l)).mono ?_;rintro e w4 ⟨rfl,D⟩;replace l:=ac ((uH l).trans (D.mono (uH l).size));clear D;go_wp2_with fail
  go_ret
  exact⟨rfl,uH l⟩
theorem pL(r c q n:Nat)(ao bo:GY)(k cap m d:Nat)(X:List Int)(lo lp lq z1 z2 z3 z4 z5 z6 zg:Int)(w:World)
  (C1:∀H,H8 w H->BS 13 #[.agg #[C0 r,C0 c,.slice ao k cap],C0 60] H (.bool true))
  (C2:∀H,H8 w H->BS 13 #[.agg #[C0 r,C0 q,.slice bo m d],C0 60] H (.bool true))
  (C3:∀H,H8 w H->GF 15 #[.agg #[C0 r,C0 c,.slice ao k cap],.agg #[C0 r,C0 q,.slice bo m d]] H fun e J=>(∃xo xc,e=.returned (.tuple #[.agg #[C0 c,C0 q,.slice xo n xc],C0 0])/\ag J xo xc X)/\H8 H J)
  (C4:∀H xo xc,H8 w H->ag H xo xc X->BS 16 #[.agg #[C0 c,C0 q,.slice xo n xc]] H (C0 0))
  (S1:∀H,H8 w H->GF 17 #[.agg #[C0 r,C0 c,.slice ao k cap]] H fun e J=>∃t,e=.returned t/\aN J t lo z1/\H8 H J)
  (S2:∀H xo xc,H8 w H->ag H xo xc X->GF 17 #[.agg #[C0 c,C0 q,.slice xo n xc]] H fun e J=>∃t,e=.returned t/\aN J t lo z2/\H8 H J)
  (S3:∀H,H8 w H->GF 17 #[.agg #[C0 r,C0 q,.slice bo m d]] H fun e J=>∃t,e=.returned t/\aN J t lo z3/\H8 H J)
  (M1:∀H v u,aN H v lo z1->aN H u lo z2->GF 18 #[v,u] H fun e J=>∃t,e=.returned t/\aN J t lp z4/\H8 H J)
  (M2:∀H v u,aN H v lp z4->aN H u lo z3->GF 19 #[v,u] H fun e J=>∃t,e=.returned t/\aN J t lp z5/\H8 H J)
  (M3:∀H v u,aN H v lo z1->aN H u lp z5->GF 18 #[v,u] H fun e J=>∃t,e=.returned t/\aN J t lq z6/\H8 H J)
  (GR:∀H xo xc,H8 w H->ag H xo xc X->GF 21 #[.agg #[C0 r,C0 c,.slice ao k cap],.agg #[C0 c,C0 q,.slice xo n xc],.agg #[C0 r,C0 q,.slice bo m d]] H fun e J=>∃t,e=.returned t/\aN J t lq zg/\H8 H J)
  (WN:∀H v u,aN H v lq zg->aN H u lq z6->BS 20 #[v,u,C0 35] H (.bool true))
  (CA:∀H,H8 w H->BS 14 #[] H (.bool true)):
  BS 3 #[.agg #[C0 r,C0 c,.slice ao k cap],.agg #[C0 r,C0 q,.slice bo m d]] w (.bool true):=by
 have KB:=ac (jf w (C0 r) (C0 c) (.slice ao k cap) (C0 r) (C0 q) (.slice bo m d));obtain⟨b0,x0,x1⟩:=uH KB ((w.alloc (.cells #[C0 r,C0 c,.slice ao k cap] 24)).alloc (.cells #[C0 r,C0 q,.slice bo m d] 24)) (by have:=Below.refl ((w.alloc (.cells #[C0 r,C0 c,.slice ao k cap] 24)).alloc (.cells #[C0 r,C0 q,.slice bo m d] 24)).heap.size ((w.alloc (.cells #[C0 r,C0 c,.slice ao k cap] 24)).alloc (.cells #[C0 r,C0 q,.slice bo m d] 24));simpa only[an]using this);have HB:=ac b0;have HX:=ac x0;have HY:=ac x1;have be:=ac C1;have bi:=ac C2;have bm:=ac C3;have bn:=ac C4;have bc:=ac S1;have a7:=ac S2;have ax:=ac S3;have aI:=ac M1;have ap:=ac M2;have ae:=ac M3;have bp:=ac GR;have bq:=ac WN;have br:=ac CA;clear C1 C2 C3 C4 S1 S2 S3 M1 M2 M3 GR WN CA KB b0 x0 x1
 go_enter Tryz.func3,Tryz.ntmps3
 have y0:=(uH HX).c0;have y1:=(uH HX).c1;have y2:=(uH HX).c2;have u0:=(uH HY).c0;have u1:=(uH HY).c1;have u2:=(uH HY).c2;go_wp2_with fail;clear y0 y1 y2 u0 u1 u2;refine(uH be _ (uH HB)).mono ?_;rintro e wn ⟨rfl,F⟩;replace HX:=ac ((uH HX).all F);replace HY:=ac ((uH HY).all F);replace HB:=ac ((uH HB).trans (F.mono (uH HB).size));clear F;have y0:=(uH HX).c0;have y1:=(uH HX).c1;have y2:=(uH HX).c2;have u0:=(uH HY).c0;have u1:=(uH HY).c1;have u2:=(uH HY).c2;go_wp2_with fail;clear y0 y1 y2 u0 u1 u2;refine(uH bi _ (uH HB)).mono ?_;rintro e wn ⟨rfl,F⟩;replace HX:=ac ((uH HX).all F);replace HY:=ac ((uH HY).all F);replace HB:=ac ((uH HB).trans (F.mono (uH HB).size));clear F;have y0:=(uH HX).c0;have y1:=(uH HX).c1;have y2:=(uH HX).c2;have u0:=(uH HY).c0;have u1:=(uH HY).c1;have u2:=(uH HY).c2;go_wp2_with fail;clear y0 y1 y2 u0 u1 u2;refine(uH bm _ (uH HB)).mono ?_;rintro e w3 ⟨⟨xo,xc,rfl,hx⟩,F⟩;replace HX:=ac ((uH HX).all F);replace HY:=ac ((uH HY).all F);replace HB:=ac ((uH HB).trans (F.mono (uH HB).size));have U:=ad w3 (.cells #[C0 c,C0 q,.slice xo n xc] 24);have HW:=ac (aE.new w3 (C0 c) (C0 q) (.slice xo n xc));have LX:=ac (hx.below U);replace HX:=ac ((uH HX).all U);replace HY:=ac ((uH HY).all U);replace HB:=ac ((uH HB).trans (U.mono (uH HB).size));clear F U hx;have v0:=(uH HW).c0;have v1:=(uH HW).c1;have v2:=(uH HW).c2;go_wp2_with fail;clear v0 v1 v2;refine(uH bn _ xo xc (uH HB) (uH LX)).mono ?_;rintro e w4 ⟨rfl,F⟩;replace HX:=ac ((uH HX).all F);replace HY:=ac ((uH HY).all F);replace HW:=ac ((uH HW).all F);replace LX:=ac ((uH LX).below F);replace HB:=ac ((uH HB).trans (F.mono (uH HB).size));clear F;have y0:=(uH HX).c0;have y1:=(uH HX).c1;have y2:=(uH HX).c2;have u0:=(uH HY).c0;have u1:=(uH HY).c1;have u2:=(uH HY).c2;have v0:=(uH HW).c0;have v1:=(uH HW).c1;have v2:=(uH HW).c2;have bs:((c:Int) != (c:Int))=false:=by simp
 have bt:((q:Int) != (q:Int))=false:=by simp
 go_wp2_with fail;clear v0 v1 v2 bs bt;clear y0 y1 y2 u0 u1 u2;refine(uH bc _ (uH HB)).mono ?_;rintro e w5 ⟨v,rfl,N,F⟩;obtain⟨n1,a1,l1,c1,E1,rfl,L⟩:=N.ex17;have O:=ac L;clear N L;replace HX:=ac ((uH HX).all F);replace HY:=ac ((uH HY).all F);replace HW:=ac ((uH HW).all F);replace LX:=ac ((uH LX).below F);replace HB:=ac ((uH HB).trans (F.mono (uH HB).size));clear F;have U:=ad w5 (.cells #[.bool n1,.slice a1 l1 c1,C0 E1] 35);have HZ:=ac (ar.new w5 (.bool n1) (.slice a1 l1 c1) (C0 E1));replace HX:=ac ((uH HX).all U);replace HY:=ac ((uH HY).all U);replace HW:=ac ((uH HW).all U);replace LX:=ac ((uH LX).below U);replace O:=ac ((uH O).below U);replace HB:=ac ((uH HB).trans (U.mono (uH HB).size));clear U;go_wp2_with fail;generalize w3.heap.size=g5 at*;generalize w5.heap.size=g7 at*;generalize w5.alloc (.cells #[.bool n1,.slice a1 l1 c1,C0 E1] 35)=w6 at*;have l:=ac (show yb w w6 r c q n ao bo xo k cap m d xc g5 g7 X n1 a1 l1 c1 E1 from⟨uH HX,uH HY,uH HW,uH LX,uH HZ,uH HB⟩);clear HX HY HW LX HZ HB;refine AA (T:=Value×Value×Value×Value×Bool×GY×Nat×Nat×Int×Nat) (fun a t=>(((((((((((a.put (some 54) (.agg #[.bool n1,.slice a1 l1 c1,C0 E1])).put (some 55) (.agg #[.bool n1,.slice a1 l1 c1,C0 E1])).put (some 56) (.agg #[C0 (c:Nat),C0 (q:Nat),.slice xo n xc])).put (some 57) t.1).put (some 58) t.2.1).put (some 59) (.agg #[C0 (r:Nat),C0 (q:Nat),.slice bo m d])).put (some 60) t.2.2.1).put (some 61) t.2.2.2.1).put (some 62) (.agg #[.bool t.2.2.2.2.1,.slice t.2.2.2.2.2.1 t.2.2.2.2.2.2.1 t.2.2.2.2.2.2.2.1,C0 t.2.2.2.2.2.2.2.2.1])).put (some 8) (.pointer (some ⟨t.2.2.2.2.2.2.2.2.2,0,none⟩))))) (fun t H=>yb w H r c q n ao bo xo k cap m d xc g5 g7 X n1 a1 l1 c1 E1/\ar H t.2.2.2.2.2.2.2.2.2 (.bool t.2.2.2.2.1) (.slice t.2.2.2.2.2.1 t.2.2.2.2.2.2.1 t.2.2.2.2.2.2.2.1) (C0 t.2.2.2.2.2.2.2.2.1)/\aN H (.agg #[.bool t.2.2.2.2.1,.slice t.2.2.2.2.2.1 t.2.2.2.2.2.2.1 t.2.2.2.2.2.2.2.1,C0 t.2.2.2.2.2.2.2.2.1]) lq z6) ?_ ?_
 rotate_left
 ·rintro⟨v7,v8,v0,v1,n6,a6,l6,c6,E6,bb⟩ bd ⟨st,h8,il⟩
  simp only[Act.put,List.setIfInBounds_toArray,List.set_cons_zero,List.set_cons_succ];have hd:=(Below.refl bd.heap.size bd).drew;have S2:=ac (st.all hd);have I:=ac (show ar _ _ _ _ _ from h8.all hd);have L6:=ac (show aN _ (.agg #[.bool n6,.slice a6 l6 c6,C0 E6]) lq z6 from il.below hd);clear hd st h8 il l O bc a7 ax aI ap ae;have l:=S2;clear S2;go_wp2_with fail;refine wp_region_held_drew (S:=fun H=>(H.cell? ⟨bb,0,none⟩=some (.bool n6)/\H.cell? ⟨bb,1,none⟩=some (.slice a6 l6 c6)/\H.cell? ⟨bb,2,none⟩=some (C0 E6))/\(H.cell? ⟨g5,0,none⟩=some (C0 (c:Nat))/\H.cell? ⟨g5,1,none⟩=some (C0 (q:Nat))/\H.cell? ⟨g5,2,none⟩=some (.slice xo n xc))/\(H.cell? ⟨w.heap.size,0,none⟩=some (C0 (r:Nat))/\H.cell? ⟨w.heap.size,1,none⟩=some (C0 (c:Nat))/\H.cell? ⟨w.heap.size,2,none⟩=some (.slice ao k cap))/\H.cell? ⟨w.heap.size+1,0,none⟩=some (C0 (r:Nat))/\H.cell? ⟨w.heap.size+1,1,none⟩=some (C0 (q:Nat))/\H.cell? ⟨w.heap.size+1,2,none⟩=some (.slice bo m d)) (by kernel_rfl) ?_ (fun D=>?_)
  ·exact⟨⟨(uH I).c0,(uH I).c1,(uH I).c2⟩,⟨(uH l).hw.c0,(uH l).hw.c1,(uH l).hw.c2⟩,⟨(uH l).hx.c0,(uH l).hx.c1,(uH l).hx.c2⟩,(uH l).hy.c0,(uH l).hy.c1,(uH l).hy.c2⟩
  refine wpAnyH_take (i:=0) (oi:={dst:=some 63,op:=Op.load 24 (Operand.tmp 2),type:=24,pos:= "law.go:102",after:=#[],guard:=none}) (v:=(Value.agg #[C0 (r:Nat),C0 (c:Nat),.slice ao k cap])) rfl (by kernel_rfl) (by kernel_rfl) (by kernel_rfl) (fun _ _ _ h=>h) (Or.inl ⟨by rfl,?_⟩) (by assumption) ?_
  ·(intro w Q;(try dsimp only at Q);go_simp)
  simp only[Act.put,List.setIfInBounds_toArray,List.set_cons_zero,List.set_cons_succ];refine wpAnyH_take (i:=1) (oi:={dst:=some 64,op:=Op.load 24 (Operand.tmp 5),type:=24,pos:= "law.go:102",after:=#[],guard:=none}) (v:=(Value.agg #[C0 (c:Nat),C0 (q:Nat),.slice xo n xc])) rfl (by kernel_rfl) (by kernel_rfl) (by kernel_rfl) (fun _ _ _ h=>h) (Or.inl ⟨by rfl,?_⟩) (by assumption) ?_
  ·(intro w Q;(try dsimp only at Q);go_simp)
  simp only[Act.put,List.setIfInBounds_toArray,List.set_cons_zero,List.set_cons_succ];refine wpAnyH_take (i:=2) (oi:={dst:=some 65,op:=Op.load 24 (Operand.tmp 3),type:=24,pos:= "law.go:102",after:=#[],guard:=none}) (v:=(Value.agg #[C0 (r:Nat),C0 (q:Nat),.slice bo m d])) rfl (by kernel_rfl) (by kernel_rfl) (by kernel_rfl) (fun _ _ _ h=>h) (Or.inl ⟨by rfl,?_⟩) (by assumption) ?_
  ·(intro w Q;(try dsimp only at Q);go_simp)
  simp only[Act.put,List.setIfInBounds_toArray,List.set_cons_zero,List.set_cons_succ];refine wpAnyH_take (i:=4) (oi:={dst:=some 67,op:=Op.load 35 (Operand.tmp 8),type:=35,pos:= "law.go:102",after:=#[],guard:=none}) (v:=(Value.agg #[.bool n6,.slice a6 l6 c6,C0 E6])) rfl (by kernel_rfl) (by kernel_rfl) (by kernel_rfl) (fun _ _ _ h=>h) (Or.inl ⟨by rfl,?_⟩) (by assumption) ?_
  ·(intro w Q;(try dsimp only at Q);go_simp)
  simp only[Act.put,List.setIfInBounds_toArray,List.set_cons_zero,List.set_cons_succ];refine wpAnyH_ready (rs:=[3]) (by kernel_rfl) (by simp) ?_;refine AllReadyH.cons (o:={dst:=some 66,op:=Op.call {callee:=Callee.value (Operand.func 21),args:=#[Operand.tmp 63,Operand.tmp 64,Operand.tmp 65],argTypes:=#[24,24,24]},type:=35,pos:= "law.go:102",after:=#[{on:=0,ground:=Ground.data},{on:=1,ground:=Ground.data},{on:=2,ground:=Ground.data}],guard:=none}) rfl (fun K G=>?_) AllReadyH.nil;go_simp;refine(uH bp _ xo xc (uH l).hb (uH l).lx).mono ?_;rintro e bv ⟨v,rfl,N,F⟩;obtain⟨n9,a9,l9,c9,E9,rfl,L⟩:=N.ex17;have L9:=ac L;clear N L;replace l:=ac ((uH l).all F);replace I:=ac ((uH I).all F);replace L6:=ac ((uH L6).below F);clear F;go_wp2_with fail;refine G.out _ _ ?_ (fun D=>?_)
  ·exact⟨⟨(uH I).c0,(uH I).c1,(uH I).c2⟩,⟨(uH l).hw.c0,(uH l).hw.c1,(uH l).hw.c2⟩,⟨(uH l).hx.c0,(uH l).hx.c1,(uH l).hx.c2⟩,(uH l).hy.c0,(uH l).hy.c1,(uH l).hy.c2⟩
  clear G K;refine wpAnyH_ready (rs:=[5]) (by kernel_rfl) (by simp) ?_;refine AllReadyH.cons (o:={dst:=some 68,op:=Op.call {callee:=Callee.value (Operand.func 20),args:=#[Operand.tmp 66,Operand.tmp 67,Operand.const (Value.int IntKind.i64 35)],argTypes:=#[35,35,3]},type:=4,pos:= "law.go:102",after:=#[{on:=3,ground:=Ground.data},{on:=4,ground:=Ground.data},{on:=3,ground:=Ground.chain}],guard:=none}) rfl (fun K G=>?_) AllReadyH.nil;go_simp;refine(uH bq _ _ _ (uH L9) (uH L6)).mono ?_;rintro e bw ⟨rfl,F⟩;replace l:=ac ((uH l).all F);replace I:=ac ((uH I).all F);replace L6:=ac ((uH L6).below F);replace L9:=ac ((uH L9).below F);clear F;go_wp2_with fail;refine G.out _ _ ?_ (fun D=>?_)
  ·exact⟨⟨(uH I).c0,(uH I).c1,(uH I).c2⟩,⟨(uH l).hw.c0,(uH l).hw.c1,(uH l).hw.c2⟩,⟨(uH l).hx.c0,(uH l).hx.c1,(uH l).hx.c2⟩,(uH l).hy.c0,(uH l).hy.c1,(uH l).hy.c2⟩
  clear G K;refine wpAnyH_take (i:=6) (oi:={dst:=some 69,op:=Op.move (Operand.tmp 68),type:=4,pos:= "law.go:102",after:=#[{on:=5,ground:=Ground.data},{on:=5,ground:=Ground.chain}],guard:=none}) (v:=(Value.bool true)) rfl (by kernel_rfl) (by kernel_rfl) (by kernel_rfl) (fun _ _ _ h=>h) (Or.inl ⟨by rfl,?_⟩) (by assumption) ?_
  ·(intro w Q;(try dsimp only at Q);go_simp)
  simp only[Act.put,List.setIfInBounds_toArray,List.set_cons_zero,List.set_cons_succ];refine wpAnyH_ready (rs:=[7]) (by kernel_rfl) (by simp) ?_;refine AllReadyH.cons (o:={dst:=some 70,op:=Op.call {callee:=Callee.value (Operand.func 14),args:=#[],argTypes:=#[]},type:=4,pos:= "law.go:102",after:=#[{on:=6,ground:=Ground.chain},{on:=6,ground:=Ground.guard}],guard:=some (6,true)}) rfl (fun K G=>?_) AllReadyH.nil;go_simp;refine(uH br _ (uH l).hb).mono ?_;rintro e bx ⟨rfl,F⟩;replace l:=ac ((uH l).all F);replace I:=ac ((uH I).all F);replace L6:=ac ((uH L6).below F);replace L9:=ac ((uH L9).below F);clear F;go_wp2_with fail;refine G.out _ _ ?_ (fun D=>?_)
  ·exact⟨⟨(uH I).c0,(uH I).c1,(uH I).c2⟩,⟨(uH l).hw.c0,(uH l).hw.c1,(uH l).hw.c2⟩,⟨(uH l).hx.c0,(uH l).hx.c1,(uH l).hx.c2⟩,(uH l).hy.c0,(uH l).hy.c1,(uH l).hy.c2⟩
  clear G K;refine wpAnyH_take (i:=8) (oi:={dst:=some 71,op:=Op.pick (Operand.tmp 69) (Operand.tmp 70) (Operand.const (Value.bool false)),type:=4,pos:= "law.go:102",after:=#[{on:=6,ground:=Ground.data},{on:=7,ground:=Ground.data}],guard:=none}) (v:=(Value.bool true)) rfl (by kernel_rfl) (by kernel_rfl) (by kernel_rfl) (fun _ _ _ h=>h) (Or.inl ⟨by rfl,?_⟩) (by assumption) ?_
  ·(intro w Q;(try dsimp only at Q);go_simp)
  simp only[Act.put,List.setIfInBounds_toArray,List.set_cons_zero,List.set_cons_succ];refine wpAnyH_take (i:=9) (oi:={dst:=some 4,op:=Op.assign (Operand.tmp 71),type:=4,pos:= "law.go:102",after:=#[{on:=8,ground:=Ground.data},{on:=7,ground:=Ground.chain},{on:=0,ground:=Ground.phase},{on:=1,ground:=Ground.phase},{on:=2,ground:=Ground.phase},{on:=3,ground:=Ground.phase},{on:=4,ground:=Ground.phase},{on:=5,ground:=Ground.phase},{on:=6,ground:=Ground.phase},{on:=7,ground:=Ground.phase},{on:=8,ground:=Ground.phase}],guard:=none}) (v:=(Value.bool true)) rfl (by kernel_rfl) (by kernel_rfl) (by kernel_rfl) (fun _ _ _ h=>h) (Or.inl ⟨by rfl,?_⟩) (by assumption) ?_
  ·(intro w Q;(try dsimp only at Q);go_simp)
  simp only[Act.put,List.setIfInBounds_toArray,List.set_cons_zero,List.set_cons_succ];refine wpAnyH_done (by kernel_rfl) ?_ _;go_wp2_with fail
  go_ret
  exact⟨rfl,(uH l).hb⟩
 have hd:=(Below.refl w6.heap.size w6).drew;replace l:=ac ((uH l).all hd);replace O:=ac ((uH O).below hd);clear hd;refine wp_region_held_drew (S:=fun H=>(H.cell? ⟨g7,0,none⟩=some (.bool n1)/\H.cell? ⟨g7,1,none⟩=some (.slice a1 l1 c1)/\H.cell? ⟨g7,2,none⟩=some (C0 E1))/\(H.cell? ⟨g5,0,none⟩=some (C0 (c:Nat))/\H.cell? ⟨g5,1,none⟩=some (C0 (q:Nat))/\H.cell? ⟨g5,2,none⟩=some (.slice xo n xc))/\H.cell? ⟨w.heap.size+1,0,none⟩=some (C0 (r:Nat))/\H.cell? ⟨w.heap.size+1,1,none⟩=some (C0 (q:Nat))/\H.cell? ⟨w.heap.size+1,2,none⟩=some (.slice bo m d)) (by kernel_rfl) ?_ (fun D=>?_)
 ·exact⟨⟨(uH l).hz.c0,(uH l).hz.c1,(uH l).hz.c2⟩,⟨(uH l).hw.c0,(uH l).hw.c1,(uH l).hw.c2⟩,(uH l).hy.c0,(uH l).hy.c1,(uH l).hy.c2⟩
 refine wpAnyH_take (i:=0) (oi:={dst:=some 54,op:=Op.load 35 (Operand.tmp 7),type:=35,pos:= "law.go:101",after:=#[],guard:=none}) (v:=(Value.agg #[.bool n1,.slice a1 l1 c1,C0 E1])) rfl (by kernel_rfl) (by kernel_rfl) (by kernel_rfl) (fun _ _ _ h=>h) (Or.inl ⟨by rfl,?_⟩) (by assumption) ?_
 ·(intro w Q;(try dsimp only at Q);go_simp)
 simp only[Act.put,List.setIfInBounds_toArray,List.set_cons_zero,List.set_cons_succ];refine wpAnyH_take (i:=1) (oi:={dst:=some 55,op:=Op.load 35 (Operand.tmp 7),type:=35,pos:= "law.go:101",after:=#[],guard:=none}) (v:=(Value.agg #[.bool n1,.slice a1 l1 c1,C0 E1])) rfl (by kernel_rfl) (by kernel_rfl) (by kernel_rfl) (fun _ _ _ h=>h) (Or.inl ⟨by rfl,?_⟩) (by assumption) ?_
 ·(intro w Q;(try dsimp only at Q);go_simp)
 simp only[Act.put,List.setIfInBounds_toArray,List.set_cons_zero,List.set_cons_succ];refine wpAnyH_take (i:=2) (oi:={dst:=some 56,op:=Op.load 24 (Operand.tmp 5),type:=24,pos:= "law.go:101",after:=#[],guard:=none}) (v:=(Value.agg #[C0 (c:Nat),C0 (q:Nat),.slice xo n xc])) rfl (by kernel_rfl) (by kernel_rfl) (by kernel_rfl) (fun _ _ _ h=>h) (Or.inl ⟨by rfl,?_⟩) (by assumption) ?_
 ·(intro w Q;(try dsimp only at Q);go_simp)
 simp only[Act.put,List.setIfInBounds_toArray,List.set_cons_zero,List.set_cons_succ];refine wpAnyH_take (i:=5) (oi:={dst:=some 59,op:=Op.load 24 (Operand.tmp 3),type:=24,pos:= "law.go:101",after:=#[],guard:=none}) (v:=(Value.agg #[C0 (r:Nat),C0 (q:Nat),.slice bo m d])) rfl (by kernel_rfl) (by kernel_rfl) (by kernel_rfl) (fun _ _ _ h=>h) (Or.inl ⟨by rfl,?_⟩) (by assumption) ?_
 ·(intro w Q;(try dsimp only at Q);go_simp)
 simp only[Act.put,List.setIfInBounds_toArray,List.set_cons_zero,List.set_cons_succ];refine wpAnyH_ready (rs:=[3,9]) (by kernel_rfl) (by simp) ?_;refine AllReadyH.cons (o:={dst:=some 57,op:=Op.call {callee:=Callee.value (Operand.func 17),args:=#[Operand.tmp 56],argTypes:=#[24]},type:=35,pos:= "law.go:101",after:=#[{on:=2,ground:=Ground.data}],guard:=none}) rfl (fun K G=>?_) (AllReadyH.cons (o:={dst:=some 8,op:=Op.alloc 35,type:=0,pos:= "law.go:101",after:=#[],guard:=none}) rfl (fun K G=>?_) AllReadyH.nil)
 ·go_simp
  refine(uH a7 _ xo xc (uH l).hb (uH l).lx).mono ?_;rintro e w7 ⟨v,rfl,N,F⟩;obtain⟨n2,a2,l2,c2,E2,rfl,L⟩:=N.ex17;have L2:=ac L;clear N L;replace l:=ac ((uH l).all F);replace O:=ac ((uH O).below F);clear F;go_wp2_with fail;refine G.out _ _ ?_ (fun D=>?_)
  ·exact⟨⟨(uH l).hz.c0,(uH l).hz.c1,(uH l).hz.c2⟩,⟨(uH l).hw.c0,(uH l).hw.c1,(uH l).hw.c2⟩,(uH l).hy.c0,(uH l).hy.c1,(uH l).hy.c2⟩
  clear G K;refine wpAnyH_ready (rs:=[4,9]) (by kernel_rfl) (by simp) ?_;refine AllReadyH.cons (o:={dst:=some 58,op:=Op.call {callee:=Callee.value (Operand.func 18),args:=#[Operand.tmp 55,Operand.tmp 57],argTypes:=#[35,35]},type:=35,pos:= "law.go:101",after:=#[{on:=1,ground:=Ground.data},{on:=3,ground:=Ground.data},{on:=3,ground:=Ground.chain}],guard:=none}) rfl (fun K G=>?_) (AllReadyH.cons (o:={dst:=some 8,op:=Op.alloc 35,type:=0,pos:= "law.go:101",after:=#[],guard:=none}) rfl (fun K G=>?_) AllReadyH.nil)
  ·go_simp
   refine(uH aI _ _ _ (uH O) (uH L2)).mono ?_;rintro e w8 ⟨v,rfl,N,F⟩;obtain⟨n4,a4,l4,c4,E4,rfl,L⟩:=N.ex17;have L4:=ac L;clear N L;clear L2;replace l:=ac ((uH l).all F);replace O:=ac ((uH O).below F);clear F;go_wp2_with fail;refine G.out _ _ ?_ (fun D=>?_)
   ·exact⟨⟨(uH l).hz.c0,(uH l).hz.c1,(uH l).hz.c2⟩,⟨(uH l).hw.c0,(uH l).hw.c1,(uH l).hw.c2⟩,(uH l).hy.c0,(uH l).hy.c1,(uH l).hy.c2⟩
   clear G K;refine wpAnyH_ready (rs:=[6,9]) (by kernel_rfl) (by simp) ?_;refine AllReadyH.cons (o:={dst:=some 60,op:=Op.call {callee:=Callee.value (Operand.func 17),args:=#[Operand.tmp 59],argTypes:=#[24]},type:=35,pos:= "law.go:101",after:=#[{on:=5,ground:=Ground.data},{on:=4,ground:=Ground.chain}],guard:=none}) rfl (fun K G=>?_) (AllReadyH.cons (o:={dst:=some 8,op:=Op.alloc 35,type:=0,pos:= "law.go:101",after:=#[],guard:=none}) rfl (fun K G=>?_) AllReadyH.nil)
   ·go_simp
    refine(uH ax _ (uH l).hb).mono ?_;rintro e w9 ⟨v,rfl,N,F⟩;obtain⟨n3,a3,l3,c3,E3,rfl,L⟩:=N.ex17;have L3:=ac L;clear N L;replace l:=ac ((uH l).all F);replace O:=ac ((uH O).below F);replace L4:=ac ((uH L4).below F);clear F;go_wp2_with fail;refine G.out _ _ ?_ (fun D=>?_)
    ·exact⟨⟨(uH l).hz.c0,(uH l).hz.c1,(uH l).hz.c2⟩,⟨(uH l).hw.c0,(uH l).hw.c1,(uH l).hw.c2⟩,(uH l).hy.c0,(uH l).hy.c1,(uH l).hy.c2⟩
    clear G K;refine wpAnyH_ready (rs:=[7,9]) (by kernel_rfl) (by simp) ?_;refine AllReadyH.cons (o:={dst:=some 61,op:=Op.call {callee:=Callee.value (Operand.func 19),args:=#[Operand.tmp 58,Operand.tmp 60],argTypes:=#[35,35]},type:=35,pos:= "law.go:101",after:=#[{on:=4,ground:=Ground.data},{on:=6,ground:=Ground.data},{on:=6,ground:=Ground.chain}],guard:=none}) rfl (fun K G=>?_) (AllReadyH.cons (o:={dst:=some 8,op:=Op.alloc 35,type:=0,pos:= "law.go:101",after:=#[],guard:=none}) rfl (fun K G=>?_) AllReadyH.nil)
    ·go_simp
     refine(uH ap _ _ _ (uH L4) (uH L3)).mono ?_;rintro e am ⟨v,rfl,N,F⟩;obtain⟨n5,a5,l5,c5,E5,rfl,L⟩:=N.ex17;have L5:=ac L;clear N L;clear L4 L3;replace l:=ac ((uH l).all F);replace O:=ac ((uH O).below F);clear F;go_wp2_with fail;refine G.out _ _ ?_ (fun D=>?_)
     ·exact⟨⟨(uH l).hz.c0,(uH l).hz.c1,(uH l).hz.c2⟩,⟨(uH l).hw.c0,(uH l).hw.c1,(uH l).hw.c2⟩,(uH l).hy.c0,(uH l).hy.c1,(uH l).hy.c2⟩
     clear G K;refine wpAnyH_ready (rs:=[8,9]) (by kernel_rfl) (by simp) ?_;refine AllReadyH.cons (o:={dst:=some 62,op:=Op.call {callee:=Callee.value (Operand.func 18),args:=#[Operand.tmp 54,Operand.tmp 61],argTypes:=#[35,35]},type:=35,pos:= "law.go:101",after:=#[{on:=0,ground:=Ground.data},{on:=7,ground:=Ground.data},{on:=7,ground:=Ground.chain}],guard:=none}) rfl (fun K G=>?_) (AllReadyH.cons (o:={dst:=some 8,op:=Op.alloc 35,type:=0,pos:= "law.go:101",after:=#[],guard:=none}) rfl (fun K G=>?_) AllReadyH.nil)
     ·go_simp
      refine(uH ae _ _ _ (uH O) (uH L5)).mono ?_;rintro e aa ⟨v,rfl,N,F⟩;obtain⟨n6,a6,l6,c6,E6,rfl,L⟩:=N.ex17;have L6:=ac L;clear N L;clear L5 O;replace l:=ac ((uH l).all F);clear F;go_wp2_with fail;refine G.out _ _ ?_ (fun D=>?_)
      ·exact⟨⟨(uH l).hz.c0,(uH l).hz.c1,(uH l).hz.c2⟩,⟨(uH l).hw.c0,(uH l).hw.c1,(uH l).hw.c2⟩,(uH l).hy.c0,(uH l).hy.c1,(uH l).hy.c2⟩
      clear G K;refine wpAnyH_ready (rs:=[9]) (by kernel_rfl) (by simp) ?_;refine AllReadyH.cons (o:={dst:=some 8,op:=Op.alloc 35,type:=0,pos:= "law.go:101",after:=#[],guard:=none}) rfl (fun K G=>?_) AllReadyH.nil;go_simp;have U:=ad aa (.cells #[.bool false,.slice none 0 0,C0 0] 35);have HG:=ac ((uH l).hb.size);have Z:=ac ((uH l).hz.lt);have I:=ac (ar.new aa (.bool false) (.slice none 0 0) (C0 0));replace l:=ac ((uH l).all U);replace L6:=ac ((uH L6).below U);clear U;generalize aa.heap.size=g8 at*;generalize aa.alloc (.cells #[.bool false,.slice none 0 0,C0 0] 35)=wa at*;refine G.out _ _ ?_ (fun D=>?_)
      ·exact⟨⟨(uH l).hz.c0,(uH l).hz.c1,(uH l).hz.c2⟩,⟨(uH l).hw.c0,(uH l).hw.c1,(uH l).hw.c2⟩,(uH l).hy.c0,(uH l).hy.c1,(uH l).hy.c2⟩
      clear G K;refine wpAnyH_ready (rs:=[10]) (by kernel_rfl) (by simp) ?_;refine AllReadyH.cons (o:={dst:=none,op:=Op.store 35 (Operand.tmp 8) (Operand.tmp 62),type:=0,pos:= "law.go:101",after:=#[{on:=9,ground:=Ground.data},{on:=8,ground:=Ground.data},{on:=8,ground:=Ground.chain},{on:=0,ground:=Ground.phase},{on:=1,ground:=Ground.phase},{on:=2,ground:=Ground.phase},{on:=3,ground:=Ground.phase},{on:=4,ground:=Ground.phase},{on:=5,ground:=Ground.phase},{on:=6,ground:=Ground.phase},{on:=7,ground:=Ground.phase},{on:=8,ground:=Ground.phase},{on:=9,ground:=Ground.phase}],guard:=none}) rfl (fun K G=>?_) AllReadyH.nil;have M:=uH I;have f0:=M.free 0;have f1:=M.free 1;have f2:=M.free 2;have s0:=M.c0;have s1:=M.c1;have s2:=M.c2;replace l:=ac ((uH l).put3 M (uH Z) (uH HG) (.bool n6) (.slice a6 l6 c6) (C0 E6));replace L6:=ac (show aN _ _ lq z6 from aH.put3 (uH L6) M (.bool n6) (.slice a6 l6 c6) (C0 E6));replace I:=ac (M.put (.bool n6) (.slice a6 l6 c6) (C0 E6));clear M HG Z;go_simp;clear f0 f1 f2 s0 s1 s2;refine G.out _ _ ?_ (fun D=>?_)
      ·exact⟨⟨(uH l).hz.c0,(uH l).hz.c1,(uH l).hz.c2⟩,⟨(uH l).hw.c0,(uH l).hw.c1,(uH l).hw.c2⟩,(uH l).hy.c0,(uH l).hy.c1,(uH l).hy.c2⟩
      clear G K;refine wpAnyH_done (by kernel_rfl) ?_ _;exact⟨⟨_,_,_,_,n6,a6,l6,c6,E6,g8⟩,by first|rfl|simp[Act.put],uH l,uH I,uH L6⟩
     ·go_simp
      have U:=ad am (.cells #[.bool false,.slice none 0 0,C0 0] 35);have HG:=ac ((uH l).hb.size);have Z:=ac ((uH l).hz.lt);have I:=ac (ar.new am (.bool false) (.slice none 0 0) (C0 0));replace l:=ac ((uH l).all U);replace O:=ac ((uH O).below U);replace L5:=ac ((uH L5).below U);clear U;generalize am.heap.size=g8 at*;generalize am.alloc (.cells #[.bool false,.slice none 0 0,C0 0] 35)=wa at*;refine G.out _ _ ?_ (fun D=>?_)
      ·exact⟨⟨(uH l).hz.c0,(uH l).hz.c1,(uH l).hz.c2⟩,⟨(uH l).hw.c0,(uH l).hw.c1,(uH l).hw.c2⟩,(uH l).hy.c0,(uH l).hy.c1,(uH l).hy.c2⟩
      clear G K;refine wpAnyH_ready (rs:=[8]) (by kernel_rfl) (by simp) ?_;refine AllReadyH.cons (o:={dst:=some 62,op:=Op.call {callee:=Callee.value (Operand.func 18),args:=#[Operand.tmp 54,Operand.tmp 61],argTypes:=#[35,35]},type:=35,pos:= "law.go:101",after:=#[{on:=0,ground:=Ground.data},{on:=7,ground:=Ground.data},{on:=7,ground:=Ground.chain}],guard:=none}) rfl (fun K G=>?_) AllReadyH.nil;go_simp;refine(uH ae _ _ _ (uH O) (uH L5)).mono ?_;rintro e a0 ⟨v,rfl,N,F⟩;obtain⟨n6,a6,l6,c6,E6,rfl,L⟩:=N.ex17;have L6:=ac L;clear N L;clear L5 O;replace l:=ac ((uH l).all F);replace I:=ac ((uH I).all F);clear F;go_wp2_with fail;refine G.out _ _ ?_ (fun D=>?_)
      ·exact⟨⟨(uH l).hz.c0,(uH l).hz.c1,(uH l).hz.c2⟩,⟨(uH l).hw.c0,(uH l).hw.c1,(uH l).hw.c2⟩,(uH l).hy.c0,(uH l).hy.c1,(uH l).hy.c2⟩
      clear G K;refine wpAnyH_ready (rs:=[10]) (by kernel_rfl) (by simp) ?_;refine AllReadyH.cons (o:={dst:=none,op:=Op.store 35 (Operand.tmp 8) (Operand.tmp 62),type:=0,pos:= "law.go:101",after:=#[{on:=9,ground:=Ground.data},{on:=8,ground:=Ground.data},{on:=8,ground:=Ground.chain},{on:=0,ground:=Ground.phase},{on:=1,ground:=Ground.phase},{on:=2,ground:=Ground.phase},{on:=3,ground:=Ground.phase},{on:=4,ground:=Ground.phase},{on:=5,ground:=Ground.phase},{on:=6,ground:=Ground.phase},{on:=7,ground:=Ground.phase},{on:=8,ground:=Ground.phase},{on:=9,ground:=Ground.phase}],guard:=none}) rfl (fun K G=>?_) AllReadyH.nil;have M:=uH I;have f0:=M.free 0;have f1:=M.free 1;have f2:=M.free 2;have s0:=M.c0;have s1:=M.c1;have s2:=M.c2;replace l:=ac ((uH l).put3 M (uH Z) (uH HG) (.bool n6) (.slice a6 l6 c6) (C0 E6));replace L6:=ac (show aN _ _ lq z6 from aH.put3 (uH L6) M (.bool n6) (.slice a6 l6 c6) (C0 E6));replace I:=ac (M.put (.bool n6) (.slice a6 l6 c6) (C0 E6));clear M HG Z;go_simp;clear f0 f1 f2 s0 s1 s2;refine G.out _ _ ?_ (fun D=>?_)
      ·exact⟨⟨(uH l).hz.c0,(uH l).hz.c1,(uH l).hz.c2⟩,⟨(uH l).hw.c0,(uH l).hw.c1,(uH l).hw.c2⟩,(uH l).hy.c0,(uH l).hy.c1,(uH l).hy.c2⟩
      clear G K;refine wpAnyH_done (by kernel_rfl) ?_ _;exact⟨⟨_,_,_,_,n6,a6,l6,c6,E6,g8⟩,by first|rfl|simp[Act.put],uH l,uH I,uH L6⟩
    ·go_simp
     have U:=ad w9 (.cells #[.bool false,.slice none 0 0,C0 0] 35);have HG:=ac ((uH l).hb.size);have Z:=ac ((uH l).hz.lt);have I:=ac (ar.new w9 (.bool false) (.slice none 0 0) (C0 0));replace l:=ac ((uH l).all U);replace O:=ac ((uH O).below U);replace L4:=ac ((uH L4).below U);replace L3:=ac ((uH L3).below U);clear U;generalize w9.heap.size=g8 at*;generalize w9.alloc (.cells #[.bool false,.slice none 0 0,C0 0] 35)=wa at*;refine G.out _ _ ?_ (fun D=>?_)
     ·exact⟨⟨(uH l).hz.c0,(uH l).hz.c1,(uH l).hz.c2⟩,⟨(uH l).hw.c0,(uH l).hw.c1,(uH l).hw.c2⟩,(uH l).hy.c0,(uH l).hy.c1,(uH l).hy.c2⟩
     clear G K;refine wpAnyH_ready (rs:=[7]) (by kernel_rfl) (by simp) ?_;refine AllReadyH.cons (o:={dst:=some 61,op:=Op.call {callee:=Callee.value (Operand.func 19),args:=#[Operand.tmp 58,Operand.tmp 60],argTypes:=#[35,35]},type:=35,pos:= "law.go:101",after:=#[{on:=4,ground:=Ground.data},{on:=6,ground:=Ground.data},{on:=6,ground:=Ground.chain}],guard:=none}) rfl (fun K G=>?_) AllReadyH.nil;go_simp;refine(uH ap _ _ _ (uH L4) (uH L3)).mono ?_;rintro e aa ⟨v,rfl,N,F⟩;obtain⟨n5,a5,l5,c5,E5,rfl,L⟩:=N.ex17;have L5:=ac L;clear N L;clear L4 L3;replace l:=ac ((uH l).all F);replace I:=ac ((uH I).all F);replace O:=ac ((uH O).below F);clear F;go_wp2_with fail;refine G.out _ _ ?_ (fun D=>?_)
     ·exact⟨⟨(uH l).hz.c0,(uH l).hz.c1,(uH l).hz.c2⟩,⟨(uH l).hw.c0,(uH l).hw.c1,(uH l).hw.c2⟩,(uH l).hy.c0,(uH l).hy.c1,(uH l).hy.c2⟩
     clear G K;refine wpAnyH_ready (rs:=[8]) (by kernel_rfl) (by simp) ?_;refine AllReadyH.cons (o:={dst:=some 62,op:=Op.call {callee:=Callee.value (Operand.func 18),args:=#[Operand.tmp 54,Operand.tmp 61],argTypes:=#[35,35]},type:=35,pos:= "law.go:101",after:=#[{on:=0,ground:=Ground.data},{on:=7,ground:=Ground.data},{on:=7,ground:=Ground.chain}],guard:=none}) rfl (fun K G=>?_) AllReadyH.nil;go_simp;refine(uH ae _ _ _ (uH O) (uH L5)).mono ?_;rintro e a0 ⟨v,rfl,N,F⟩;obtain⟨n6,a6,l6,c6,E6,rfl,L⟩:=N.ex17;have L6:=ac L;clear N L;clear L5 O;replace l:=ac ((uH l).all F);replace I:=ac ((uH I).all F);clear F;go_wp2_with fail;refine G.out _ _ ?_ (fun D=>?_)
     ·exact⟨⟨(uH l).hz.c0,(uH l).hz.c1,(uH l).hz.c2⟩,⟨(uH l).hw.c0,(uH l).hw.c1,(uH l).hw.c2⟩,(uH l).hy.c0,(uH l).hy.c1,(uH l).hy.c2⟩
     clear G K;refine wpAnyH_ready (rs:=[10]) (by kernel_rfl) (by simp) ?_;refine AllReadyH.cons (o:={dst:=none,op:=Op.store 35 (Operand.tmp 8) (Operand.tmp 62),type:=0,pos:= "law.go:101",after:=#[{on:=9,ground:=Ground.data},{on:=8,ground:=Ground.data},{on:=8,ground:=Ground.chain},{on:=0,ground:=Ground.phase},{on:=1,ground:=Ground.phase},{on:=2,ground:=Ground.phase},{on:=3,ground:=Ground.phase},{on:=4,ground:=Ground.phase},{on:=5,ground:=Ground.phase},{on:=6,ground:=Ground.phase},{on:=7,ground:=Ground.phase},{on:=8,ground:=Ground.phase},{on:=9,ground:=Ground.phase}],guard:=none}) rfl (fun K G=>?_) AllReadyH.nil;have M:=uH I;have f0:=M.free 0;have f1:=M.free 1;have f2:=M.free 2;have s0:=M.c0;have s1:=M.c1;have s2:=M.c2;replace l:=ac ((uH l).put3 M (uH Z) (uH HG) (.bool n6) (.slice a6 l6 c6) (C0 E6));replace L6:=ac (show aN _ _ lq z6 from aH.put3 (uH L6) M (.bool n6) (.slice a6 l6 c6) (C0 E6));replace I:=ac (M.put (.bool n6) (.slice a6 l6 c6) (C0 E6));clear M HG Z;go_simp;clear f0 f1 f2 s0 s1 s2;refine G.out _ _ ?_ (fun D=>?_)
     ·exact⟨⟨(uH l).hz.c0,(uH l).hz.c1,(uH l).hz.c2⟩,⟨(uH l).hw.c0,(uH l).hw.c1,(uH l).hw.c2⟩,(uH l).hy.c0,(uH l).hy.c1,(uH l).hy.c2⟩
     clear G K;refine wpAnyH_done (by kernel_rfl) ?_ _;exact⟨⟨_,_,_,_,n6,a6,l6,c6,E6,g8⟩,by first|rfl|simp[Act.put],uH l,uH I,uH L6⟩
   ·go_simp
    have U:=ad w8 (.cells #[.bool false,.slice none 0 0,C0 0] 35);have HG:=ac ((uH l).hb.size);have Z:=ac ((uH l).hz.lt);have I:=ac (ar.new w8 (.bool false) (.slice none 0 0) (C0 0));replace l:=ac ((uH l).all U);replace O:=ac ((uH O).below U);replace L4:=ac ((uH L4).below U);clear U;generalize w8.heap.size=g8 at*;generalize w8.alloc (.cells #[.bool false,.slice none 0 0,C0 0] 35)=wa at*;refine G.out _ _ ?_ (fun D=>?_)
    ·exact⟨⟨(uH l).hz.c0,(uH l).hz.c1,(uH l).hz.c2⟩,⟨(uH l).hw.c0,(uH l).hw.c1,(uH l).hw.c2⟩,(uH l).hy.c0,(uH l).hy.c1,(uH l).hy.c2⟩
    clear G K;refine wpAnyH_ready (rs:=[6]) (by kernel_rfl) (by simp) ?_;refine AllReadyH.cons (o:={dst:=some 60,op:=Op.call {callee:=Callee.value (Operand.func 17),args:=#[Operand.tmp 59],argTypes:=#[24]},type:=35,pos:= "law.go:101",after:=#[{on:=5,ground:=Ground.data},{on:=4,ground:=Ground.chain}],guard:=none}) rfl (fun K G=>?_) AllReadyH.nil;go_simp;refine(uH ax _ (uH l).hb).mono ?_;rintro e am ⟨v,rfl,N,F⟩;obtain⟨n3,a3,l3,c3,E3,rfl,L⟩:=N.ex17;have L3:=ac L;clear N L;replace l:=ac ((uH l).all F);replace I:=ac ((uH I).all F);replace O:=ac ((uH O).below F);replace L4:=ac ((uH L4).below F);clear F;go_wp2_with fail;refine G.out _ _ ?_ (fun D=>?_)
    ·exact⟨⟨(uH l).hz.c0,(uH l).hz.c1,(uH l).hz.c2⟩,⟨(uH l).hw.c0,(uH l).hw.c1,(uH l).hw.c2⟩,(uH l).hy.c0,(uH l).hy.c1,(uH l).hy.c2⟩
    clear G K;refine wpAnyH_ready (rs:=[7]) (by kernel_rfl) (by simp) ?_;refine AllReadyH.cons (o:={dst:=some 61,op:=Op.call {callee:=Callee.value (Operand.func 19),args:=#[Operand.tmp 58,Operand.tmp 60],argTypes:=#[35,35]},type:=35,pos:= "law.go:101",after:=#[{on:=4,ground:=Ground.data},{on:=6,ground:=Ground.data},{on:=6,ground:=Ground.chain}],guard:=none}) rfl (fun K G=>?_) AllReadyH.nil;go_simp;refine(uH ap _ _ _ (uH L4) (uH L3)).mono ?_;rintro e aa ⟨v,rfl,N,F⟩;obtain⟨n5,a5,l5,c5,E5,rfl,L⟩:=N.ex17;have L5:=ac L;clear N L;clear L4 L3;replace l:=ac ((uH l).all F);replace I:=ac ((uH I).all F);replace O:=ac ((uH O).below F);clear F;go_wp2_with fail;refine G.out _ _ ?_ (fun D=>?_)
    ·exact⟨⟨(uH l).hz.c0,(uH l).hz.c1,(uH l).hz.c2⟩,⟨(uH l).hw.c0,(uH l).hw.c1,(uH l).hw.c2⟩,(uH l).hy.c0,(uH l).hy.c1,(uH l).hy.c2⟩
    clear G K;refine wpAnyH_ready (rs:=[8]) (by kernel_rfl) (by simp) ?_;refine AllReadyH.cons (o:={dst:=some 62,op:=Op.call {callee:=Callee.value (Operand.func 18),args:=#[Operand.tmp 54,Operand.tmp 61],argTypes:=#[35,35]},type:=35,pos:= "law.go:101",after:=#[{on:=0,ground:=Ground.data},{on:=7,ground:=Ground.data},{on:=7,ground:=Ground.chain}],guard:=none}) rfl (fun K G=>?_) AllReadyH.nil;go_simp;refine(uH ae _ _ _ (uH O) (uH L5)).mono ?_;rintro e a0 ⟨v,rfl,N,F⟩;obtain⟨n6,a6,l6,c6,E6,rfl,L⟩:=N.ex17;have L6:=ac L;clear N L;clear L5 O;replace l:=ac ((uH l).all F);replace I:=ac ((uH I).all F);clear F;go_wp2_with fail;refine G.out _ _ ?_ (fun D=>?_)
    ·exact⟨⟨(uH l).hz.c0,(uH l).hz.c1,(uH l).hz.c2⟩,⟨(uH l).hw.c0,(uH l).hw.c1,(uH l).hw.c2⟩,(uH l).hy.c0,(uH l).hy.c1,(uH l).hy.c2⟩
    clear G K;refine wpAnyH_ready (rs:=[10]) (by kernel_rfl) (by simp) ?_;refine AllReadyH.cons (o:={dst:=none,op:=Op.store 35 (Operand.tmp 8) (Operand.tmp 62),type:=0,pos:= "law.go:101",after:=#[{on:=9,ground:=Ground.data},{on:=8,ground:=Ground.data},{on:=8,ground:=Ground.chain},{on:=0,ground:=Ground.phase},{on:=1,ground:=Ground.phase},{on:=2,ground:=Ground.phase},{on:=3,ground:=Ground.phase},{on:=4,ground:=Ground.phase},{on:=5,ground:=Ground.phase},{on:=6,ground:=Ground.phase},{on:=7,ground:=Ground.phase},{on:=8,ground:=Ground.phase},{on:=9,ground:=Ground.phase}],guard:=none}) rfl (fun K G=>?_) AllReadyH.nil;have M:=uH I;have f0:=M.free 0;have f1:=M.free 1;have f2:=M.free 2;have s0:=M.c0;have s1:=M.c1;have s2:=M.c2;replace l:=ac ((uH l).put3 M (uH Z) (uH HG) (.bool n6) (.slice a6 l6 c6) (C0 E6));replace L6:=ac (show aN _ _ lq z6 from aH.put3 (uH L6) M (.bool n6) (.slice a6 l6 c6) (C0 E6));replace I:=ac (M.put (.bool n6) (.slice a6 l6 c6) (C0 E6));clear M HG Z;go_simp;clear f0 f1 f2 s0 s1 s2;refine G.out _ _ ?_ (fun D=>?_)
    ·exact⟨⟨(uH l).hz.c0,(uH l).hz.c1,(uH l).hz.c2⟩,⟨(uH l).hw.c0,(uH l).hw.c1,(uH l).hw.c2⟩,(uH l).hy.c0,(uH l).hy.c1,(uH l).hy.c2⟩
    clear G K;refine wpAnyH_done (by kernel_rfl) ?_ _;exact⟨⟨_,_,_,_,n6,a6,l6,c6,E6,g8⟩,by first|rfl|simp[Act.put],uH l,uH I,uH L6⟩
  ·go_simp
   have U:=ad w7 (.cells #[.bool false,.slice none 0 0,C0 0] 35);have HG:=ac ((uH l).hb.size);have Z:=ac ((uH l).hz.lt);have I:=ac (ar.new w7 (.bool false) (.slice none 0 0) (C0 0));replace l:=ac ((uH l).all U);replace O:=ac ((uH O).below U);replace L2:=ac ((uH L2).below U);clear U;generalize w7.heap.size=g8 at*;generalize w7.alloc (.cells #[.bool false,.slice none 0 0,C0 0] 35)=wa at*;refine G.out _ _ ?_ (fun D=>?_)
   ·exact⟨⟨(uH l).hz.c0,(uH l).hz.c1,(uH l).hz.c2⟩,⟨(uH l).hw.c0,(uH l).hw.c1,(uH l).hw.c2⟩,(uH l).hy.c0,(uH l).hy.c1,(uH l).hy.c2⟩
   clear G K;refine wpAnyH_ready (rs:=[4]) (by kernel_rfl) (by simp) ?_;refine AllReadyH.cons (o:={dst:=some 58,op:=Op.call {callee:=Callee.value (Operand.func 18),args:=#[Operand.tmp 55,Operand.tmp 57],argTypes:=#[35,35]},type:=35,pos:= "law.go:101",after:=#[{on:=1,ground:=Ground.data},{on:=3,ground:=Ground.data},{on:=3,ground:=Ground.chain}],guard:=none}) rfl (fun K G=>?_) AllReadyH.nil;go_simp;refine(uH aI _ _ _ (uH O) (uH L2)).mono ?_;rintro e w9 ⟨v,rfl,N,F⟩;obtain⟨n4,a4,l4,c4,E4,rfl,L⟩:=N.ex17;have L4:=ac L;clear N L;clear L2;replace l:=ac ((uH l).all F);replace I:=ac ((uH I).all F);replace O:=ac ((uH O).below F);clear F;go_wp2_with fail;refine G.out _ _ ?_ (fun D=>?_)
   ·exact⟨⟨(uH l).hz.c0,(uH l).hz.c1,(uH l).hz.c2⟩,⟨(uH l).hw.c0,(uH l).hw.c1,(uH l).hw.c2⟩,(uH l).hy.c0,(uH l).hy.c1,(uH l).hy.c2⟩
   clear G K;refine wpAnyH_ready (rs:=[6]) (by kernel_rfl) (by simp) ?_;refine AllReadyH.cons (o:={dst:=some 60,op:=Op.call {callee:=Callee.value (Operand.func 17),args:=#[Operand.tmp 59],argTypes:=#[24]},type:=35,pos:= "law.go:101",after:=#[{on:=5,ground:=Ground.data},{on:=4,ground:=Ground.chain}],guard:=none}) rfl (fun K G=>?_) AllReadyH.nil;go_simp;refine(uH ax _ (uH l).hb).mono ?_;rintro e am ⟨v,rfl,N,F⟩;obtain⟨n3,a3,l3,c3,E3,rfl,L⟩:=N.ex17;have L3:=ac L;clear N L;replace l:=ac ((uH l).all F);replace I:=ac ((uH I).all F);replace O:=ac ((uH O).below F);replace L4:=ac ((uH L4).below F);clear F;go_wp2_with fail;refine G.out _ _ ?_ (fun D=>?_)
   ·exact⟨⟨(uH l).hz.c0,(uH l).hz.c1,(uH l).hz.c2⟩,⟨(uH l).hw.c0,(uH l).hw.c1,(uH l).hw.c2⟩,(uH l).hy.c0,(uH l).hy.c1,(uH l).hy.c2⟩
   clear G K;refine wpAnyH_ready (rs:=[7]) (by kernel_rfl) (by simp) ?_;refine AllReadyH.cons (o:={dst:=some 61,op:=Op.call {callee:=Callee.value (Operand.func 19),args:=#[Operand.tmp 58,Operand.tmp 60],argTypes:=#[35,35]},type:=35,pos:= "law.go:101",after:=#[{on:=4,ground:=Ground.data},{on:=6,ground:=Ground.data},{on:=6,ground:=Ground.chain}],guard:=none}) rfl (fun K G=>?_) AllReadyH.nil;go_simp;refine(uH ap _ _ _ (uH L4) (uH L3)).mono ?_;rintro e aa ⟨v,rfl,N,F⟩;obtain⟨n5,a5,l5,c5,E5,rfl,L⟩:=N.ex17;have L5:=ac L;clear N L;clear L4 L3;replace l:=ac ((uH l).all F);replace I:=ac ((uH I).all F);replace O:=ac ((uH O).below F);clear F;go_wp2_with fail;refine G.out _ _ ?_ (fun D=>?_)
   ·exact⟨⟨(uH l).hz.c0,(uH l).hz.c1,(uH l).hz.c2⟩,⟨(uH l).hw.c0,(uH l).hw.c1,(uH l).hw.c2⟩,(uH l).hy.c0,(uH l).hy.c1,(uH l).hy.c2⟩
   clear G K;refine wpAnyH_ready (rs:=[8]) (by kernel_rfl) (by simp) ?_;refine AllReadyH.cons (o:={dst:=some 62,op:=Op.call {callee:=Callee.value (Operand.func 18),args:=#[Operand.tmp 54,Operand.tmp 61],argTypes:=#[35,35]},type:=35,pos:= "law.go:101",after:=#[{on:=0,ground:=Ground.data},{on:=7,ground:=Ground.data},{on:=7,ground:=Ground.chain}],guard:=none}) rfl (fun K G=>?_) AllReadyH.nil;go_simp;refine(uH ae _ _ _ (uH O) (uH L5)).mono ?_;rintro e a0 ⟨v,rfl,N,F⟩;obtain⟨n6,a6,l6,c6,E6,rfl,L⟩:=N.ex17;have L6:=ac L;clear N L;clear L5 O;replace l:=ac ((uH l).all F);replace I:=ac ((uH I).all F);clear F;go_wp2_with fail;refine G.out _ _ ?_ (fun D=>?_)
   ·exact⟨⟨(uH l).hz.c0,(uH l).hz.c1,(uH l).hz.c2⟩,⟨(uH l).hw.c0,(uH l).hw.c1,(uH l).hw.c2⟩,(uH l).hy.c0,(uH l).hy.c1,(uH l).hy.c2⟩
   clear G K;refine wpAnyH_ready (rs:=[10]) (by kernel_rfl) (by simp) ?_;refine AllReadyH.cons (o:={dst:=none,op:=Op.store 35 (Operand.tmp 8) (Operand.tmp 62),type:=0,pos:= "law.go:101",after:=#[{on:=9,ground:=Ground.data},{on:=8,ground:=Ground.data},{on:=8,ground:=Ground.chain},{on:=0,ground:=Ground.phase},{on:=1,ground:=Ground.phase},{on:=2,ground:=Ground.phase},{on:=3,ground:=Ground.phase},{on:=4,ground:=Ground.phase},{on:=5,ground:=Ground.phase},{on:=6,ground:=Ground.phase},{on:=7,ground:=Ground.phase},{on:=8,ground:=Ground.phase},{on:=9,ground:=Ground.phase}],guard:=none}) rfl (fun K G=>?_) AllReadyH.nil;have M:=uH I;have f0:=M.free 0;have f1:=M.free 1;have f2:=M.free 2;have s0:=M.c0;have s1:=M.c1;have s2:=M.c2;replace l:=ac ((uH l).put3 M (uH Z) (uH HG) (.bool n6) (.slice a6 l6 c6) (C0 E6));replace L6:=ac (show aN _ _ lq z6 from aH.put3 (uH L6) M (.bool n6) (.slice a6 l6 c6) (C0 E6));replace I:=ac (M.put (.bool n6) (.slice a6 l6 c6) (C0 E6));clear M HG Z;go_simp;clear f0 f1 f2 s0 s1 s2;refine G.out _ _ ?_ (fun D=>?_)
   ·exact⟨⟨(uH l).hz.c0,(uH l).hz.c1,(uH l).hz.c2⟩,⟨(uH l).hw.c0,(uH l).hw.c1,(uH l).hw.c2⟩,(uH l).hy.c0,(uH l).hy.c1,(uH l).hy.c2⟩
   clear G K;refine wpAnyH_done (by kernel_rfl) ?_ _;exact⟨⟨_,_,_,_,n6,a6,l6,c6,E6,g8⟩,by first|rfl|simp[Act.put],uH l,uH I,uH L6⟩
 ·go_simp
  have U:=ad (w6.drew) (.cells #[.bool false,.slice none 0 0,C0 0] 35);have HG:=ac ((uH l).hb.size);have Z:=ac ((uH l).hz.lt);have I:=ac (ar.new (w6.drew) (.bool false) (.slice none 0 0) (C0 0));replace l:=ac ((uH l).all U);replace O:=ac ((uH O).below U);clear U;have ez:(w6.drew).heap.size=w6.heap.size:=rfl;rw[ez]at I HG Z;clear ez;refine G.out _ _ ?_ (fun D=>?_)
  ·exact⟨⟨(uH l).hz.c0,(uH l).hz.c1,(uH l).hz.c2⟩,⟨(uH l).hw.c0,(uH l).hw.c1,(uH l).hw.c2⟩,(uH l).hy.c0,(uH l).hy.c1,(uH l).hy.c2⟩
  clear G K;refine wpAnyH_ready (rs:=[3]) (by kernel_rfl) (by simp) ?_;refine AllReadyH.cons (o:={dst:=some 57,op:=Op.call {callee:=Callee.value (Operand.func 17),args:=#[Operand.tmp 56],argTypes:=#[24]},type:=35,pos:= "law.go:101",after:=#[{on:=2,ground:=Ground.data}],guard:=none}) rfl (fun K G=>?_) AllReadyH.nil;go_simp;refine(uH a7 _ xo xc (uH l).hb (uH l).lx).mono ?_;rintro e w8 ⟨v,rfl,N,F⟩;obtain⟨n2,a2,l2,c2,E2,rfl,L⟩:=N.ex17;have L2:=ac L;clear N L;replace l:=ac ((uH l).all F);replace I:=ac ((uH I).all F);replace O:=ac ((uH O).below F);clear F;go_wp2_with fail;refine G.out _ _ ?_ (fun D=>?_)
  ·exact⟨⟨(uH l).hz.c0,(uH l).hz.c1,(uH l).hz.c2⟩,⟨(uH l).hw.c0,(uH l).hw.c1,(uH l).hw.c2⟩,(uH l).hy.c0,(uH l).hy.c1,(uH l).hy.c2⟩
  clear G K;refine wpAnyH_ready (rs:=[4]) (by kernel_rfl) (by simp) ?_;refine AllReadyH.cons (o:={dst:=some 58,op:=Op.call {callee:=Callee.value (Operand.func 18),args:=#[Operand.tmp 55,Operand.tmp 57],argTypes:=#[35,35]},type:=35,pos:= "law.go:101",after:=#[{on:=1,ground:=Ground.data},{on:=3,ground:=Ground.data},{on:=3,ground:=Ground.chain}],guard:=none}) rfl (fun K G=>?_) AllReadyH.nil;go_simp;refine(uH aI _ _ _ (uH O) (uH L2)).mono ?_;rintro e w9 ⟨v,rfl,N,F⟩;obtain⟨n4,a4,l4,c4,E4,rfl,L⟩:=N.ex17;have L4:=ac L;clear N L;clear L2;replace l:=ac ((uH l).all F);replace I:=ac ((uH I).all F);replace O:=ac ((uH O).below F);clear F;go_wp2_with fail;refine G.out _ _ ?_ (fun D=>?_)
  ·exact⟨⟨(uH l).hz.c0,(uH l).hz.c1,(uH l).hz.c2⟩,⟨(uH l).hw.c0,(uH l).hw.c1,(uH l).hw.c2⟩,(uH l).hy.c0,(uH l).hy.c1,(uH l).hy.c2⟩
  clear G K;refine wpAnyH_ready (rs:=[6]) (by kernel_rfl) (by simp) ?_;refine AllReadyH.cons (o:={dst:=some 60,op:=Op.call {callee:=Callee.value (Operand.func 17),args:=#[Operand.tmp 59],argTypes:=#[24]},type:=35,pos:= "law.go:101",after:=#[{on:=5,ground:=Ground.data},{on:=4,ground:=Ground.chain}],guard:=none}) rfl (fun K G=>?_) AllReadyH.nil;go_simp;refine(uH ax _ (uH l).hb).mono ?_;rintro e am ⟨v,rfl,N,F⟩;obtain⟨n3,a3,l3,c3,E3,rfl,L⟩:=N.ex17;have L3:=ac L;clear N L;replace l:=ac ((uH l).all F);replace I:=ac ((uH I).all F);replace O:=ac ((uH O).below F);replace L4:=ac ((uH L4).below F);clear F;go_wp2_with fail;refine G.out _ _ ?_ (fun D=>?_)
  ·exact⟨⟨(uH l).hz.c0,(uH l).hz.c1,(uH l).hz.c2⟩,⟨(uH l).hw.c0,(uH l).hw.c1,(uH l).hw.c2⟩,(uH l).hy.c0,(uH l).hy.c1,(uH l).hy.c2⟩
  clear G K;refine wpAnyH_ready (rs:=[7]) (by kernel_rfl) (by simp) ?_;refine AllReadyH.cons (o:={dst:=some 61,op:=Op.call {callee:=Callee.value (Operand.func 19),args:=#[Operand.tmp 58,Operand.tmp 60],argTypes:=#[35,35]},type:=35,pos:= "law.go:101",after:=#[{on:=4,ground:=Ground.data},{on:=6,ground:=Ground.data},{on:=6,ground:=Ground.chain}],guard:=none}) rfl (fun K G=>?_) AllReadyH.nil;go_simp;refine(uH ap _ _ _ (uH L4) (uH L3)).mono ?_;rintro e aa ⟨v,rfl,N,F⟩;obtain⟨n5,a5,l5,c5,E5,rfl,L⟩:=N.ex17;have L5:=ac L;clear N L;clear L4 L3;replace l:=ac ((uH l).all F);replace I:=ac ((uH I).all F);replace O:=ac ((uH O).below F);clear F;go_wp2_with fail;refine G.out _ _ ?_ (fun D=>?_)
  ·exact⟨⟨(uH l).hz.c0,(uH l).hz.c1,(uH l).hz.c2⟩,⟨(uH l).hw.c0,(uH l).hw.c1,(uH l).hw.c2⟩,(uH l).hy.c0,(uH l).hy.c1,(uH l).hy.c2⟩
  clear G K;refine wpAnyH_ready (rs:=[8]) (by kernel_rfl) (by simp) ?_;refine AllReadyH.cons (o:={dst:=some 62,op:=Op.call {callee:=Callee.value (Operand.func 18),args:=#[Operand.tmp 54,Operand.tmp 61],argTypes:=#[35,35]},type:=35,pos:= "law.go:101",after:=#[{on:=0,ground:=Ground.data},{on:=7,ground:=Ground.data},{on:=7,ground:=Ground.chain}],guard:=none}) rfl (fun K G=>?_) AllReadyH.nil;go_simp;refine(uH ae _ _ _ (uH O) (uH L5)).mono ?_;rintro e a0 ⟨v,rfl,N,F⟩;obtain⟨n6,a6,l6,c6,E6,rfl,L⟩:=N.ex17;have L6:=ac L;clear N L;clear L5 O;replace l:=ac ((uH l).all F);replace I:=ac ((uH I).all F);clear F;go_wp2_with fail;refine G.out _ _ ?_ (fun D=>?_)
  ·exact⟨⟨(uH l).hz.c0,(uH l).hz.c1,(uH l).hz.c2⟩,⟨(uH l).hw.c0,(uH l).hw.c1,(uH l).hw.c2⟩,(uH l).hy.c0,(uH l).hy.c1,(uH l).hy.c2⟩
  clear G K;refine wpAnyH_ready (rs:=[10]) (by kernel_rfl) (by simp) ?_;refine AllReadyH.cons (o:={dst:=none,op:=Op.store 35 (Operand.tmp 8) (Operand.tmp 62),type:=0,pos:= "law.go:101",after:=#[{on:=9,ground:=Ground.data},{on:=8,ground:=Ground.data},{on:=8,ground:=Ground.chain},{on:=0,ground:=Ground.phase},{on:=1,ground:=Ground.phase},{on:=2,ground:=Ground.phase},{on:=3,ground:=Ground.phase},{on:=4,ground:=Ground.phase},{on:=5,ground:=Ground.phase},{on:=6,ground:=Ground.phase},{on:=7,ground:=Ground.phase},{on:=8,ground:=Ground.phase},{on:=9,ground:=Ground.phase}],guard:=none}) rfl (fun K G=>?_) AllReadyH.nil;have M:=uH I;have f0:=M.free 0;have f1:=M.free 1;have f2:=M.free 2;have s0:=M.c0;have s1:=M.c1;have s2:=M.c2;replace l:=ac ((uH l).put3 M (uH Z) (uH HG) (.bool n6) (.slice a6 l6 c6) (C0 E6));replace L6:=ac (show aN _ _ lq z6 from aH.put3 (uH L6) M (.bool n6) (.slice a6 l6 c6) (C0 E6));replace I:=ac (M.put (.bool n6) (.slice a6 l6 c6) (C0 E6));clear M HG Z;go_simp;clear f0 f1 f2 s0 s1 s2;refine G.out _ _ ?_ (fun D=>?_)
  ·exact⟨⟨(uH l).hz.c0,(uH l).hz.c1,(uH l).hz.c2⟩,⟨(uH l).hw.c0,(uH l).hw.c1,(uH l).hw.c2⟩,(uH l).hy.c0,(uH l).hy.c1,(uH l).hy.c2⟩
  clear G K;refine wpAnyH_done (by kernel_rfl) ?_ _;exact⟨⟨_,_,_,_,n6,a6,l6,c6,E6,w6.heap.size⟩,by first|rfl|simp[Act.put],uH l,uH I,uH L6⟩
end Go.Proofs.YtcbcmlaogehimaaGreatDoor
namespace Go.Proofs.YtcbcmlaogehimaaGreatDoor
theorem Pa{f a b:Rat}(l:0<f)(h:f*a<=f*b):a<=b:=by
 rcases Rat.le_total (a:=a) (b:=b)with g|g
 ·exact g
 ·rcases Classical.em (a=b)with e|e
  ·rw[e];exact Rat.le_refl
  ·exfalso
   have t:b<a:=by grind
   have:=Rat.mul_lt_mul_of_pos_left t l
   grind
def t3:Nat->Nat->Rat
 |1,0=>1002/1000
 |2,0=>2005/1000
 |2,1=>1002/1000
 |3,0=>4012/1000
 |3,1=>2005/1000
 |3,2=>1002/1000
 |_,_=>0
def MZ(j:Nat)(x:Nat->Rat)(i:Nat):Rat:=if i<j then 0 else x i
open Go.RowKit
theorem nd(K:Int)(D:H3)(hl:D.length<=64)(h:ky K D)(J:bT 0 D≠0)(hk:eX (bT 0 D)<=900):
  ah (bM D)=true/\ab (fQ (bM D))<=17*p2 (eX (bT 0 D))+p2 (-1074):=by
 obtain⟨k,N⟩:∃k,eX (bT 0 D)=k:=⟨_,rfl⟩;obtain⟨s,O⟩:∃s,tU k 0 D=s:=⟨_,rfl⟩;obtain⟨b1,b2,b3,b4,b5,b6,b7,H,y,hy,b9,I⟩:=ii K D h J;rw[N]at H I hk⊢;have hn:bM D=xV (sV s) k:=by
  unfold bM;rw[if_neg (by rw[b2];simp[J]),N,O]
 have T1:1<=gX k D:=by have:=uL k D y hy;grind
 have aa:(D.length:Rat)<=64:=Rat.natCast_le_natCast.2 hl;have T2:gX k D<=256:=by have:=zl k D H;grind
 have ae:=Rat.mul_nonneg (show 0<=64-(D.length:Rat) by grind) (show 0<=gX k D by grind);have z0:fQ 0=0:=bf 0 (by decide);obtain⟨Q,U,Z⟩:=zk k (gX k D) T1 T2 D 0 0 0 (fun x G=>⟨(h.1 x G).1,(h.1 x G).2,H x G⟩) (by decide) (by decide) (by grind) (by grind) (by rw[z0];unfold ab;grind);rw[O]at Q U Z;have e4:9007199254740992*ab (fQ s-gX k D)<=130*gX k D:=by
  have:(0:Rat)+gX k D=gX k D:=Rat.zero_add _;rw[this]at Z
  grind
 have l:=aw (fQ s-gX k D);have s1:1<=2*fQ s:=by grind
 have k0:fK s≠0:=fun e=>by
  have:=bf s e
  grind
 obtain⟨r1,r2,r3,r4,r5,r6,r7⟩:=kP s Q k0 U;have r8:1<=2*fQ (sV s):=by
  rcases Rat.le_total (a:=1) (b:=2*fQ (sV s))with g|g
  ·exact g
  ·have:=Rat.mul_nonneg (show 0<=1-2*fQ (sV s) by grind) (show 0<=1+2*fQ (sV s) by grind)
   grind
 have L:fQ (sV s)<=17:=by
  rcases Rat.le_total (a:=fQ (sV s)) (b:=17)with g|g
  ·exact g
  ·have:=Rat.mul_nonneg (show 0<=fQ (sV s)-17 by grind) (show 0<=fQ (sV s)+17 by grind)
   grind
 have F:=av k;have x1:ab (fQ (sV s))*p2 k<p2 1023:=by
  rw[aQ r5];have m1:=Rat.mul_le_mul_of_nonneg_left L (Rat.le_of_lt F);have m2:=aq (show k+1+1+1+1+1<=1023 by omega);simp only[bu]at m2
  grind
 have M:=jP (sV s) k r3 r1 x1;rw[hn];refine⟨M,?_⟩;have hp:=av (-1074);have m1:=Rat.mul_le_mul_of_nonneg_left L (Rat.le_of_lt F);have q0:=Rat.mul_nonneg r5 (Rat.le_of_lt F);rcases lO (sV s) k r3 r1 M with e|⟨_,_,e⟩
 ·rw[e,aQ q0]
  grind
 ·have l1:=aw (fQ (xV (sV s) k)-fQ (sV s)*p2 k)
  have t:=bP (x:=fQ (xV (sV s) k)) (y:=ab (fQ (xV (sV s) k)-fQ (sV s)*p2 k)+fQ (sV s)*p2 k) (by grind) (by grind);generalize ab (fQ (xV (sV s) k)-fQ (sV s)*p2 k)=z at*
  grind
theorem sr{a b:Int}(h:p2 a<=p2 b):a<=b:=by
 rcases Int.lt_or_le b a with g|g
 ·exfalso
  have k:=aq (show b+1<=a by omega);rw[bu]at k;have:=av b
  grind
 ·exact g
theorem Pb(l:H3)(J:l.length<=64)(D:∀x∈l,x<18446744073709551616/\ah x=true/\ab (fQ x)<=p2 100)(H:bT 0 l≠0)(hn:p2 (-101)<=ab (fQ (bM l))):ky 200 l:=by
 obtain⟨k,t⟩:∃k,eX (bT 0 l)=k:=⟨_,rfl⟩;have F:ky (k.natAbs+1) l:=⟨fun x h=>⟨(D x h).1,(D x h).2.1⟩,.inr ⟨by rw[t];omega,by rw[t];omega⟩⟩;obtain⟨b1,M,N,O,b5,b6,b7,b8,y,Q,U,Z⟩:=ii _ l F H;have I:=iN _ (by omega) M N;rw[t,aQ (iM _ O),<-U]at I;have G:=(D y Q).2.2;have k1:k<=100:=sr (Rat.le_trans I.1 G);obtain⟨_,t2⟩:=nd _ l J F H (by rw[t];omega);rw[t]at t2;refine⟨F.1,.inr ⟨?_,by rw[t];omega⟩⟩;rw[t];rcases Int.lt_or_le k (-200)with g|g
 ·exfalso
  have K:=aq (show k+1<=-200 by omega);rw[bu]at K;have m2:=aq (show(-1074:Int)<=-200 by decide);have L:=aq (show(-200+1+1+1+1+1:Int)<=-101 by decide);simp only[bu]at L;have:=av (-200)
  grind
 ·omega
def oy:Nat->H3->H3->Nat
 |s,x::xs,y::ys=>oy (aV s (fN (mV x y))) xs ys
 |s,_,_=>s
theorem Mc(s x y:Nat)(T W H:Rat)(h:ah s=true)(F:ah x=true)(G:ah y=true)(I:0<=W)(hW:W<=p2 1000)(J:9007199254740992*(4*p2 (-1075))<=W)
  (hT:ab T+ab (fQ x*fQ y)<=W) (hH:H<=192*W) (he:9007199254740992*ab (fQ s-T)<=H):
  ah (aV s (fN (mV x y)))=true/\9007199254740992*ab (fQ (aV s (fN (mV x y)))-(T-fQ x*fQ y))<=H+3*W:=by
 have T0:=bK T;have K:=bK (fQ x*fQ y);have L:16*p2 1000<=p2 1023/\0<p2 1000:=by
  have M:=aq (show(1000+1+1+1+1:Int)<=1023 by decide);simp only[bu]at M;exact⟨by grind,av _⟩
 obtain⟨B1,B2⟩:=L;obtain⟨n1,n2,n3⟩:=dg;obtain⟨f1,e1⟩:=kR x y F G (by grind);have N:=aw (fQ (mV x y)-fQ x*fQ y);have O:=aw (fQ s-T);have Q:=aw T;have U:=aw (fQ x*fQ y);have tt:=bP (x:=fQ s+-fQ (mV x y)) (y:=ab (fQ s-T)+ab (fQ (mV x y)-fQ x*fQ y)+ab T+ab (fQ x*fQ y)) (by grind) (by grind);have pl:=iQ x y;have l:ah (fN (mV x y))=true:=by rw[gu _ pl];exact f1
 have t:=jR _ pl;have D:=gy s (fN (mV x y)) h l (by rw[t];grind);have Z:=gS s (fN (mV x y)) h l D;rw[t]at Z;refine⟨D,?_⟩;have l5:=aw (fQ (aV s (fN (mV x y)))-(fQ s+-fQ (mV x y)));have ll:=bP (x:=fQ (aV s (fN (mV x y)))-(T-fQ x*fQ y)) (y:=ab (fQ (aV s (fN (mV x y)))-(fQ s+-fQ (mV x y)))+ab (fQ (mV x y)-fQ x*fQ y)+ab (fQ s-T)) (by grind) (by grind);clear N O Q U l5;generalize ab (fQ (aV s (fN (mV x y)))-(T-fQ x*fQ y))=z0 at*;generalize ab (fQ (aV s (fN (mV x y)))-(fQ s+-fQ (mV x y)))=z1 at*;generalize ab (fQ (mV x y)-fQ x*fQ y)=z2 at*;generalize ab (fQ s-T)=z3 at*;generalize ab (fQ s+-fQ (mV x y))=z4 at*;generalize ab (fQ x*fQ y)=z5 at*;generalize ab T=z6 at*;generalize p2 (-1075)=η at*
 grind
theorem Pc(W:Rat)(t:0<=W)(Q:W<=p2 1000)(I:9007199254740992*(4*p2 (-1075))<=W):∀(h l:H3) (s:Nat) (T H:Rat),(∀x∈h,ah x=true)->(∀y∈l,ah y=true)->ah s=true->
  ab T+mQ h l<=W->H+3*((h.length:Rat)*W)<=192*W->9007199254740992*ab (fQ s-T)<=H->
  ah (oy s h l)=true/\9007199254740992*ab (fQ (oy s h l)-(T-cG h l))<=H+3*((h.length:Rat)*W):=by
 intro h
 induction h with
 |nil=>
  intro l s T H _ _ G _ _ M;have D:oy s [] l=s:=by cases l<;>rfl
  have F:cG [] l=0:=by cases l<;>rfl
  have K:(([]:H3).length:Rat)=0:=rfl;rw[D,F,K,show T-0=T by grind];exact⟨G,by grind⟩
 |cons x h ih=>
  intro l s T H N O G hT hH M;have K:((x::h).length:Rat)=(h.length:Rat)+1:=by rw[List.length_cons,Rat.natCast_add];rfl
  have l0:0<=(h.length:Rat)*W:=Rat.mul_nonneg Rat.natCast_nonneg t;have L:((x::h).length:Rat)*W=(h.length:Rat)*W+W:=by rw[K];grind
  cases l with
  |nil=>
   have D:oy s (x::h) []=s:=rfl;have F:cG (x::h) []=0:=rfl;rw[D,F,L,show T-0=T by grind];exact⟨G,by grind⟩
  |cons y l=>
   have D:oy s (x::h) (y::l)=oy (aV s (fN (mV x y))) h l:=rfl;have F:cG (x::h) (y::l)=fQ x*fQ y+cG h l:=rfl;have U:mQ (x::h) (y::l)=ab (fQ x*fQ y)+mQ h l:=rfl;have d0:=FU h l;rw[U]at hT;rw[L]at hH⊢;obtain⟨Z,g2⟩:=Mc s x y T W H G (N x List.mem_cons_self) (O y List.mem_cons_self) t Q I (by grind) (by grind) M;have ht:=bP (x:=T-fQ x*fQ y) (y:=ab T+ab (fQ x*fQ y)) (by have:=aw T;have:=aw (fQ x*fQ y);grind) (by have:=aw T;have:=aw (fQ x*fQ y);grind);obtain⟨i1,i2⟩:=ih l (aV s (fN (mV x y))) (T-fQ x*fQ y) (H+3*W) (fun z J=>N z (List.mem_cons_of_mem _ J)) (fun z J=>O z (List.mem_cons_of_mem _ J)) Z (by grind) (by grind) g2;rw[D,F];refine⟨i1,?_⟩;rw[show T-(fQ x*fQ y+cG h l)=T-fQ x*fQ y-cG h l by grind]
   grind
theorem M4:∀(t l:H3) (s:Nat),s<18446744073709551616->oy s t l<18446744073709551616:=by
 intro t
 induction t with
 |nil=>intro l s h;cases l<;>exact h
 |cons x t ih=>
  intro l s h
  cases l with
  |nil=>exact h
  |cons y l=>exact ih l _ (jc _ _ h (iY _ (iQ _ _)))
theorem Ic(a b:Nat)(L:a<18446744073709551616)(H:b<18446744073709551616)(I:ah a=true)(l:ah b=true)(J:fK a≠0)(t:fK b≠0)(h:ab (fQ a)<=p2 1000*ab (fQ b)):ah (dV a b)=true:=by
 obtain⟨q1,q2⟩:=rx a b L H I l J t;have D:=iN b H l t;have M:=av (eX b);have F:xE (qS a b) (fX a-fX b-181)<p2 1023:=by
  have N:16*p2 1000<=p2 1023/\0<p2 1000:=by
   have O:=aq (show(1000+1+1+1+1:Int)<=1023 by decide);simp only[bu]at O;exact⟨by grind,av _⟩
  generalize xE (qS a b) (fX a-fX b-181)=X at*;rcases Rat.le_total (a:=X) (b:=2*p2 1000)with g|g
  ·grind
  ·exfalso
   have K:0<ab (fQ b):=by grind
   have Q:=Rat.mul_le_mul_of_nonneg_left g (Rat.le_of_lt K);have hp:=Rat.mul_pos N.2 K;have U:ab (fQ b)*X=X*ab (fQ b):=Rat.mul_comm _ _;have G:ab (fQ b)*(2*p2 1000)=2*(p2 1000*ab (fQ b)):=by grind
   rw[U,G]at Q;generalize X*ab (fQ b)=XB at*;generalize p2 1000*ab (fQ b)=PB at*;generalize ab (fQ a)=A at*;clear D q2
   grind
 have:=jd _ _ F;have Z:qV a b<=9218868437227405312:=ej _ _;exact(cY _).2.2.2 (by rw[(rh a b I l J t).1,iL _ _ (by omega)];exact this)
theorem ye(a b:Nat)(D:a<18446744073709551616)(F:b<18446744073709551616)(G:ah a=true)(t:ah b=true)(H:fK b≠0)(h:ab (fQ a)<=p2 1000*ab (fQ b)):
  ah (dV a b)=true/\9007199254740992*ab (fQ (dV a b)*fQ b-fQ a)<=2*ab (fQ a)+9007199254740992*(p2 (-1075)*ab (fQ b)):=by
 have L:=Rat.mul_nonneg (Rat.le_of_lt (av (-1075))) (bK (fQ b));have M:=bK (fQ a)
 by_cases l:fK a=0
 ·have q:=bf a l
  obtain⟨O,K⟩:=cI t;have e:dV a b=iJ (fS a^^fS b) 0:=by
   unfold dV;rw[if_neg (by rintro(k|k);omega;exact K k),if_neg (by rintro⟨k,_⟩;omega),if_neg (by omega),if_pos (.inr l)]
  have I:ah (dV a b)=true/\fQ (dV a b)=0:=by
   rw[e]
   cases fS a^^fS b
   ·rw[cJ];exact⟨by decide,jk⟩
   ·rw[gc];exact⟨by decide,bf _ (by decide)⟩
  refine⟨I.1,?_⟩;rw[I.2,q,show(0:Rat)*fQ b-0=0 by grind,show ab (0:Rat)=0 by unfold ab;grind]
  grind
 ·have J:=Ic a b D F G t l H h
  refine⟨J,?_⟩;have N:=bK (fQ (dV a b)*fQ b-fQ a);rcases uM a b D F G t l H J with e|e
  ·grind
  ·have:=e.2
   generalize p2 (-1075)*ab (fQ b)=z at*
   grind
theorem Md(d r:Nat)(W:Rat)(rs h:H3)(I:rs.length<=6)(J:d<18446744073709551616)(K:r<18446744073709551616)(L:ah d=true)(M:ah r=true)(N:fK r≠0)
  (D:∀x∈rs,ah x=true) (F:∀x∈h,ah x=true) (O:W<=p2 1000) (G:9007199254740992*(4*p2 (-1075))<=W) (H:9007199254740992*(p2 (-1075)*ab (fQ r))<=W)
  (Q:ab (fQ d)+mQ rs h<=W) (hq:2*W<=p2 1000*ab (fQ r)):
  ah (dV (oy d rs h) r)=true/\dV (oy d rs h) r<18446744073709551616/\9007199254740992*ab (fQ d-(fQ (dV (oy d rs h) r)*fQ r+cG rs h))<=23*W/\ab (fQ (dV (oy d rs h) r)*fQ r)<=2*W:=by
 have hp:=av (-1075);have l:0<=W:=by grind
 have U:ab (0:Rat)=0:=by unfold ab;grind
 have Z:(rs.length:Rat)<=6:=Rat.natCast_le_natCast.2 I;have aa:=Rat.mul_nonneg (show 0<=6-(rs.length:Rat) by grind) l;obtain⟨f1,e1⟩:=Pc W l O G rs h d (fQ d) 0 D F L Q (by grind) (by rw[show fQ d-fQ d=0 by grind,U];grind);have l1:=M4 rs h d J;generalize oy d rs h=s at*;have e2:9007199254740992*ab (fQ s-(fQ d-cG rs h))<=18*W:=by grind
 have dl:=zn rs h;have k1:=aw (fQ s-(fQ d-cG rs h));have k2:=aw (fQ d);have k3:=aw (cG rs h);have ae:=bP (x:=fQ s) (y:=ab (fQ s-(fQ d-cG rs h))+ab (fQ d)+ab (cG rs h)) (by grind) (by grind);have am:1000*ab (fQ s)<=1001*W:=by grind
 obtain⟨g1,g2⟩:=ye s r l1 K f1 M N (by grind);have k4:=aw (fQ (dV s r)*fQ r-fQ s);have k5:=aw (fQ s);refine⟨g1,wD s r,?_,?_⟩
 ·have t:=bP (x:=fQ d-(fQ (dV s r)*fQ r+cG rs h)) (y:=ab (fQ s-(fQ d-cG rs h))+ab (fQ (dV s r)*fQ r-fQ s)) (by grind) (by grind)
  grind
 ·have t:=bP (x:=fQ (dV s r)*fQ r) (y:=ab (fQ (dV s r)*fQ r-fQ s)+ab (fQ s)) (by grind) (by grind)
  grind
theorem AB(K:Int)(t:H3)(hl:t.length<=64)(h:ky K t)(N:bT 0 t≠0)(hk:eX (bT 0 t)<=900):
  ∃s,tU (eX (bT 0 t)) 0 t=s/\bM t=xV (sV s) (eX (bT 0 t))/\ah s=true/\fS s=false/\fK s≠0/\1<=gX (eX (bT 0 t)) t/\gX (eX (bT 0 t)) t<=256/\ah (bM t)=true/\
  (fQ (bM t)=fQ (sV s)*p2 (eX (bT 0 t))\/2*ab (fQ (bM t)-fQ (sV s)*p2 (eX (bT 0 t)))<=p2 (-1074)):=by
 obtain⟨k,ek⟩:∃k,eX (bT 0 t)=k:=⟨_,rfl⟩;obtain⟨s,H⟩:∃s,tU k 0 t=s:=⟨_,rfl⟩;obtain⟨b1,b2,b3,b4,b5,b6,b7,I,y,hy,b9,J⟩:=ii K t h N;rw[ek]at I J hk⊢;have F:bM t=xV (sV s) k:=by
  unfold bM;rw[if_neg (by rw[b2];simp[N]),ek,H]
 have O:1<=gX k t:=by have:=uL k t y hy;grind
 have aa:(t.length:Rat)<=64:=Rat.natCast_le_natCast.2 hl;have Q:gX k t<=256:=by have:=zl k t I;grind
 have ae:=Rat.mul_nonneg (show 0<=64-(t.length:Rat) by grind) (show 0<=gX k t by grind);have z0:fQ 0=0:=bf 0 (by decide);obtain⟨L,M,e3⟩:=zk k (gX k t) O Q t 0 0 0 (fun x D=>⟨(h.1 x D).1,(h.1 x D).2,I x D⟩) (by decide) (by decide) (by grind) (by grind) (by rw[z0];unfold ab;grind);rw[H]at L M e3;have e4:9007199254740992*ab (fQ s-gX k t)<=130*gX k t:=by
  have:(0:Rat)+gX k t=gX k t:=Rat.zero_add _;rw[this]at e3
  grind
 have l:=aw (fQ s-gX k t);have s1:1<=2*fQ s:=by grind
 have U:fK s≠0:=fun e=>by
  have:=bf s e
  grind
 obtain⟨r1,r2,r3,r4,r5,r6,r7⟩:=kP s L U M;have r8:1<=2*fQ (sV s):=by
  rcases Rat.le_total (a:=1) (b:=2*fQ (sV s))with g|g
  ·exact g
  ·have:=Rat.mul_nonneg (show 0<=1-2*fQ (sV s) by grind) (show 0<=1+2*fQ (sV s) by grind)
   grind
 have r9:fQ (sV s)<=17:=by
  rcases Rat.le_total (a:=fQ (sV s)) (b:=17)with g|g
  ·exact g
  ·have:=Rat.mul_nonneg (show 0<=fQ (sV s)-17 by grind) (show 0<=fQ (sV s)+17 by grind)
   grind
 have G:=av k;have x1:ab (fQ (sV s))*p2 k<p2 1023:=by
  rw[aQ r5];have m1:=Rat.mul_le_mul_of_nonneg_left r9 (Rat.le_of_lt G);have m2:=aq (show k+1+1+1+1+1<=1023 by omega);simp only[bu]at m2
  grind
 have Z:=jP (sV s) k r3 r1 x1;refine⟨s,H,F,L,M,U,O,Q,by rw[F];exact Z,?_⟩;rw[F];rcases lO (sV s) k r3 r1 Z with e|⟨_,_,e⟩
 ·exact .inl e
 ·exact .inr e
theorem yf(K:Int)(t:H3)(O:t.length<=64)(h:ky K t)(Q:bT 0 t≠0)(hk:eX (bT 0 t)<=900):1125899906842624*(fQ (bT 0 t)-fQ (bM t))<=3*fQ (bT 0 t):=by
 obtain⟨s,es,hn,n2,n3,n4,n5,T2,hf,I⟩:=AB K t O h Q hk;obtain⟨b1,b2,b3,b4,b5,b6,b7,J,y,F,b9,L⟩:=ii K t h Q;obtain⟨r1,r2,r3,r4,r5,r6,r7⟩:=kP _ n2 n4 n3;clear hn;have aa:(t.length:Rat)<=64:=Rat.natCast_le_natCast.2 O;have ae:=Rat.mul_nonneg (show 0<=64-(t.length:Rat) by grind) (show 0<=gX (eX (bT 0 t)) t by grind);have z0:fQ 0=0:=bf 0 (by decide);obtain⟨g1,Z⟩:=P8 (eX (bT 0 t)) _ n5 T2 t 0 0 0 (fun x G=>⟨(h.1 x G).1,(h.1 x G).2,J x G⟩) (by decide) (by decide) (by decide) (by grind) (by grind) (by rw[z0];unfold ab;grind);have g3:=Z y F;obtain⟨p1,am,p3⟩:=zj _ y (h.1 y F).1 (h.1 y F).2 (J y F);obtain⟨t1,t2,t3⟩:=dg;have hp:=av (eX (bT 0 t));have H:=rk (eX (bT 0 t));have eB:fQ (bT 0 t)=ab (dQ (eX (bT 0 t)) y)*p2 (eX (bT 0 t)):=by
  unfold dQ;rw[aM,aQ (Rat.le_of_lt (av _)),b9,Rat.mul_assoc,H,Rat.mul_one]
 have eD:dQ (eX (bT 0 t)) y*dQ (eX (bT 0 t)) y=ab (dQ (eX (bT 0 t)) y)*ab (dQ (eX (bT 0 t)) y):=by
  rw[<-aM];exact(aQ (ak _)).symm
 have m0:=bK (dQ (eX (bT 0 t)) y);have l:=aw (fQ (mV (xV y (-eX (bT 0 t))) (xV y (-eX (bT 0 t))))-dQ (eX (bT 0 t)) y*dQ (eX (bT 0 t)) y);rw[eD]at p3 l L;generalize fQ (mV (xV y (-eX (bT 0 t))) (xV y (-eX (bT 0 t))))=P at*;rw[es]at g3;generalize fQ s=S at*;generalize fQ (sV s)=R at*;generalize ab (dQ (eX (bT 0 t)) y)=d at*;clear g1 Z b7 J;generalize p2 (-1075)=η at*
 --R^2 is at least d^2 but for five parts in 2^53
 have e1:9007199254740992*(d*d)<=9007199254740992*(R*R)+6*(d*d):=by
  generalize ab (P-d*d)=A at*;generalize d*d=D at*;generalize R*R=RR at*
  grind
 have e2:1125899906842624*(d-R)<=d:=by
  rcases Rat.le_total (a:=1125899906842624*(d-R)) (b:=d)with g|g
  ·exact g
  ·have c1:=Rat.mul_nonneg (show 0<=1125899906842624*(d-R)-d by grind) m0
   have c2:=Rat.mul_nonneg (show 0<=1125899906842624*(d-R)-d by grind) r5
   grind
 have e3:=Rat.mul_le_mul_of_nonneg_left e2 (Rat.le_of_lt hp);have e4:1125899906842624*(fQ (bT 0 t)-R*p2 (eX (bT 0 t)))<=fQ (bT 0 t):=by rw[eB];grind
 have B0:=iM _ b4;rcases I with e|e
 ·rw[e]
  grind
 ·have q:=av (-1074)
  have l2:=aw (fQ (bM t)-R*p2 (eX (bT 0 t)));have e5:1125899906842624*(fQ (bT 0 t)-fQ (bM t))<=fQ (bT 0 t)+562949953421312*p2 (-1074):=by grind
  clear e4 e3 e l2;unfold fQ at e5 B0⊢;generalize fZ (bT 0 t)=M at*;generalize fZ (bM t)=N at*;have k1:1125899906842624*((M:Rat)-(N:Rat))<=(M:Rat)+562949953421312:=by
   refine Rat.le_of_mul_le_mul_right (c:=p2 (-1074)) ?_ q
   grind
  have k2:(((1125899906842624*(M-N):Int)):Rat)<=((M+562949953421312:Int):Rat):=by
   rw[Rat.intCast_mul,Rat.intCast_sub,Rat.intCast_add];exact k1
  have k3:=Rat.intCast_le_intCast.1 k2;have M0:0<=M:=by
   rcases Int.lt_or_le M 0 with g|g
   ·exfalso
    have k:((M:Int):Rat)<0:=Rat.intCast_lt_intCast.2 g;have:=Rat.mul_pos (show 0< -((M:Int):Rat) by grind) q
    grind
   ·exact g
  have k4:1125899906842624*(M-N)<=3*M:=by
   rcases Int.lt_or_le 281474976710656 M with g|g
   ·omega
   ·have:M-N<=0:=by omega
    omega
  have U:(((1125899906842624*(M-N):Int)):Rat)<=((3*M:Int):Rat):=Rat.intCast_le_intCast.2 k4;rw[Rat.intCast_mul,Rat.intCast_sub,Rat.intCast_mul]at U;have k6:1125899906842624*((M:Rat)-(N:Rat))<=3*(M:Rat):=U;have m:=Rat.mul_le_mul_of_nonneg_right k6 (Rat.le_of_lt q)
  grind
end Go.Proofs.YtcbcmlaogehimaaGreatDoor
