/- Part 36 of the texts. -/
import Derived.Test.YtdhmglmccafbnaaGreatDoorPartu35
import Derived.Test.YtdhmglmccafbnaaGreatDoorPartu34
import Derived.Test.YtdhmglmccafbnaaGreatDoorPartu28
import Derived.Test.YtdhmglmccafbnaaGreatDoorPartu22
import Derived.Test.YtdhmglmccafbnaaGreatDoorPartu25
import Derived.Test.YtdhmglmccafbnaaGreatDoorPartu23
import Derived.Test.YtdhmglmccafbnaaGreatDoorPartu20
import Derived.Test.YtdhmglmccafbnaaGreatDoorPartu31
import Derived.Test.YtdhmglmccafbnaaGreatDoorPartu26
import Derived.Test.YtdhmglmccafbnaaGreatDoorPartu33
import Derived.Test.YtdhmglmccafbnaaGreatDoorPartu32
import Derived.Deep.RegionWith
import Derived.Test.YtdhmglmccafbnaaGreatDoorPartu27
import Derived.Test.YtdhmglmccafbnaaGreatDoorPartu06
import Derived.Test.YtdhmglmccafbnaaGreatDoorPartu05
import Derived.Test.YtdhmglmccafbnaaGreatDoorPartu07
import Derived.Maps.Own
import Derived.Maps.OwnOps
import Derived.Maps.OwnSet
import Derived.DeepKeys4
import Derived.Test.YtdhmglmccafbnaaGreatDoorPartu18
import Derived.Test.YtdhmglmccafbnaaGreatDoorPartu19
set_option maxHeartbeats 8000000
set_option maxRecDepth 20000
namespace Go.Proofs.YtdhmglmccafbnaaGreatDoor
open Go.RowKit
attribute [local go_sem ↓] Go.wp_at_zero Go.wp_at_succ
theorem BitsAt.put3 {w:World} {ao:Option Addr} {c:Nat} {I:List Int} (h:BitsAt w ao c I) {g:Nat} {x:Bool} {a:Option Addr} {n d:Nat} {k:Int} (hx:Box3 w g (.bool x) (.slice a n d) (.int .i64 k)) (u u' u'':Value) :
  BitsAt (((w.setCell ⟨g,0,.none⟩ u).setCell ⟨g,1,.none⟩ u').setCell ⟨g,2,.none⟩ u'') ao c I:=by
 refine ⟨h.1,h.2.1,?_⟩
 rcases h.2.2 with h0 | ⟨b,off,h1,h2,h3⟩
 ·exact .inl h0
 ·by_cases he:I = []
  ·exact .inl he
  ·have hp:0 < I.length:=List.length_pos_iff.2 he
   have hne:b ≠ g:=by
    rintro rfl
    have h4:=h3 0 hp
    rw [cell_of_row w b (off+0) _ _ _ hx] at h4
    rcases (show off = 0 ∨ off = 1 ∨ off = 2 ∨ 3≤off by omega) with e | e | e | e
    ·subst e;simp at h4
    ·subst e;simp at h4
    ·subst e;simp at h4
    ·rw [Array.getElem?_eq_none (by simp;omega)] at h4;simp at h4
   refine .inr ⟨b,off,h1,by simpa [World.setCell] using h2,fun i hi=>?_⟩
   rw [cell_setCell_other _ _ _ _ (by simpa using hne),cell_setCell_other _ _ _ _ (by simpa using hne),cell_setCell_other _ _ _ _ (by simpa using hne)]
   exact h3 i hi
theorem IsLv.ex17 {w:World} {v:Value} {lo z:Int} (h:IsLv w v lo z):∃ (n:Bool) (a:Option Addr) (l c:Nat) (E:Int),v = .agg #[.bool n,.slice a l c,.int .i64 E]∧IsLv w (.agg #[.bool n,.slice a l c,.int .i64 E]) lo z:=by
 obtain ⟨n,a,c,L,rfl,iv⟩:=h
 exact ⟨n,a,L.length,c,oE z lo,rfl,n,a,c,L,rfl,iv⟩
structure UqSt (w W:World) (r c q n:Nat) (ao bo xo:Option Addr) (k cap m d xc g5 g7:Nat) (X:List Int) (n1:Bool) (a1:Option Addr) (l1 c1:Nat) (E1:Int):Prop where
 hx:BoxM W w.heap.size (.int .i64 (r:Nat)) (.int .i64 (c:Nat)) (.slice ao k cap)
 hy:BoxM W (w.heap.size+1) (.int .i64 (r:Nat)) (.int .i64 (q:Nat)) (.slice bo m d)
 hw:BoxM W g5 (.int .i64 (c:Nat)) (.int .i64 (q:Nat)) (.slice xo n xc)
 lx:BitsAt W xo xc X
 hz:Box3 W g7 (.bool n1) (.slice a1 l1 c1) (.int .i64 E1)
 hb:Below w.heap.size w W
theorem UqSt.all {w W W':World} {r c q n:Nat} {ao bo xo:Option Addr} {k cap m d xc g5 g7:Nat} {X:List Int} {n1:Bool} {a1:Option Addr} {l1 c1:Nat} {E1:Int} (h:UqSt w W r c q n ao bo xo k cap m d xc g5 g7 X n1 a1 l1 c1 E1) (hb:Below W.heap.size W W'):UqSt w W' r c q n ao bo xo k cap m d xc g5 g7 X n1 a1 l1 c1 E1 :=
 ⟨h.hx.all hb,h.hy.all hb,h.hw.all hb,h.lx.below hb,h.hz.all hb,h.hb.trans (hb.mono h.hb.size)⟩
theorem UqSt.put3 {w W:World} {r c q n:Nat} {ao bo xo:Option Addr} {k cap m d xc g5 g7:Nat} {X:List Int} {n1:Bool} {a1:Option Addr} {l1 c1:Nat} {E1:Int} (h:UqSt w W r c q n ao bo xo k cap m d xc g5 g7 X n1 a1 l1 c1 E1) {g:Nat} {x:Bool} {a:Option Addr} {e f:Nat} {z:Int} (h8:Box3 W g (.bool x) (.slice a e f) (.int .i64 z)) (h7:g7 < g) (hg:w.heap.size≤g) (u u' u'':Value):UqSt w (((W.setCell ⟨g,0,.none⟩ u).setCell ⟨g,1,.none⟩ u').setCell ⟨g,2,.none⟩ u'') r c q n ao bo xo k cap m d xc g5 g7 X n1 a1 l1 c1 E1 :=
 ⟨h.hx.oth3 (fun e=>h.hx.not3 (by rw [e];exact h8)) u u' u'',h.hy.oth3 (fun e=>h.hy.not3 (by rw [e];exact h8)) u u' u'',h.hw.oth3 (fun e=>h.hw.not3 (by rw [e];exact h8)) u u' u'',h.lx.put3 h8 u u' u'',h.hz.oth3 (Nat.ne_of_lt h7) u u' u'',below_putM h.hb hg u u' u''⟩
theorem solveUpright_one (r c p q:Int) (ao bo:Option Addr) (k cap m d:Nat) (w:World)
  (C1:∀ w',Below w.heap.size w w'→Calls Tryz.prog 22 #[.agg #[.int .i64 r,.int .i64 c,.slice ao k cap],.int .i64 60] w' fun e w''=>e = .returned (.bool false)∧Below w'.heap.size w' w'')
  (CA:∀ w',Below w.heap.size w w'→Calls Tryz.prog 21 #[] w' fun e w''=>e = .returned (.bool true)∧Below w'.heap.size w' w'') :
  Calls Tryz.prog 4 #[.agg #[.int .i64 r,.int .i64 c,.slice ao k cap],.agg #[.int .i64 p,.int .i64 q,.slice bo m d]] w fun e w'=>e = .returned (.bool true)∧Below w.heap.size w w':=by
 have KB:=hide (boxes2 w (.int .i64 r) (.int .i64 c) (.slice ao k cap) (.int .i64 p) (.int .i64 q) (.slice bo m d))
 obtain ⟨b0,x0,x1⟩:=uH KB ((w.alloc (.cells #[.int .i64 r,.int .i64 c,.slice ao k cap] 25)).alloc (.cells #[.int .i64 p,.int .i64 q,.slice bo m d] 25)) (by have:=Below.refl ((w.alloc (.cells #[.int .i64 r,.int .i64 c,.slice ao k cap] 25)).alloc (.cells #[.int .i64 p,.int .i64 q,.slice bo m d] 25)).heap.size ((w.alloc (.cells #[.int .i64 r,.int .i64 c,.slice ao k cap] 25)).alloc (.cells #[.int .i64 p,.int .i64 q,.slice bo m d] 25));simpa only [size_alloc9] using this)
 have HB:=hide b0;have HX:=hide x0;have HY:=hide x1
 have KC1:=hide C1
 have KCA:=hide CA
 clear C1 CA KB b0 x0 x1
 go_enter Tryz.func4,Tryz.ntmps4
 have y0:=(uH HX).c0;have y1:=(uH HX).c1;have y2:=(uH HX).c2;have u0:=(uH HY).c0;have u1:=(uH HY).c1;have u2:=(uH HY).c2
 go_wp2_with fail
 clear y0 y1 y2 u0 u1 u2
 refine (uH KC1 _ (uH HB)).mono ?_
 rintro e wn ⟨rfl,hb⟩
 replace HX:=hide ((uH HX).all hb);replace HY:=hide ((uH HY).all hb)
 replace HB:=hide ((uH HB).trans (hb.mono (uH HB).size))
 clear hb
 have y0:=(uH HX).c0;have y1:=(uH HX).c1;have y2:=(uH HX).c2;have u0:=(uH HY).c0;have u1:=(uH HY).c1;have u2:=(uH HY).c2
 go_wp2_with fail
 clear y0 y1 y2 u0 u1 u2
 refine (uH KCA _ (uH HB)).mono ?_
 rintro e wn ⟨rfl,hb⟩
 replace HX:=hide ((uH HX).all hb);replace HY:=hide ((uH HY).all hb)
 replace HB:=hide ((uH HB).trans (hb.mono (uH HB).size))
 clear hb
 go_wp2_with fail
 go_ret
 exact ⟨rfl,uH HB⟩
theorem solveUpright_two (r c p q:Int) (ao bo:Option Addr) (k cap m d:Nat) (w:World)
  (C1:∀ w',Below w.heap.size w w'→Calls Tryz.prog 22 #[.agg #[.int .i64 r,.int .i64 c,.slice ao k cap],.int .i64 60] w' fun e w''=>e = .returned (.bool true)∧Below w'.heap.size w' w'')
  (C2:∀ w',Below w.heap.size w w'→Calls Tryz.prog 22 #[.agg #[.int .i64 p,.int .i64 q,.slice bo m d],.int .i64 60] w' fun e w''=>e = .returned (.bool false)∧Below w'.heap.size w' w'')
  (CA:∀ w',Below w.heap.size w w'→Calls Tryz.prog 21 #[] w' fun e w''=>e = .returned (.bool true)∧Below w'.heap.size w' w'') :
  Calls Tryz.prog 4 #[.agg #[.int .i64 r,.int .i64 c,.slice ao k cap],.agg #[.int .i64 p,.int .i64 q,.slice bo m d]] w fun e w'=>e = .returned (.bool true)∧Below w.heap.size w w':=by
 have KB:=hide (boxes2 w (.int .i64 r) (.int .i64 c) (.slice ao k cap) (.int .i64 p) (.int .i64 q) (.slice bo m d))
 obtain ⟨b0,x0,x1⟩:=uH KB ((w.alloc (.cells #[.int .i64 r,.int .i64 c,.slice ao k cap] 25)).alloc (.cells #[.int .i64 p,.int .i64 q,.slice bo m d] 25)) (by have:=Below.refl ((w.alloc (.cells #[.int .i64 r,.int .i64 c,.slice ao k cap] 25)).alloc (.cells #[.int .i64 p,.int .i64 q,.slice bo m d] 25)).heap.size ((w.alloc (.cells #[.int .i64 r,.int .i64 c,.slice ao k cap] 25)).alloc (.cells #[.int .i64 p,.int .i64 q,.slice bo m d] 25));simpa only [size_alloc9] using this)
 have HB:=hide b0;have HX:=hide x0;have HY:=hide x1
 have KC1:=hide C1
 have KC2:=hide C2
 have KCA:=hide CA
 clear C1 C2 CA KB b0 x0 x1
 go_enter Tryz.func4,Tryz.ntmps4
 have y0:=(uH HX).c0;have y1:=(uH HX).c1;have y2:=(uH HX).c2;have u0:=(uH HY).c0;have u1:=(uH HY).c1;have u2:=(uH HY).c2
 go_wp2_with fail
 clear y0 y1 y2 u0 u1 u2
 refine (uH KC1 _ (uH HB)).mono ?_
 rintro e wn ⟨rfl,hb⟩
 replace HX:=hide ((uH HX).all hb);replace HY:=hide ((uH HY).all hb)
 replace HB:=hide ((uH HB).trans (hb.mono (uH HB).size))
 clear hb
 have y0:=(uH HX).c0;have y1:=(uH HX).c1;have y2:=(uH HX).c2;have u0:=(uH HY).c0;have u1:=(uH HY).c1;have u2:=(uH HY).c2
 go_wp2_with fail
 clear y0 y1 y2 u0 u1 u2
 refine (uH KC2 _ (uH HB)).mono ?_
 rintro e wn ⟨rfl,hb⟩
 replace HX:=hide ((uH HX).all hb);replace HY:=hide ((uH HY).all hb)
 replace HB:=hide ((uH HB).trans (hb.mono (uH HB).size))
 clear hb
 have y0:=(uH HX).c0;have y1:=(uH HX).c1;have y2:=(uH HX).c2;have u0:=(uH HY).c0;have u1:=(uH HY).c1;have u2:=(uH HY).c2
 go_wp2_with fail
 clear y0 y1 y2 u0 u1 u2
 refine (uH KCA _ (uH HB)).mono ?_
 rintro e wn ⟨rfl,hb⟩
 replace HX:=hide ((uH HX).all hb);replace HY:=hide ((uH HY).all hb)
 replace HB:=hide ((uH HB).trans (hb.mono (uH HB).size))
 clear hb
 go_wp2_with fail
 go_ret
 exact ⟨rfl,uH HB⟩
theorem solveUpright_err (er:Int) (r c p q:Int) (ao bo:Option Addr) (k cap m d:Nat) (w:World) (her:er = 3 ∨ er = 5)
  (C1:∀ w',Below w.heap.size w w'→Calls Tryz.prog 22 #[.agg #[.int .i64 r,.int .i64 c,.slice ao k cap],.int .i64 60] w' fun e w''=>e = .returned (.bool true)∧Below w'.heap.size w' w'')
  (C2:∀ w',Below w.heap.size w w'→Calls Tryz.prog 22 #[.agg #[.int .i64 p,.int .i64 q,.slice bo m d],.int .i64 60] w' fun e w''=>e = .returned (.bool true)∧Below w'.heap.size w' w'')
  (C3:∀ w',Below w.heap.size w w'→Calls Tryz.prog 23 #[.agg #[.int .i64 r,.int .i64 c,.slice ao k cap],.agg #[.int .i64 p,.int .i64 q,.slice bo m d]] w' fun e w''=>e = .returned (.tuple #[.agg #[.int .i64 0,.int .i64 0,.slice none 0 0],.int .i64 er])∧Below w'.heap.size w' w'')
  (CA:∀ w',Below w.heap.size w w'→Calls Tryz.prog 21 #[] w' fun e w''=>e = .returned (.bool true)∧Below w'.heap.size w' w'') :
  Calls Tryz.prog 4 #[.agg #[.int .i64 r,.int .i64 c,.slice ao k cap],.agg #[.int .i64 p,.int .i64 q,.slice bo m d]] w fun e w'=>e = .returned (.bool true)∧Below w.heap.size w w':=by
 have KB:=hide (boxes2 w (.int .i64 r) (.int .i64 c) (.slice ao k cap) (.int .i64 p) (.int .i64 q) (.slice bo m d))
 obtain ⟨b0,x0,x1⟩:=uH KB ((w.alloc (.cells #[.int .i64 r,.int .i64 c,.slice ao k cap] 25)).alloc (.cells #[.int .i64 p,.int .i64 q,.slice bo m d] 25)) (by have:=Below.refl ((w.alloc (.cells #[.int .i64 r,.int .i64 c,.slice ao k cap] 25)).alloc (.cells #[.int .i64 p,.int .i64 q,.slice bo m d] 25)).heap.size ((w.alloc (.cells #[.int .i64 r,.int .i64 c,.slice ao k cap] 25)).alloc (.cells #[.int .i64 p,.int .i64 q,.slice bo m d] 25));simpa only [size_alloc9] using this)
 have HB:=hide b0;have HX:=hide x0;have HY:=hide x1
 have KC1:=hide C1
 have KC2:=hide C2
 have KC3:=hide C3
 have KCA:=hide CA
 clear C1 C2 C3 CA KB b0 x0 x1
 rcases her with rfl | rfl
 all_goals
  go_enter Tryz.func4,Tryz.ntmps4
  have y0:=(uH HX).c0;have y1:=(uH HX).c1;have y2:=(uH HX).c2;have u0:=(uH HY).c0;have u1:=(uH HY).c1;have u2:=(uH HY).c2
  go_wp2_with fail
  clear y0 y1 y2 u0 u1 u2
  refine (uH KC1 _ (uH HB)).mono ?_
  rintro e wn ⟨rfl,hb⟩
  replace HX:=hide ((uH HX).all hb);replace HY:=hide ((uH HY).all hb)
  replace HB:=hide ((uH HB).trans (hb.mono (uH HB).size))
  clear hb
  have y0:=(uH HX).c0;have y1:=(uH HX).c1;have y2:=(uH HX).c2;have u0:=(uH HY).c0;have u1:=(uH HY).c1;have u2:=(uH HY).c2
  go_wp2_with fail
  clear y0 y1 y2 u0 u1 u2
  refine (uH KC2 _ (uH HB)).mono ?_
  rintro e wn ⟨rfl,hb⟩
  replace HX:=hide ((uH HX).all hb);replace HY:=hide ((uH HY).all hb)
  replace HB:=hide ((uH HB).trans (hb.mono (uH HB).size))
  clear hb
  have y0:=(uH HX).c0;have y1:=(uH HX).c1;have y2:=(uH HX).c2;have u0:=(uH HY).c0;have u1:=(uH HY).c1;have u2:=(uH HY).c2
  go_wp2_with fail
  clear y0 y1 y2 u0 u1 u2
  refine (uH KC3 _ (uH HB)).mono ?_
  rintro e w3 ⟨rfl,hb⟩
  replace HB:=hide ((uH HB).trans (hb.mono (uH HB).size))
  have ba:=below_alloc9 w3 (.cells #[.int .i64 0,.int .i64 0,.slice none 0 0] 25)
  replace HB:=hide ((uH HB).trans (ba.mono (uH HB).size))
  clear hb ba HX HY
  go_wp2_with fail
  refine (uH KCA _ (uH HB)).mono ?_
  rintro e w4 ⟨rfl,hb⟩
  replace HB:=hide ((uH HB).trans (hb.mono (uH HB).size))
  clear hb
  go_wp2_with fail
  go_ret
  exact ⟨rfl,uH HB⟩
theorem solveUpright_of (r c q n:Nat) (ao bo:Option Addr) (k cap m d:Nat) (X:List Int) (lo lp lq z1 z2 z3 z4 z5 z6 zg:Int) (w:World)
  (C1:∀ w',Below w.heap.size w w'→Calls Tryz.prog 22 #[.agg #[.int .i64 r,.int .i64 c,.slice ao k cap],.int .i64 60] w' fun e w''=>e = .returned (.bool true)∧Below w'.heap.size w' w'')
  (C2:∀ w',Below w.heap.size w w'→Calls Tryz.prog 22 #[.agg #[.int .i64 r,.int .i64 q,.slice bo m d],.int .i64 60] w' fun e w''=>e = .returned (.bool true)∧Below w'.heap.size w' w'')
  (C3:∀ w',Below w.heap.size w w'→Calls Tryz.prog 23 #[.agg #[.int .i64 r,.int .i64 c,.slice ao k cap],.agg #[.int .i64 r,.int .i64 q,.slice bo m d]] w' fun e w''=>(∃ xo xc,e = .returned (.tuple #[.agg #[.int .i64 c,.int .i64 q,.slice xo n xc],.int .i64 0])∧BitsAt w'' xo xc X)∧Below w'.heap.size w' w'')
  (C4:∀ w' xo xc,Below w.heap.size w w'→BitsAt w' xo xc X→Calls Tryz.prog 19 #[.agg #[.int .i64 c,.int .i64 q,.slice xo n xc]] w' fun e w''=>e = .returned (.int .i64 0)∧Below w'.heap.size w' w'')
  (S1:∀ w',Below w.heap.size w w'→Calls Tryz.prog 24 #[.agg #[.int .i64 r,.int .i64 c,.slice ao k cap]] w' fun e w''=>∃ t,e = .returned t∧IsLv w'' t lo z1∧Below w'.heap.size w' w'')
  (S2:∀ w' xo xc,Below w.heap.size w w'→BitsAt w' xo xc X→Calls Tryz.prog 24 #[.agg #[.int .i64 c,.int .i64 q,.slice xo n xc]] w' fun e w''=>∃ t,e = .returned t∧IsLv w'' t lo z2∧Below w'.heap.size w' w'')
  (S3:∀ w',Below w.heap.size w w'→Calls Tryz.prog 24 #[.agg #[.int .i64 r,.int .i64 q,.slice bo m d]] w' fun e w''=>∃ t,e = .returned t∧IsLv w'' t lo z3∧Below w'.heap.size w' w'')
  (M1:∀ w' v u,IsLv w' v lo z1→IsLv w' u lo z2→Calls Tryz.prog 25 #[v,u] w' fun e w''=>∃ t,e = .returned t∧IsLv w'' t lp z4∧Below w'.heap.size w' w'')
  (M2:∀ w' v u,IsLv w' v lp z4→IsLv w' u lo z3→Calls Tryz.prog 26 #[v,u] w' fun e w''=>∃ t,e = .returned t∧IsLv w'' t lp z5∧Below w'.heap.size w' w'')
  (M3:∀ w' v u,IsLv w' v lo z1→IsLv w' u lp z5→Calls Tryz.prog 25 #[v,u] w' fun e w''=>∃ t,e = .returned t∧IsLv w'' t lq z6∧Below w'.heap.size w' w'')
  (GR:∀ w' xo xc,Below w.heap.size w w'→BitsAt w' xo xc X→Calls Tryz.prog 28 #[.agg #[.int .i64 r,.int .i64 c,.slice ao k cap],.agg #[.int .i64 c,.int .i64 q,.slice xo n xc],.agg #[.int .i64 r,.int .i64 q,.slice bo m d]] w' fun e w''=>∃ t,e = .returned t∧IsLv w'' t lq zg∧Below w'.heap.size w' w'')
  (WN:∀ w' v u,IsLv w' v lq zg→IsLv w' u lq z6→Calls Tryz.prog 27 #[v,u,.int .i64 35] w' fun e w''=>e = .returned (.bool true)∧Below w'.heap.size w' w'')
  (CA:∀ w',Below w.heap.size w w'→Calls Tryz.prog 21 #[] w' fun e w''=>e = .returned (.bool true)∧Below w'.heap.size w' w'') :
  Calls Tryz.prog 4 #[.agg #[.int .i64 r,.int .i64 c,.slice ao k cap],.agg #[.int .i64 r,.int .i64 q,.slice bo m d]] w fun e w'=>e = .returned (.bool true)∧Below w.heap.size w w':=by
 have KB:=hide (boxes2 w (.int .i64 r) (.int .i64 c) (.slice ao k cap) (.int .i64 r) (.int .i64 q) (.slice bo m d))
 obtain ⟨b0,x0,x1⟩:=uH KB ((w.alloc (.cells #[.int .i64 r,.int .i64 c,.slice ao k cap] 25)).alloc (.cells #[.int .i64 r,.int .i64 q,.slice bo m d] 25)) (by have:=Below.refl ((w.alloc (.cells #[.int .i64 r,.int .i64 c,.slice ao k cap] 25)).alloc (.cells #[.int .i64 r,.int .i64 q,.slice bo m d] 25)).heap.size ((w.alloc (.cells #[.int .i64 r,.int .i64 c,.slice ao k cap] 25)).alloc (.cells #[.int .i64 r,.int .i64 q,.slice bo m d] 25));simpa only [size_alloc9] using this)
 have HB:=hide b0;have HX:=hide x0;have HY:=hide x1
 have KC1:=hide C1
 have KC2:=hide C2
 have KC3:=hide C3
 have KC4:=hide C4
 have KS1:=hide S1
 have KS2:=hide S2
 have KS3:=hide S3
 have KM1:=hide M1
 have KM2:=hide M2
 have KM3:=hide M3
 have KGR:=hide GR
 have KWN:=hide WN
 have KCA:=hide CA
 clear C1 C2 C3 C4 S1 S2 S3 M1 M2 M3 GR WN CA KB b0 x0 x1
 go_enter Tryz.func4,Tryz.ntmps4
 have y0:=(uH HX).c0;have y1:=(uH HX).c1;have y2:=(uH HX).c2;have u0:=(uH HY).c0;have u1:=(uH HY).c1;have u2:=(uH HY).c2
 go_wp2_with fail
 clear y0 y1 y2 u0 u1 u2
 refine (uH KC1 _ (uH HB)).mono ?_
 rintro e wn ⟨rfl,hb⟩
 replace HX:=hide ((uH HX).all hb);replace HY:=hide ((uH HY).all hb)
 replace HB:=hide ((uH HB).trans (hb.mono (uH HB).size))
 clear hb
 have y0:=(uH HX).c0;have y1:=(uH HX).c1;have y2:=(uH HX).c2;have u0:=(uH HY).c0;have u1:=(uH HY).c1;have u2:=(uH HY).c2
 go_wp2_with fail
 clear y0 y1 y2 u0 u1 u2
 refine (uH KC2 _ (uH HB)).mono ?_
 rintro e wn ⟨rfl,hb⟩
 replace HX:=hide ((uH HX).all hb);replace HY:=hide ((uH HY).all hb)
 replace HB:=hide ((uH HB).trans (hb.mono (uH HB).size))
 clear hb
 have y0:=(uH HX).c0;have y1:=(uH HX).c1;have y2:=(uH HX).c2;have u0:=(uH HY).c0;have u1:=(uH HY).c1;have u2:=(uH HY).c2
 go_wp2_with fail
 clear y0 y1 y2 u0 u1 u2
 refine (uH KC3 _ (uH HB)).mono ?_
 rintro e w3 ⟨⟨xo,xc,rfl,hx⟩,hb⟩
 replace HX:=hide ((uH HX).all hb);replace HY:=hide ((uH HY).all hb)
 replace HB:=hide ((uH HB).trans (hb.mono (uH HB).size))
 have ba:=below_alloc9 w3 (.cells #[.int .i64 c,.int .i64 q,.slice xo n xc] 25)
 have HW:=hide (BoxM.new w3 (.int .i64 c) (.int .i64 q) (.slice xo n xc))
 have LX:=hide (hx.below ba)
 replace HX:=hide ((uH HX).all ba);replace HY:=hide ((uH HY).all ba)
 replace HB:=hide ((uH HB).trans (ba.mono (uH HB).size))
 clear hb ba hx
 have v0:=(uH HW).c0;have v1:=(uH HW).c1;have v2:=(uH HW).c2
 go_wp2_with fail
 clear v0 v1 v2
 refine (uH KC4 _ xo xc (uH HB) (uH LX)).mono ?_
 rintro e w4 ⟨rfl,hb⟩
 replace HX:=hide ((uH HX).all hb);replace HY:=hide ((uH HY).all hb);replace HW:=hide ((uH HW).all hb);replace LX:=hide ((uH LX).below hb);replace HB:=hide ((uH HB).trans (hb.mono (uH HB).size))
 clear hb
 have y0:=(uH HX).c0;have y1:=(uH HX).c1;have y2:=(uH HX).c2;have u0:=(uH HY).c0;have u1:=(uH HY).c1;have u2:=(uH HY).c2
 have v0:=(uH HW).c0;have v1:=(uH HW).c1;have v2:=(uH HW).c2
 have hcc:((c:Int) != (c:Int)) = false:=by simp
 have hqq:((q:Int) != (q:Int)) = false:=by simp
 go_wp2_with fail
 clear v0 v1 v2 hcc hqq
 clear y0 y1 y2 u0 u1 u2
 refine (uH KS1 _ (uH HB)).mono ?_
 rintro e w5 ⟨v,rfl,lv,hb⟩
 obtain ⟨n1,a1,l1,c1,E1,rfl,L⟩:=lv.ex17
 have L1:=hide L
 clear lv L
 replace HX:=hide ((uH HX).all hb);replace HY:=hide ((uH HY).all hb);replace HW:=hide ((uH HW).all hb);replace LX:=hide ((uH LX).below hb);replace HB:=hide ((uH HB).trans (hb.mono (uH HB).size))
 clear hb
 have ba:=below_alloc9 w5 (.cells #[.bool n1,.slice a1 l1 c1,.int .i64 E1] 41)
 have HZ:=hide (Box3.new w5 (.bool n1) (.slice a1 l1 c1) (.int .i64 E1))
 replace HX:=hide ((uH HX).all ba);replace HY:=hide ((uH HY).all ba);replace HW:=hide ((uH HW).all ba);replace LX:=hide ((uH LX).below ba);replace L1:=hide ((uH L1).below ba);replace HB:=hide ((uH HB).trans (ba.mono (uH HB).size))
 clear ba
 go_wp2_with fail
 generalize w3.heap.size = g5 at *
 generalize w5.heap.size = g7 at *
 generalize w5.alloc (.cells #[.bool n1,.slice a1 l1 c1,.int .i64 E1] 41) = w6 at *
 have ST:=hide (show UqSt w w6 r c q n ao bo xo k cap m d xc g5 g7 X n1 a1 l1 c1 E1 from ⟨uH HX,uH HY,uH HW,uH LX,uH HZ,uH HB⟩)
 clear HX HY HW LX HZ HB
 refine region_cut (T:=Value × Value × Value × Value × Bool × Option Addr × Nat × Nat × Int × Nat) (fun a t=>(((((((((((a.put (some 54) (.agg #[.bool n1,.slice a1 l1 c1,.int .i64 E1])).put (some 55) (.agg #[.bool n1,.slice a1 l1 c1,.int .i64 E1])).put (some 56) (.agg #[.int .i64 (c:Nat),.int .i64 (q:Nat),.slice xo n xc])).put (some 57) t.1).put (some 58) t.2.1).put (some 59) (.agg #[.int .i64 (r:Nat),.int .i64 (q:Nat),.slice bo m d])).put (some 60) t.2.2.1).put (some 61) t.2.2.2.1).put (some 62) (.agg #[.bool t.2.2.2.2.1,.slice t.2.2.2.2.2.1 t.2.2.2.2.2.2.1 t.2.2.2.2.2.2.2.1,.int .i64 t.2.2.2.2.2.2.2.2.1])).put (some 8) (.pointer (some ⟨t.2.2.2.2.2.2.2.2.2,0,none⟩))))) (fun t w'=>UqSt w w' r c q n ao bo xo k cap m d xc g5 g7 X n1 a1 l1 c1 E1∧Box3 w' t.2.2.2.2.2.2.2.2.2 (.bool t.2.2.2.2.1) (.slice t.2.2.2.2.2.1 t.2.2.2.2.2.2.1 t.2.2.2.2.2.2.2.1) (.int .i64 t.2.2.2.2.2.2.2.2.1)∧IsLv w' (.agg #[.bool t.2.2.2.2.1,.slice t.2.2.2.2.2.1 t.2.2.2.2.2.2.1 t.2.2.2.2.2.2.2.1,.int .i64 t.2.2.2.2.2.2.2.2.1]) lq z6) ?_ ?_
 rotate_left
 ·rintro ⟨v7,v8,v0,v1,n6,a6,l6,c6,E6,g20⟩ w20 ⟨st,h8,il⟩
  simp only [Act.put,List.setIfInBounds_toArray,List.set_cons_zero,List.set_cons_succ]
  have hd:=(Below.refl w20.heap.size w20).drew
  have S2:=hide (st.all hd);have H8:=hide (show Box3 _ _ _ _ _ from h8.all hd);have L6:=hide (show IsLv _ (.agg #[.bool n6,.slice a6 l6 c6,.int .i64 E6]) lq z6 from il.below hd)
  clear hd st h8 il ST L1 KS1 KS2 KS3 KM1 KM2 KM3
  have ST:=S2
  clear S2
  go_wp2_with fail
  refine wp_region_held_drew (S:=fun w'=>(w'.cell? ⟨g20,0,none⟩ = some (.bool n6)∧w'.cell? ⟨g20,1,none⟩ = some (.slice a6 l6 c6)∧w'.cell? ⟨g20,2,none⟩ = some (.int .i64 E6))∧(w'.cell? ⟨g5,0,none⟩ = some (.int .i64 (c:Nat))∧w'.cell? ⟨g5,1,none⟩ = some (.int .i64 (q:Nat))∧w'.cell? ⟨g5,2,none⟩ = some (.slice xo n xc))∧(w'.cell? ⟨w.heap.size,0,none⟩ = some (.int .i64 (r:Nat))∧w'.cell? ⟨w.heap.size,1,none⟩ = some (.int .i64 (c:Nat))∧w'.cell? ⟨w.heap.size,2,none⟩ = some (.slice ao k cap))∧w'.cell? ⟨w.heap.size+1,0,none⟩ = some (.int .i64 (r:Nat))∧w'.cell? ⟨w.heap.size+1,1,none⟩ = some (.int .i64 (q:Nat))∧w'.cell? ⟨w.heap.size+1,2,none⟩ = some (.slice bo m d)) (by kernel_rfl) ?_ (fun hHeld=>?_)
  ·exact ⟨⟨(uH H8).c0,(uH H8).c1,(uH H8).c2⟩,⟨(uH ST).hw.c0,(uH ST).hw.c1,(uH ST).hw.c2⟩,⟨(uH ST).hx.c0,(uH ST).hx.c1,(uH ST).hx.c2⟩,(uH ST).hy.c0,(uH ST).hy.c1,(uH ST).hy.c2⟩
  refine wpAnyH_take (i:=0) (oi:={ dst:=some 63,op:=Op.load 25 (Operand.tmp 2),type:=25,pos := "law.go:102",after:=#[],guard:=none }) (v:=(Value.agg #[.int .i64 (r:Nat),.int .i64 (c:Nat),.slice ao k cap])) rfl (by kernel_rfl) (by kernel_rfl) (by kernel_rfl) (fun _ _ _ h=>h) (Or.inl ⟨by rfl,?_⟩) (by assumption) ?_
  ·(intro w hSw;(try dsimp only at hSw);go_simp)
  simp only [Act.put,List.setIfInBounds_toArray,List.set_cons_zero,List.set_cons_succ]
  refine wpAnyH_take (i:=1) (oi:={ dst:=some 64,op:=Op.load 25 (Operand.tmp 5),type:=25,pos := "law.go:102",after:=#[],guard:=none }) (v:=(Value.agg #[.int .i64 (c:Nat),.int .i64 (q:Nat),.slice xo n xc])) rfl (by kernel_rfl) (by kernel_rfl) (by kernel_rfl) (fun _ _ _ h=>h) (Or.inl ⟨by rfl,?_⟩) (by assumption) ?_
  ·(intro w hSw;(try dsimp only at hSw);go_simp)
  simp only [Act.put,List.setIfInBounds_toArray,List.set_cons_zero,List.set_cons_succ]
  refine wpAnyH_take (i:=2) (oi:={ dst:=some 65,op:=Op.load 25 (Operand.tmp 3),type:=25,pos := "law.go:102",after:=#[],guard:=none }) (v:=(Value.agg #[.int .i64 (r:Nat),.int .i64 (q:Nat),.slice bo m d])) rfl (by kernel_rfl) (by kernel_rfl) (by kernel_rfl) (fun _ _ _ h=>h) (Or.inl ⟨by rfl,?_⟩) (by assumption) ?_
  ·(intro w hSw;(try dsimp only at hSw);go_simp)
  simp only [Act.put,List.setIfInBounds_toArray,List.set_cons_zero,List.set_cons_succ]
  refine wpAnyH_take (i:=4) (oi:={ dst:=some 67,op:=Op.load 41 (Operand.tmp 8),type:=41,pos := "law.go:102",after:=#[],guard:=none }) (v:=(Value.agg #[.bool n6,.slice a6 l6 c6,.int .i64 E6])) rfl (by kernel_rfl) (by kernel_rfl) (by kernel_rfl) (fun _ _ _ h=>h) (Or.inl ⟨by rfl,?_⟩) (by assumption) ?_
  ·(intro w hSw;(try dsimp only at hSw);go_simp)
  simp only [Act.put,List.setIfInBounds_toArray,List.set_cons_zero,List.set_cons_succ]
  refine wpAnyH_ready (rs:=[3]) (by kernel_rfl) (by simp) ?_
  refine AllReadyH.cons (o:={ dst:=some 66,op:=Op.call { callee:=Callee.value (Operand.func 28),args:=#[Operand.tmp 63,Operand.tmp 64,Operand.tmp 65],argTypes:=#[25,25,25] },type:=41,pos := "law.go:102",after:=#[{ on:=0,ground:=Ground.data },{ on:=1,ground:=Ground.data },{ on:=2,ground:=Ground.data }],guard:=none }) rfl (fun K hK=>?_) AllReadyH.nil
  go_simp
  refine (uH KGR _ xo xc (uH ST).hb (uH ST).lx).mono ?_
  rintro e w21 ⟨v,rfl,lv,hb⟩
  obtain ⟨n9,a9,l9,c9,E9,rfl,L⟩:=lv.ex17
  have L9:=hide L
  clear lv L
  replace ST:=hide ((uH ST).all hb);replace H8:=hide ((uH H8).all hb);replace L6:=hide ((uH L6).below hb)
  clear hb
  go_wp2_with fail
  refine hK.out _ _ ?_ (fun hHeld=>?_)
  ·exact ⟨⟨(uH H8).c0,(uH H8).c1,(uH H8).c2⟩,⟨(uH ST).hw.c0,(uH ST).hw.c1,(uH ST).hw.c2⟩,⟨(uH ST).hx.c0,(uH ST).hx.c1,(uH ST).hx.c2⟩,(uH ST).hy.c0,(uH ST).hy.c1,(uH ST).hy.c2⟩
  clear hK K
  refine wpAnyH_ready (rs:=[5]) (by kernel_rfl) (by simp) ?_
  refine AllReadyH.cons (o:={ dst:=some 68,op:=Op.call { callee:=Callee.value (Operand.func 27),args:=#[Operand.tmp 66,Operand.tmp 67,Operand.const (Value.int IntKind.i64 35)],argTypes:=#[41,41,3] },type:=4,pos := "law.go:102",after:=#[{ on:=3,ground:=Ground.data },{ on:=4,ground:=Ground.data },{ on:=3,ground:=Ground.chain }],guard:=none }) rfl (fun K hK=>?_) AllReadyH.nil
  go_simp
  refine (uH KWN _ _ _ (uH L9) (uH L6)).mono ?_
  rintro e w22 ⟨rfl,hb⟩
  replace ST:=hide ((uH ST).all hb);replace H8:=hide ((uH H8).all hb);replace L6:=hide ((uH L6).below hb);replace L9:=hide ((uH L9).below hb)
  clear hb
  go_wp2_with fail
  refine hK.out _ _ ?_ (fun hHeld=>?_)
  ·exact ⟨⟨(uH H8).c0,(uH H8).c1,(uH H8).c2⟩,⟨(uH ST).hw.c0,(uH ST).hw.c1,(uH ST).hw.c2⟩,⟨(uH ST).hx.c0,(uH ST).hx.c1,(uH ST).hx.c2⟩,(uH ST).hy.c0,(uH ST).hy.c1,(uH ST).hy.c2⟩
  clear hK K
  refine wpAnyH_take (i:=6) (oi:={ dst:=some 69,op:=Op.move (Operand.tmp 68),type:=4,pos := "law.go:102",after:=#[{ on:=5,ground:=Ground.data },{ on:=5,ground:=Ground.chain }],guard:=none }) (v:=(Value.bool true)) rfl (by kernel_rfl) (by kernel_rfl) (by kernel_rfl) (fun _ _ _ h=>h) (Or.inl ⟨by rfl,?_⟩) (by assumption) ?_
  ·(intro w hSw;(try dsimp only at hSw);go_simp)
  simp only [Act.put,List.setIfInBounds_toArray,List.set_cons_zero,List.set_cons_succ]
  refine wpAnyH_ready (rs:=[7]) (by kernel_rfl) (by simp) ?_
  refine AllReadyH.cons (o:={ dst:=some 70,op:=Op.call { callee:=Callee.value (Operand.func 21),args:=#[],argTypes:=#[] },type:=4,pos := "law.go:102",after:=#[{ on:=6,ground:=Ground.chain },{ on:=6,ground:=Ground.guard }],guard:=some (6,true) }) rfl (fun K hK=>?_) AllReadyH.nil
  go_simp
  refine (uH KCA _ (uH ST).hb).mono ?_
  rintro e w23 ⟨rfl,hb⟩
  replace ST:=hide ((uH ST).all hb);replace H8:=hide ((uH H8).all hb);replace L6:=hide ((uH L6).below hb);replace L9:=hide ((uH L9).below hb)
  clear hb
  go_wp2_with fail
  refine hK.out _ _ ?_ (fun hHeld=>?_)
  ·exact ⟨⟨(uH H8).c0,(uH H8).c1,(uH H8).c2⟩,⟨(uH ST).hw.c0,(uH ST).hw.c1,(uH ST).hw.c2⟩,⟨(uH ST).hx.c0,(uH ST).hx.c1,(uH ST).hx.c2⟩,(uH ST).hy.c0,(uH ST).hy.c1,(uH ST).hy.c2⟩
  clear hK K
  refine wpAnyH_take (i:=8) (oi:={ dst:=some 71,op:=Op.pick (Operand.tmp 69) (Operand.tmp 70) (Operand.const (Value.bool false)),type:=4,pos := "law.go:102",after:=#[{ on:=6,ground:=Ground.data },{ on:=7,ground:=Ground.data }],guard:=none }) (v:=(Value.bool true)) rfl (by kernel_rfl) (by kernel_rfl) (by kernel_rfl) (fun _ _ _ h=>h) (Or.inl ⟨by rfl,?_⟩) (by assumption) ?_
  ·(intro w hSw;(try dsimp only at hSw);go_simp)
  simp only [Act.put,List.setIfInBounds_toArray,List.set_cons_zero,List.set_cons_succ]
  refine wpAnyH_take (i:=9) (oi:={ dst:=some 4,op:=Op.assign (Operand.tmp 71),type:=4,pos := "law.go:102",after:=#[{ on:=8,ground:=Ground.data },{ on:=7,ground:=Ground.chain },{ on:=0,ground:=Ground.phase },{ on:=1,ground:=Ground.phase },{ on:=2,ground:=Ground.phase },{ on:=3,ground:=Ground.phase },{ on:=4,ground:=Ground.phase },{ on:=5,ground:=Ground.phase },{ on:=6,ground:=Ground.phase },{ on:=7,ground:=Ground.phase },{ on:=8,ground:=Ground.phase }],guard:=none }) (v:=(Value.bool true)) rfl (by kernel_rfl) (by kernel_rfl) (by kernel_rfl) (fun _ _ _ h=>h) (Or.inl ⟨by rfl,?_⟩) (by assumption) ?_
  ·(intro w hSw;(try dsimp only at hSw);go_simp)
  simp only [Act.put,List.setIfInBounds_toArray,List.set_cons_zero,List.set_cons_succ]
  refine wpAnyH_done (by kernel_rfl) ?_ _
  go_wp2_with fail
  go_ret
  exact ⟨rfl,(uH ST).hb⟩
 have hd:=(Below.refl w6.heap.size w6).drew
 replace ST:=hide ((uH ST).all hd);replace L1:=hide ((uH L1).below hd)
 clear hd
 refine wp_region_held_drew (S:=fun w'=>(w'.cell? ⟨g7,0,none⟩ = some (.bool n1)∧w'.cell? ⟨g7,1,none⟩ = some (.slice a1 l1 c1)∧w'.cell? ⟨g7,2,none⟩ = some (.int .i64 E1))∧(w'.cell? ⟨g5,0,none⟩ = some (.int .i64 (c:Nat))∧w'.cell? ⟨g5,1,none⟩ = some (.int .i64 (q:Nat))∧w'.cell? ⟨g5,2,none⟩ = some (.slice xo n xc))∧w'.cell? ⟨w.heap.size+1,0,none⟩ = some (.int .i64 (r:Nat))∧w'.cell? ⟨w.heap.size+1,1,none⟩ = some (.int .i64 (q:Nat))∧w'.cell? ⟨w.heap.size+1,2,none⟩ = some (.slice bo m d)) (by kernel_rfl) ?_ (fun hHeld=>?_)
 ·exact ⟨⟨(uH ST).hz.c0,(uH ST).hz.c1,(uH ST).hz.c2⟩,⟨(uH ST).hw.c0,(uH ST).hw.c1,(uH ST).hw.c2⟩,(uH ST).hy.c0,(uH ST).hy.c1,(uH ST).hy.c2⟩
 refine wpAnyH_take (i:=0) (oi:={ dst:=some 54,op:=Op.load 41 (Operand.tmp 7),type:=41,pos := "law.go:101",after:=#[],guard:=none }) (v:=(Value.agg #[.bool n1,.slice a1 l1 c1,.int .i64 E1])) rfl (by kernel_rfl) (by kernel_rfl) (by kernel_rfl) (fun _ _ _ h=>h) (Or.inl ⟨by rfl,?_⟩) (by assumption) ?_
 ·(intro w hSw;(try dsimp only at hSw);go_simp)
 simp only [Act.put,List.setIfInBounds_toArray,List.set_cons_zero,List.set_cons_succ]
 refine wpAnyH_take (i:=1) (oi:={ dst:=some 55,op:=Op.load 41 (Operand.tmp 7),type:=41,pos := "law.go:101",after:=#[],guard:=none }) (v:=(Value.agg #[.bool n1,.slice a1 l1 c1,.int .i64 E1])) rfl (by kernel_rfl) (by kernel_rfl) (by kernel_rfl) (fun _ _ _ h=>h) (Or.inl ⟨by rfl,?_⟩) (by assumption) ?_
 ·(intro w hSw;(try dsimp only at hSw);go_simp)
 simp only [Act.put,List.setIfInBounds_toArray,List.set_cons_zero,List.set_cons_succ]
 refine wpAnyH_take (i:=2) (oi:={ dst:=some 56,op:=Op.load 25 (Operand.tmp 5),type:=25,pos := "law.go:101",after:=#[],guard:=none }) (v:=(Value.agg #[.int .i64 (c:Nat),.int .i64 (q:Nat),.slice xo n xc])) rfl (by kernel_rfl) (by kernel_rfl) (by kernel_rfl) (fun _ _ _ h=>h) (Or.inl ⟨by rfl,?_⟩) (by assumption) ?_
 ·(intro w hSw;(try dsimp only at hSw);go_simp)
 simp only [Act.put,List.setIfInBounds_toArray,List.set_cons_zero,List.set_cons_succ]
 refine wpAnyH_take (i:=5) (oi:={ dst:=some 59,op:=Op.load 25 (Operand.tmp 3),type:=25,pos := "law.go:101",after:=#[],guard:=none }) (v:=(Value.agg #[.int .i64 (r:Nat),.int .i64 (q:Nat),.slice bo m d])) rfl (by kernel_rfl) (by kernel_rfl) (by kernel_rfl) (fun _ _ _ h=>h) (Or.inl ⟨by rfl,?_⟩) (by assumption) ?_
 ·(intro w hSw;(try dsimp only at hSw);go_simp)
 simp only [Act.put,List.setIfInBounds_toArray,List.set_cons_zero,List.set_cons_succ]
 refine wpAnyH_ready (rs:=[3,9]) (by kernel_rfl) (by simp) ?_
 refine AllReadyH.cons (o:={ dst:=some 57,op:=Op.call { callee:=Callee.value (Operand.func 24),args:=#[Operand.tmp 56],argTypes:=#[25] },type:=41,pos := "law.go:101",after:=#[{ on:=2,ground:=Ground.data }],guard:=none }) rfl (fun K hK=>?_) (AllReadyH.cons (o:={ dst:=some 8,op:=Op.alloc 41,type:=0,pos := "law.go:101",after:=#[],guard:=none }) rfl (fun K hK=>?_) AllReadyH.nil)
 ·go_simp
  refine (uH KS2 _ xo xc (uH ST).hb (uH ST).lx).mono ?_
  rintro e w7 ⟨v,rfl,lv,hb⟩
  obtain ⟨n2,a2,l2,c2,E2,rfl,L⟩:=lv.ex17
  have L2:=hide L
  clear lv L
  replace ST:=hide ((uH ST).all hb);replace L1:=hide ((uH L1).below hb)
  clear hb
  go_wp2_with fail
  refine hK.out _ _ ?_ (fun hHeld=>?_)
  ·exact ⟨⟨(uH ST).hz.c0,(uH ST).hz.c1,(uH ST).hz.c2⟩,⟨(uH ST).hw.c0,(uH ST).hw.c1,(uH ST).hw.c2⟩,(uH ST).hy.c0,(uH ST).hy.c1,(uH ST).hy.c2⟩
  clear hK K
  refine wpAnyH_ready (rs:=[4,9]) (by kernel_rfl) (by simp) ?_
  refine AllReadyH.cons (o:={ dst:=some 58,op:=Op.call { callee:=Callee.value (Operand.func 25),args:=#[Operand.tmp 55,Operand.tmp 57],argTypes:=#[41,41] },type:=41,pos := "law.go:101",after:=#[{ on:=1,ground:=Ground.data },{ on:=3,ground:=Ground.data },{ on:=3,ground:=Ground.chain }],guard:=none }) rfl (fun K hK=>?_) (AllReadyH.cons (o:={ dst:=some 8,op:=Op.alloc 41,type:=0,pos := "law.go:101",after:=#[],guard:=none }) rfl (fun K hK=>?_) AllReadyH.nil)
  ·go_simp
   refine (uH KM1 _ _ _ (uH L1) (uH L2)).mono ?_
   rintro e w8 ⟨v,rfl,lv,hb⟩
   obtain ⟨n4,a4,l4,c4,E4,rfl,L⟩:=lv.ex17
   have L4:=hide L
   clear lv L
   clear L2
   replace ST:=hide ((uH ST).all hb);replace L1:=hide ((uH L1).below hb)
   clear hb
   go_wp2_with fail
   refine hK.out _ _ ?_ (fun hHeld=>?_)
   ·exact ⟨⟨(uH ST).hz.c0,(uH ST).hz.c1,(uH ST).hz.c2⟩,⟨(uH ST).hw.c0,(uH ST).hw.c1,(uH ST).hw.c2⟩,(uH ST).hy.c0,(uH ST).hy.c1,(uH ST).hy.c2⟩
   clear hK K
   refine wpAnyH_ready (rs:=[6,9]) (by kernel_rfl) (by simp) ?_
   refine AllReadyH.cons (o:={ dst:=some 60,op:=Op.call { callee:=Callee.value (Operand.func 24),args:=#[Operand.tmp 59],argTypes:=#[25] },type:=41,pos := "law.go:101",after:=#[{ on:=5,ground:=Ground.data },{ on:=4,ground:=Ground.chain }],guard:=none }) rfl (fun K hK=>?_) (AllReadyH.cons (o:={ dst:=some 8,op:=Op.alloc 41,type:=0,pos := "law.go:101",after:=#[],guard:=none }) rfl (fun K hK=>?_) AllReadyH.nil)
   ·go_simp
    refine (uH KS3 _ (uH ST).hb).mono ?_
    rintro e w9 ⟨v,rfl,lv,hb⟩
    obtain ⟨n3,a3,l3,c3,E3,rfl,L⟩:=lv.ex17
    have L3:=hide L
    clear lv L
    replace ST:=hide ((uH ST).all hb);replace L1:=hide ((uH L1).below hb);replace L4:=hide ((uH L4).below hb)
    clear hb
    go_wp2_with fail
    refine hK.out _ _ ?_ (fun hHeld=>?_)
    ·exact ⟨⟨(uH ST).hz.c0,(uH ST).hz.c1,(uH ST).hz.c2⟩,⟨(uH ST).hw.c0,(uH ST).hw.c1,(uH ST).hw.c2⟩,(uH ST).hy.c0,(uH ST).hy.c1,(uH ST).hy.c2⟩
    clear hK K
    refine wpAnyH_ready (rs:=[7,9]) (by kernel_rfl) (by simp) ?_
    refine AllReadyH.cons (o:={ dst:=some 61,op:=Op.call { callee:=Callee.value (Operand.func 26),args:=#[Operand.tmp 58,Operand.tmp 60],argTypes:=#[41,41] },type:=41,pos := "law.go:101",after:=#[{ on:=4,ground:=Ground.data },{ on:=6,ground:=Ground.data },{ on:=6,ground:=Ground.chain }],guard:=none }) rfl (fun K hK=>?_) (AllReadyH.cons (o:={ dst:=some 8,op:=Op.alloc 41,type:=0,pos := "law.go:101",after:=#[],guard:=none }) rfl (fun K hK=>?_) AllReadyH.nil)
    ·go_simp
     refine (uH KM2 _ _ _ (uH L4) (uH L3)).mono ?_
     rintro e w10 ⟨v,rfl,lv,hb⟩
     obtain ⟨n5,a5,l5,c5,E5,rfl,L⟩:=lv.ex17
     have L5:=hide L
     clear lv L
     clear L4 L3
     replace ST:=hide ((uH ST).all hb);replace L1:=hide ((uH L1).below hb)
     clear hb
     go_wp2_with fail
     refine hK.out _ _ ?_ (fun hHeld=>?_)
     ·exact ⟨⟨(uH ST).hz.c0,(uH ST).hz.c1,(uH ST).hz.c2⟩,⟨(uH ST).hw.c0,(uH ST).hw.c1,(uH ST).hw.c2⟩,(uH ST).hy.c0,(uH ST).hy.c1,(uH ST).hy.c2⟩
     clear hK K
     refine wpAnyH_ready (rs:=[8,9]) (by kernel_rfl) (by simp) ?_
     refine AllReadyH.cons (o:={ dst:=some 62,op:=Op.call { callee:=Callee.value (Operand.func 25),args:=#[Operand.tmp 54,Operand.tmp 61],argTypes:=#[41,41] },type:=41,pos := "law.go:101",after:=#[{ on:=0,ground:=Ground.data },{ on:=7,ground:=Ground.data },{ on:=7,ground:=Ground.chain }],guard:=none }) rfl (fun K hK=>?_) (AllReadyH.cons (o:={ dst:=some 8,op:=Op.alloc 41,type:=0,pos := "law.go:101",after:=#[],guard:=none }) rfl (fun K hK=>?_) AllReadyH.nil)
     ·go_simp
      refine (uH KM3 _ _ _ (uH L1) (uH L5)).mono ?_
      rintro e w11 ⟨v,rfl,lv,hb⟩
      obtain ⟨n6,a6,l6,c6,E6,rfl,L⟩:=lv.ex17
      have L6:=hide L
      clear lv L
      clear L5 L1
      replace ST:=hide ((uH ST).all hb)
      clear hb
      go_wp2_with fail
      refine hK.out _ _ ?_ (fun hHeld=>?_)
      ·exact ⟨⟨(uH ST).hz.c0,(uH ST).hz.c1,(uH ST).hz.c2⟩,⟨(uH ST).hw.c0,(uH ST).hw.c1,(uH ST).hw.c2⟩,(uH ST).hy.c0,(uH ST).hy.c1,(uH ST).hy.c2⟩
      clear hK K
      refine wpAnyH_ready (rs:=[9]) (by kernel_rfl) (by simp) ?_
      refine AllReadyH.cons (o:={ dst:=some 8,op:=Op.alloc 41,type:=0,pos := "law.go:101",after:=#[],guard:=none }) rfl (fun K hK=>?_) AllReadyH.nil
      go_simp
      have ba:=below_alloc9 w11 (.cells #[.bool false,.slice none 0 0,.int .i64 0] 41)
      have HG:=hide ((uH ST).hb.size)
      have HG7:=hide ((uH ST).hz.lt)
      have H8:=hide (Box3.new w11 (.bool false) (.slice none 0 0) (.int .i64 0))
      replace ST:=hide ((uH ST).all ba);replace L6:=hide ((uH L6).below ba)
      clear ba
      generalize w11.heap.size = g8 at *
      generalize w11.alloc (.cells #[.bool false,.slice none 0 0,.int .i64 0] 41) = wa at *
      refine hK.out _ _ ?_ (fun hHeld=>?_)
      ·exact ⟨⟨(uH ST).hz.c0,(uH ST).hz.c1,(uH ST).hz.c2⟩,⟨(uH ST).hw.c0,(uH ST).hw.c1,(uH ST).hw.c2⟩,(uH ST).hy.c0,(uH ST).hy.c1,(uH ST).hy.c2⟩
      clear hK K
      refine wpAnyH_ready (rs:=[10]) (by kernel_rfl) (by simp) ?_
      refine AllReadyH.cons (o:={ dst:=none,op:=Op.store 41 (Operand.tmp 8) (Operand.tmp 62),type:=0,pos := "law.go:101",after:=#[{ on:=9,ground:=Ground.data },{ on:=8,ground:=Ground.data },{ on:=8,ground:=Ground.chain },{ on:=0,ground:=Ground.phase },{ on:=1,ground:=Ground.phase },{ on:=2,ground:=Ground.phase },{ on:=3,ground:=Ground.phase },{ on:=4,ground:=Ground.phase },{ on:=5,ground:=Ground.phase },{ on:=6,ground:=Ground.phase },{ on:=7,ground:=Ground.phase },{ on:=8,ground:=Ground.phase },{ on:=9,ground:=Ground.phase }],guard:=none }) rfl (fun K hK=>?_) AllReadyH.nil
      have X8:=uH H8
      have f0:=X8.free 0;have f1:=X8.free 1;have f2:=X8.free 2
      have s0:=X8.c0;have s1:=X8.c1;have s2:=X8.c2
      replace ST:=hide ((uH ST).put3 X8 (uH HG7) (uH HG) (.bool n6) (.slice a6 l6 c6) (.int .i64 E6))
      replace L6:=hide (show IsLv _ _ lq z6 from IsDy.put3 (uH L6) X8 (.bool n6) (.slice a6 l6 c6) (.int .i64 E6))
      replace H8:=hide (X8.put (.bool n6) (.slice a6 l6 c6) (.int .i64 E6))
      clear X8 HG HG7
      go_simp
      clear f0 f1 f2 s0 s1 s2
      refine hK.out _ _ ?_ (fun hHeld=>?_)
      ·exact ⟨⟨(uH ST).hz.c0,(uH ST).hz.c1,(uH ST).hz.c2⟩,⟨(uH ST).hw.c0,(uH ST).hw.c1,(uH ST).hw.c2⟩,(uH ST).hy.c0,(uH ST).hy.c1,(uH ST).hy.c2⟩
      clear hK K
      refine wpAnyH_done (by kernel_rfl) ?_ _
      exact ⟨⟨_,_,_,_,n6,a6,l6,c6,E6,g8⟩,by first | rfl | simp [Act.put],uH ST,uH H8,uH L6⟩
     ·go_simp
      have ba:=below_alloc9 w10 (.cells #[.bool false,.slice none 0 0,.int .i64 0] 41)
      have HG:=hide ((uH ST).hb.size)
      have HG7:=hide ((uH ST).hz.lt)
      have H8:=hide (Box3.new w10 (.bool false) (.slice none 0 0) (.int .i64 0))
      replace ST:=hide ((uH ST).all ba);replace L1:=hide ((uH L1).below ba);replace L5:=hide ((uH L5).below ba)
      clear ba
      generalize w10.heap.size = g8 at *
      generalize w10.alloc (.cells #[.bool false,.slice none 0 0,.int .i64 0] 41) = wa at *
      refine hK.out _ _ ?_ (fun hHeld=>?_)
      ·exact ⟨⟨(uH ST).hz.c0,(uH ST).hz.c1,(uH ST).hz.c2⟩,⟨(uH ST).hw.c0,(uH ST).hw.c1,(uH ST).hw.c2⟩,(uH ST).hy.c0,(uH ST).hy.c1,(uH ST).hy.c2⟩
      clear hK K
      refine wpAnyH_ready (rs:=[8]) (by kernel_rfl) (by simp) ?_
      refine AllReadyH.cons (o:={ dst:=some 62,op:=Op.call { callee:=Callee.value (Operand.func 25),args:=#[Operand.tmp 54,Operand.tmp 61],argTypes:=#[41,41] },type:=41,pos := "law.go:101",after:=#[{ on:=0,ground:=Ground.data },{ on:=7,ground:=Ground.data },{ on:=7,ground:=Ground.chain }],guard:=none }) rfl (fun K hK=>?_) AllReadyH.nil
      go_simp
      refine (uH KM3 _ _ _ (uH L1) (uH L5)).mono ?_
      rintro e w12 ⟨v,rfl,lv,hb⟩
      obtain ⟨n6,a6,l6,c6,E6,rfl,L⟩:=lv.ex17
      have L6:=hide L
      clear lv L
      clear L5 L1
      replace ST:=hide ((uH ST).all hb);replace H8:=hide ((uH H8).all hb)
      clear hb
      go_wp2_with fail
      refine hK.out _ _ ?_ (fun hHeld=>?_)
      ·exact ⟨⟨(uH ST).hz.c0,(uH ST).hz.c1,(uH ST).hz.c2⟩,⟨(uH ST).hw.c0,(uH ST).hw.c1,(uH ST).hw.c2⟩,(uH ST).hy.c0,(uH ST).hy.c1,(uH ST).hy.c2⟩
      clear hK K
      refine wpAnyH_ready (rs:=[10]) (by kernel_rfl) (by simp) ?_
      refine AllReadyH.cons (o:={ dst:=none,op:=Op.store 41 (Operand.tmp 8) (Operand.tmp 62),type:=0,pos := "law.go:101",after:=#[{ on:=9,ground:=Ground.data },{ on:=8,ground:=Ground.data },{ on:=8,ground:=Ground.chain },{ on:=0,ground:=Ground.phase },{ on:=1,ground:=Ground.phase },{ on:=2,ground:=Ground.phase },{ on:=3,ground:=Ground.phase },{ on:=4,ground:=Ground.phase },{ on:=5,ground:=Ground.phase },{ on:=6,ground:=Ground.phase },{ on:=7,ground:=Ground.phase },{ on:=8,ground:=Ground.phase },{ on:=9,ground:=Ground.phase }],guard:=none }) rfl (fun K hK=>?_) AllReadyH.nil
      have X8:=uH H8
      have f0:=X8.free 0;have f1:=X8.free 1;have f2:=X8.free 2
      have s0:=X8.c0;have s1:=X8.c1;have s2:=X8.c2
      replace ST:=hide ((uH ST).put3 X8 (uH HG7) (uH HG) (.bool n6) (.slice a6 l6 c6) (.int .i64 E6))
      replace L6:=hide (show IsLv _ _ lq z6 from IsDy.put3 (uH L6) X8 (.bool n6) (.slice a6 l6 c6) (.int .i64 E6))
      replace H8:=hide (X8.put (.bool n6) (.slice a6 l6 c6) (.int .i64 E6))
      clear X8 HG HG7
      go_simp
      clear f0 f1 f2 s0 s1 s2
      refine hK.out _ _ ?_ (fun hHeld=>?_)
      ·exact ⟨⟨(uH ST).hz.c0,(uH ST).hz.c1,(uH ST).hz.c2⟩,⟨(uH ST).hw.c0,(uH ST).hw.c1,(uH ST).hw.c2⟩,(uH ST).hy.c0,(uH ST).hy.c1,(uH ST).hy.c2⟩
      clear hK K
      refine wpAnyH_done (by kernel_rfl) ?_ _
      exact ⟨⟨_,_,_,_,n6,a6,l6,c6,E6,g8⟩,by first | rfl | simp [Act.put],uH ST,uH H8,uH L6⟩
    ·go_simp
     have ba:=below_alloc9 w9 (.cells #[.bool false,.slice none 0 0,.int .i64 0] 41)
     have HG:=hide ((uH ST).hb.size)
     have HG7:=hide ((uH ST).hz.lt)
     have H8:=hide (Box3.new w9 (.bool false) (.slice none 0 0) (.int .i64 0))
     replace ST:=hide ((uH ST).all ba);replace L1:=hide ((uH L1).below ba);replace L4:=hide ((uH L4).below ba);replace L3:=hide ((uH L3).below ba)
     clear ba
     generalize w9.heap.size = g8 at *
     generalize w9.alloc (.cells #[.bool false,.slice none 0 0,.int .i64 0] 41) = wa at *
     refine hK.out _ _ ?_ (fun hHeld=>?_)
     ·exact ⟨⟨(uH ST).hz.c0,(uH ST).hz.c1,(uH ST).hz.c2⟩,⟨(uH ST).hw.c0,(uH ST).hw.c1,(uH ST).hw.c2⟩,(uH ST).hy.c0,(uH ST).hy.c1,(uH ST).hy.c2⟩
     clear hK K
     refine wpAnyH_ready (rs:=[7]) (by kernel_rfl) (by simp) ?_
     refine AllReadyH.cons (o:={ dst:=some 61,op:=Op.call { callee:=Callee.value (Operand.func 26),args:=#[Operand.tmp 58,Operand.tmp 60],argTypes:=#[41,41] },type:=41,pos := "law.go:101",after:=#[{ on:=4,ground:=Ground.data },{ on:=6,ground:=Ground.data },{ on:=6,ground:=Ground.chain }],guard:=none }) rfl (fun K hK=>?_) AllReadyH.nil
     go_simp
     refine (uH KM2 _ _ _ (uH L4) (uH L3)).mono ?_
     rintro e w11 ⟨v,rfl,lv,hb⟩
     obtain ⟨n5,a5,l5,c5,E5,rfl,L⟩:=lv.ex17
     have L5:=hide L
     clear lv L
     clear L4 L3
     replace ST:=hide ((uH ST).all hb);replace H8:=hide ((uH H8).all hb);replace L1:=hide ((uH L1).below hb)
     clear hb
     go_wp2_with fail
     refine hK.out _ _ ?_ (fun hHeld=>?_)
     ·exact ⟨⟨(uH ST).hz.c0,(uH ST).hz.c1,(uH ST).hz.c2⟩,⟨(uH ST).hw.c0,(uH ST).hw.c1,(uH ST).hw.c2⟩,(uH ST).hy.c0,(uH ST).hy.c1,(uH ST).hy.c2⟩
     clear hK K
     refine wpAnyH_ready (rs:=[8]) (by kernel_rfl) (by simp) ?_
     refine AllReadyH.cons (o:={ dst:=some 62,op:=Op.call { callee:=Callee.value (Operand.func 25),args:=#[Operand.tmp 54,Operand.tmp 61],argTypes:=#[41,41] },type:=41,pos := "law.go:101",after:=#[{ on:=0,ground:=Ground.data },{ on:=7,ground:=Ground.data },{ on:=7,ground:=Ground.chain }],guard:=none }) rfl (fun K hK=>?_) AllReadyH.nil
     go_simp
     refine (uH KM3 _ _ _ (uH L1) (uH L5)).mono ?_
     rintro e w12 ⟨v,rfl,lv,hb⟩
     obtain ⟨n6,a6,l6,c6,E6,rfl,L⟩:=lv.ex17
     have L6:=hide L
     clear lv L
     clear L5 L1
     replace ST:=hide ((uH ST).all hb);replace H8:=hide ((uH H8).all hb)
     clear hb
     go_wp2_with fail
     refine hK.out _ _ ?_ (fun hHeld=>?_)
     ·exact ⟨⟨(uH ST).hz.c0,(uH ST).hz.c1,(uH ST).hz.c2⟩,⟨(uH ST).hw.c0,(uH ST).hw.c1,(uH ST).hw.c2⟩,(uH ST).hy.c0,(uH ST).hy.c1,(uH ST).hy.c2⟩
     clear hK K
     refine wpAnyH_ready (rs:=[10]) (by kernel_rfl) (by simp) ?_
     refine AllReadyH.cons (o:={ dst:=none,op:=Op.store 41 (Operand.tmp 8) (Operand.tmp 62),type:=0,pos := "law.go:101",after:=#[{ on:=9,ground:=Ground.data },{ on:=8,ground:=Ground.data },{ on:=8,ground:=Ground.chain },{ on:=0,ground:=Ground.phase },{ on:=1,ground:=Ground.phase },{ on:=2,ground:=Ground.phase },{ on:=3,ground:=Ground.phase },{ on:=4,ground:=Ground.phase },{ on:=5,ground:=Ground.phase },{ on:=6,ground:=Ground.phase },{ on:=7,ground:=Ground.phase },{ on:=8,ground:=Ground.phase },{ on:=9,ground:=Ground.phase }],guard:=none }) rfl (fun K hK=>?_) AllReadyH.nil
     have X8:=uH H8
     have f0:=X8.free 0;have f1:=X8.free 1;have f2:=X8.free 2
     have s0:=X8.c0;have s1:=X8.c1;have s2:=X8.c2
     replace ST:=hide ((uH ST).put3 X8 (uH HG7) (uH HG) (.bool n6) (.slice a6 l6 c6) (.int .i64 E6))
     replace L6:=hide (show IsLv _ _ lq z6 from IsDy.put3 (uH L6) X8 (.bool n6) (.slice a6 l6 c6) (.int .i64 E6))
     replace H8:=hide (X8.put (.bool n6) (.slice a6 l6 c6) (.int .i64 E6))
     clear X8 HG HG7
     go_simp
     clear f0 f1 f2 s0 s1 s2
     refine hK.out _ _ ?_ (fun hHeld=>?_)
     ·exact ⟨⟨(uH ST).hz.c0,(uH ST).hz.c1,(uH ST).hz.c2⟩,⟨(uH ST).hw.c0,(uH ST).hw.c1,(uH ST).hw.c2⟩,(uH ST).hy.c0,(uH ST).hy.c1,(uH ST).hy.c2⟩
     clear hK K
     refine wpAnyH_done (by kernel_rfl) ?_ _
     exact ⟨⟨_,_,_,_,n6,a6,l6,c6,E6,g8⟩,by first | rfl | simp [Act.put],uH ST,uH H8,uH L6⟩
   ·go_simp
    have ba:=below_alloc9 w8 (.cells #[.bool false,.slice none 0 0,.int .i64 0] 41)
    have HG:=hide ((uH ST).hb.size)
    have HG7:=hide ((uH ST).hz.lt)
    have H8:=hide (Box3.new w8 (.bool false) (.slice none 0 0) (.int .i64 0))
    replace ST:=hide ((uH ST).all ba);replace L1:=hide ((uH L1).below ba);replace L4:=hide ((uH L4).below ba)
    clear ba
    generalize w8.heap.size = g8 at *
    generalize w8.alloc (.cells #[.bool false,.slice none 0 0,.int .i64 0] 41) = wa at *
    refine hK.out _ _ ?_ (fun hHeld=>?_)
    ·exact ⟨⟨(uH ST).hz.c0,(uH ST).hz.c1,(uH ST).hz.c2⟩,⟨(uH ST).hw.c0,(uH ST).hw.c1,(uH ST).hw.c2⟩,(uH ST).hy.c0,(uH ST).hy.c1,(uH ST).hy.c2⟩
    clear hK K
    refine wpAnyH_ready (rs:=[6]) (by kernel_rfl) (by simp) ?_
    refine AllReadyH.cons (o:={ dst:=some 60,op:=Op.call { callee:=Callee.value (Operand.func 24),args:=#[Operand.tmp 59],argTypes:=#[25] },type:=41,pos := "law.go:101",after:=#[{ on:=5,ground:=Ground.data },{ on:=4,ground:=Ground.chain }],guard:=none }) rfl (fun K hK=>?_) AllReadyH.nil
    go_simp
    refine (uH KS3 _ (uH ST).hb).mono ?_
    rintro e w10 ⟨v,rfl,lv,hb⟩
    obtain ⟨n3,a3,l3,c3,E3,rfl,L⟩:=lv.ex17
    have L3:=hide L
    clear lv L
    replace ST:=hide ((uH ST).all hb);replace H8:=hide ((uH H8).all hb);replace L1:=hide ((uH L1).below hb);replace L4:=hide ((uH L4).below hb)
    clear hb
    go_wp2_with fail
    refine hK.out _ _ ?_ (fun hHeld=>?_)
    ·exact ⟨⟨(uH ST).hz.c0,(uH ST).hz.c1,(uH ST).hz.c2⟩,⟨(uH ST).hw.c0,(uH ST).hw.c1,(uH ST).hw.c2⟩,(uH ST).hy.c0,(uH ST).hy.c1,(uH ST).hy.c2⟩
    clear hK K
    refine wpAnyH_ready (rs:=[7]) (by kernel_rfl) (by simp) ?_
    refine AllReadyH.cons (o:={ dst:=some 61,op:=Op.call { callee:=Callee.value (Operand.func 26),args:=#[Operand.tmp 58,Operand.tmp 60],argTypes:=#[41,41] },type:=41,pos := "law.go:101",after:=#[{ on:=4,ground:=Ground.data },{ on:=6,ground:=Ground.data },{ on:=6,ground:=Ground.chain }],guard:=none }) rfl (fun K hK=>?_) AllReadyH.nil
    go_simp
    refine (uH KM2 _ _ _ (uH L4) (uH L3)).mono ?_
    rintro e w11 ⟨v,rfl,lv,hb⟩
    obtain ⟨n5,a5,l5,c5,E5,rfl,L⟩:=lv.ex17
    have L5:=hide L
    clear lv L
    clear L4 L3
    replace ST:=hide ((uH ST).all hb);replace H8:=hide ((uH H8).all hb);replace L1:=hide ((uH L1).below hb)
    clear hb
    go_wp2_with fail
    refine hK.out _ _ ?_ (fun hHeld=>?_)
    ·exact ⟨⟨(uH ST).hz.c0,(uH ST).hz.c1,(uH ST).hz.c2⟩,⟨(uH ST).hw.c0,(uH ST).hw.c1,(uH ST).hw.c2⟩,(uH ST).hy.c0,(uH ST).hy.c1,(uH ST).hy.c2⟩
    clear hK K
    refine wpAnyH_ready (rs:=[8]) (by kernel_rfl) (by simp) ?_
    refine AllReadyH.cons (o:={ dst:=some 62,op:=Op.call { callee:=Callee.value (Operand.func 25),args:=#[Operand.tmp 54,Operand.tmp 61],argTypes:=#[41,41] },type:=41,pos := "law.go:101",after:=#[{ on:=0,ground:=Ground.data },{ on:=7,ground:=Ground.data },{ on:=7,ground:=Ground.chain }],guard:=none }) rfl (fun K hK=>?_) AllReadyH.nil
    go_simp
    refine (uH KM3 _ _ _ (uH L1) (uH L5)).mono ?_
    rintro e w12 ⟨v,rfl,lv,hb⟩
    obtain ⟨n6,a6,l6,c6,E6,rfl,L⟩:=lv.ex17
    have L6:=hide L
    clear lv L
    clear L5 L1
    replace ST:=hide ((uH ST).all hb);replace H8:=hide ((uH H8).all hb)
    clear hb
    go_wp2_with fail
    refine hK.out _ _ ?_ (fun hHeld=>?_)
    ·exact ⟨⟨(uH ST).hz.c0,(uH ST).hz.c1,(uH ST).hz.c2⟩,⟨(uH ST).hw.c0,(uH ST).hw.c1,(uH ST).hw.c2⟩,(uH ST).hy.c0,(uH ST).hy.c1,(uH ST).hy.c2⟩
    clear hK K
    refine wpAnyH_ready (rs:=[10]) (by kernel_rfl) (by simp) ?_
    refine AllReadyH.cons (o:={ dst:=none,op:=Op.store 41 (Operand.tmp 8) (Operand.tmp 62),type:=0,pos := "law.go:101",after:=#[{ on:=9,ground:=Ground.data },{ on:=8,ground:=Ground.data },{ on:=8,ground:=Ground.chain },{ on:=0,ground:=Ground.phase },{ on:=1,ground:=Ground.phase },{ on:=2,ground:=Ground.phase },{ on:=3,ground:=Ground.phase },{ on:=4,ground:=Ground.phase },{ on:=5,ground:=Ground.phase },{ on:=6,ground:=Ground.phase },{ on:=7,ground:=Ground.phase },{ on:=8,ground:=Ground.phase },{ on:=9,ground:=Ground.phase }],guard:=none }) rfl (fun K hK=>?_) AllReadyH.nil
    have X8:=uH H8
    have f0:=X8.free 0;have f1:=X8.free 1;have f2:=X8.free 2
    have s0:=X8.c0;have s1:=X8.c1;have s2:=X8.c2
    replace ST:=hide ((uH ST).put3 X8 (uH HG7) (uH HG) (.bool n6) (.slice a6 l6 c6) (.int .i64 E6))
    replace L6:=hide (show IsLv _ _ lq z6 from IsDy.put3 (uH L6) X8 (.bool n6) (.slice a6 l6 c6) (.int .i64 E6))
    replace H8:=hide (X8.put (.bool n6) (.slice a6 l6 c6) (.int .i64 E6))
    clear X8 HG HG7
    go_simp
    clear f0 f1 f2 s0 s1 s2
    refine hK.out _ _ ?_ (fun hHeld=>?_)
    ·exact ⟨⟨(uH ST).hz.c0,(uH ST).hz.c1,(uH ST).hz.c2⟩,⟨(uH ST).hw.c0,(uH ST).hw.c1,(uH ST).hw.c2⟩,(uH ST).hy.c0,(uH ST).hy.c1,(uH ST).hy.c2⟩
    clear hK K
    refine wpAnyH_done (by kernel_rfl) ?_ _
    exact ⟨⟨_,_,_,_,n6,a6,l6,c6,E6,g8⟩,by first | rfl | simp [Act.put],uH ST,uH H8,uH L6⟩
  ·go_simp
   have ba:=below_alloc9 w7 (.cells #[.bool false,.slice none 0 0,.int .i64 0] 41)
   have HG:=hide ((uH ST).hb.size)
   have HG7:=hide ((uH ST).hz.lt)
   have H8:=hide (Box3.new w7 (.bool false) (.slice none 0 0) (.int .i64 0))
   replace ST:=hide ((uH ST).all ba);replace L1:=hide ((uH L1).below ba);replace L2:=hide ((uH L2).below ba)
   clear ba
   generalize w7.heap.size = g8 at *
   generalize w7.alloc (.cells #[.bool false,.slice none 0 0,.int .i64 0] 41) = wa at *
   refine hK.out _ _ ?_ (fun hHeld=>?_)
   ·exact ⟨⟨(uH ST).hz.c0,(uH ST).hz.c1,(uH ST).hz.c2⟩,⟨(uH ST).hw.c0,(uH ST).hw.c1,(uH ST).hw.c2⟩,(uH ST).hy.c0,(uH ST).hy.c1,(uH ST).hy.c2⟩
   clear hK K
   refine wpAnyH_ready (rs:=[4]) (by kernel_rfl) (by simp) ?_
   refine AllReadyH.cons (o:={ dst:=some 58,op:=Op.call { callee:=Callee.value (Operand.func 25),args:=#[Operand.tmp 55,Operand.tmp 57],argTypes:=#[41,41] },type:=41,pos := "law.go:101",after:=#[{ on:=1,ground:=Ground.data },{ on:=3,ground:=Ground.data },{ on:=3,ground:=Ground.chain }],guard:=none }) rfl (fun K hK=>?_) AllReadyH.nil
   go_simp
   refine (uH KM1 _ _ _ (uH L1) (uH L2)).mono ?_
   rintro e w9 ⟨v,rfl,lv,hb⟩
   obtain ⟨n4,a4,l4,c4,E4,rfl,L⟩:=lv.ex17
   have L4:=hide L
   clear lv L
   clear L2
   replace ST:=hide ((uH ST).all hb);replace H8:=hide ((uH H8).all hb);replace L1:=hide ((uH L1).below hb)
   clear hb
   go_wp2_with fail
   refine hK.out _ _ ?_ (fun hHeld=>?_)
   ·exact ⟨⟨(uH ST).hz.c0,(uH ST).hz.c1,(uH ST).hz.c2⟩,⟨(uH ST).hw.c0,(uH ST).hw.c1,(uH ST).hw.c2⟩,(uH ST).hy.c0,(uH ST).hy.c1,(uH ST).hy.c2⟩
   clear hK K
   refine wpAnyH_ready (rs:=[6]) (by kernel_rfl) (by simp) ?_
   refine AllReadyH.cons (o:={ dst:=some 60,op:=Op.call { callee:=Callee.value (Operand.func 24),args:=#[Operand.tmp 59],argTypes:=#[25] },type:=41,pos := "law.go:101",after:=#[{ on:=5,ground:=Ground.data },{ on:=4,ground:=Ground.chain }],guard:=none }) rfl (fun K hK=>?_) AllReadyH.nil
   go_simp
   refine (uH KS3 _ (uH ST).hb).mono ?_
   rintro e w10 ⟨v,rfl,lv,hb⟩
   obtain ⟨n3,a3,l3,c3,E3,rfl,L⟩:=lv.ex17
   have L3:=hide L
   clear lv L
   replace ST:=hide ((uH ST).all hb);replace H8:=hide ((uH H8).all hb);replace L1:=hide ((uH L1).below hb);replace L4:=hide ((uH L4).below hb)
   clear hb
   go_wp2_with fail
   refine hK.out _ _ ?_ (fun hHeld=>?_)
   ·exact ⟨⟨(uH ST).hz.c0,(uH ST).hz.c1,(uH ST).hz.c2⟩,⟨(uH ST).hw.c0,(uH ST).hw.c1,(uH ST).hw.c2⟩,(uH ST).hy.c0,(uH ST).hy.c1,(uH ST).hy.c2⟩
   clear hK K
   refine wpAnyH_ready (rs:=[7]) (by kernel_rfl) (by simp) ?_
   refine AllReadyH.cons (o:={ dst:=some 61,op:=Op.call { callee:=Callee.value (Operand.func 26),args:=#[Operand.tmp 58,Operand.tmp 60],argTypes:=#[41,41] },type:=41,pos := "law.go:101",after:=#[{ on:=4,ground:=Ground.data },{ on:=6,ground:=Ground.data },{ on:=6,ground:=Ground.chain }],guard:=none }) rfl (fun K hK=>?_) AllReadyH.nil
   go_simp
   refine (uH KM2 _ _ _ (uH L4) (uH L3)).mono ?_
   rintro e w11 ⟨v,rfl,lv,hb⟩
   obtain ⟨n5,a5,l5,c5,E5,rfl,L⟩:=lv.ex17
   have L5:=hide L
   clear lv L
   clear L4 L3
   replace ST:=hide ((uH ST).all hb);replace H8:=hide ((uH H8).all hb);replace L1:=hide ((uH L1).below hb)
   clear hb
   go_wp2_with fail
   refine hK.out _ _ ?_ (fun hHeld=>?_)
   ·exact ⟨⟨(uH ST).hz.c0,(uH ST).hz.c1,(uH ST).hz.c2⟩,⟨(uH ST).hw.c0,(uH ST).hw.c1,(uH ST).hw.c2⟩,(uH ST).hy.c0,(uH ST).hy.c1,(uH ST).hy.c2⟩
   clear hK K
   refine wpAnyH_ready (rs:=[8]) (by kernel_rfl) (by simp) ?_
   refine AllReadyH.cons (o:={ dst:=some 62,op:=Op.call { callee:=Callee.value (Operand.func 25),args:=#[Operand.tmp 54,Operand.tmp 61],argTypes:=#[41,41] },type:=41,pos := "law.go:101",after:=#[{ on:=0,ground:=Ground.data },{ on:=7,ground:=Ground.data },{ on:=7,ground:=Ground.chain }],guard:=none }) rfl (fun K hK=>?_) AllReadyH.nil
   go_simp
   refine (uH KM3 _ _ _ (uH L1) (uH L5)).mono ?_
   rintro e w12 ⟨v,rfl,lv,hb⟩
   obtain ⟨n6,a6,l6,c6,E6,rfl,L⟩:=lv.ex17
   have L6:=hide L
   clear lv L
   clear L5 L1
   replace ST:=hide ((uH ST).all hb);replace H8:=hide ((uH H8).all hb)
   clear hb
   go_wp2_with fail
   refine hK.out _ _ ?_ (fun hHeld=>?_)
   ·exact ⟨⟨(uH ST).hz.c0,(uH ST).hz.c1,(uH ST).hz.c2⟩,⟨(uH ST).hw.c0,(uH ST).hw.c1,(uH ST).hw.c2⟩,(uH ST).hy.c0,(uH ST).hy.c1,(uH ST).hy.c2⟩
   clear hK K
   refine wpAnyH_ready (rs:=[10]) (by kernel_rfl) (by simp) ?_
   refine AllReadyH.cons (o:={ dst:=none,op:=Op.store 41 (Operand.tmp 8) (Operand.tmp 62),type:=0,pos := "law.go:101",after:=#[{ on:=9,ground:=Ground.data },{ on:=8,ground:=Ground.data },{ on:=8,ground:=Ground.chain },{ on:=0,ground:=Ground.phase },{ on:=1,ground:=Ground.phase },{ on:=2,ground:=Ground.phase },{ on:=3,ground:=Ground.phase },{ on:=4,ground:=Ground.phase },{ on:=5,ground:=Ground.phase },{ on:=6,ground:=Ground.phase },{ on:=7,ground:=Ground.phase },{ on:=8,ground:=Ground.phase },{ on:=9,ground:=Ground.phase }],guard:=none }) rfl (fun K hK=>?_) AllReadyH.nil
   have X8:=uH H8
   have f0:=X8.free 0;have f1:=X8.free 1;have f2:=X8.free 2
   have s0:=X8.c0;have s1:=X8.c1;have s2:=X8.c2
   replace ST:=hide ((uH ST).put3 X8 (uH HG7) (uH HG) (.bool n6) (.slice a6 l6 c6) (.int .i64 E6))
   replace L6:=hide (show IsLv _ _ lq z6 from IsDy.put3 (uH L6) X8 (.bool n6) (.slice a6 l6 c6) (.int .i64 E6))
   replace H8:=hide (X8.put (.bool n6) (.slice a6 l6 c6) (.int .i64 E6))
   clear X8 HG HG7
   go_simp
   clear f0 f1 f2 s0 s1 s2
   refine hK.out _ _ ?_ (fun hHeld=>?_)
   ·exact ⟨⟨(uH ST).hz.c0,(uH ST).hz.c1,(uH ST).hz.c2⟩,⟨(uH ST).hw.c0,(uH ST).hw.c1,(uH ST).hw.c2⟩,(uH ST).hy.c0,(uH ST).hy.c1,(uH ST).hy.c2⟩
   clear hK K
   refine wpAnyH_done (by kernel_rfl) ?_ _
   exact ⟨⟨_,_,_,_,n6,a6,l6,c6,E6,g8⟩,by first | rfl | simp [Act.put],uH ST,uH H8,uH L6⟩
 ·go_simp
  have ba:=below_alloc9 (w6.drew) (.cells #[.bool false,.slice none 0 0,.int .i64 0] 41)
  have HG:=hide ((uH ST).hb.size)
  have HG7:=hide ((uH ST).hz.lt)
  have H8:=hide (Box3.new (w6.drew) (.bool false) (.slice none 0 0) (.int .i64 0))
  replace ST:=hide ((uH ST).all ba);replace L1:=hide ((uH L1).below ba)
  clear ba
  have ez:(w6.drew).heap.size = w6.heap.size:=rfl
  rw [ez] at H8 HG HG7
  clear ez
  refine hK.out _ _ ?_ (fun hHeld=>?_)
  ·exact ⟨⟨(uH ST).hz.c0,(uH ST).hz.c1,(uH ST).hz.c2⟩,⟨(uH ST).hw.c0,(uH ST).hw.c1,(uH ST).hw.c2⟩,(uH ST).hy.c0,(uH ST).hy.c1,(uH ST).hy.c2⟩
  clear hK K
  refine wpAnyH_ready (rs:=[3]) (by kernel_rfl) (by simp) ?_
  refine AllReadyH.cons (o:={ dst:=some 57,op:=Op.call { callee:=Callee.value (Operand.func 24),args:=#[Operand.tmp 56],argTypes:=#[25] },type:=41,pos := "law.go:101",after:=#[{ on:=2,ground:=Ground.data }],guard:=none }) rfl (fun K hK=>?_) AllReadyH.nil
  go_simp
  refine (uH KS2 _ xo xc (uH ST).hb (uH ST).lx).mono ?_
  rintro e w8 ⟨v,rfl,lv,hb⟩
  obtain ⟨n2,a2,l2,c2,E2,rfl,L⟩:=lv.ex17
  have L2:=hide L
  clear lv L
  replace ST:=hide ((uH ST).all hb);replace H8:=hide ((uH H8).all hb);replace L1:=hide ((uH L1).below hb)
  clear hb
  go_wp2_with fail
  refine hK.out _ _ ?_ (fun hHeld=>?_)
  ·exact ⟨⟨(uH ST).hz.c0,(uH ST).hz.c1,(uH ST).hz.c2⟩,⟨(uH ST).hw.c0,(uH ST).hw.c1,(uH ST).hw.c2⟩,(uH ST).hy.c0,(uH ST).hy.c1,(uH ST).hy.c2⟩
  clear hK K
  refine wpAnyH_ready (rs:=[4]) (by kernel_rfl) (by simp) ?_
  refine AllReadyH.cons (o:={ dst:=some 58,op:=Op.call { callee:=Callee.value (Operand.func 25),args:=#[Operand.tmp 55,Operand.tmp 57],argTypes:=#[41,41] },type:=41,pos := "law.go:101",after:=#[{ on:=1,ground:=Ground.data },{ on:=3,ground:=Ground.data },{ on:=3,ground:=Ground.chain }],guard:=none }) rfl (fun K hK=>?_) AllReadyH.nil
  go_simp
  refine (uH KM1 _ _ _ (uH L1) (uH L2)).mono ?_
  rintro e w9 ⟨v,rfl,lv,hb⟩
  obtain ⟨n4,a4,l4,c4,E4,rfl,L⟩:=lv.ex17
  have L4:=hide L
  clear lv L
  clear L2
  replace ST:=hide ((uH ST).all hb);replace H8:=hide ((uH H8).all hb);replace L1:=hide ((uH L1).below hb)
  clear hb
  go_wp2_with fail
  refine hK.out _ _ ?_ (fun hHeld=>?_)
  ·exact ⟨⟨(uH ST).hz.c0,(uH ST).hz.c1,(uH ST).hz.c2⟩,⟨(uH ST).hw.c0,(uH ST).hw.c1,(uH ST).hw.c2⟩,(uH ST).hy.c0,(uH ST).hy.c1,(uH ST).hy.c2⟩
  clear hK K
  refine wpAnyH_ready (rs:=[6]) (by kernel_rfl) (by simp) ?_
  refine AllReadyH.cons (o:={ dst:=some 60,op:=Op.call { callee:=Callee.value (Operand.func 24),args:=#[Operand.tmp 59],argTypes:=#[25] },type:=41,pos := "law.go:101",after:=#[{ on:=5,ground:=Ground.data },{ on:=4,ground:=Ground.chain }],guard:=none }) rfl (fun K hK=>?_) AllReadyH.nil
  go_simp
  refine (uH KS3 _ (uH ST).hb).mono ?_
  rintro e w10 ⟨v,rfl,lv,hb⟩
  obtain ⟨n3,a3,l3,c3,E3,rfl,L⟩:=lv.ex17
  have L3:=hide L
  clear lv L
  replace ST:=hide ((uH ST).all hb);replace H8:=hide ((uH H8).all hb);replace L1:=hide ((uH L1).below hb);replace L4:=hide ((uH L4).below hb)
  clear hb
  go_wp2_with fail
  refine hK.out _ _ ?_ (fun hHeld=>?_)
  ·exact ⟨⟨(uH ST).hz.c0,(uH ST).hz.c1,(uH ST).hz.c2⟩,⟨(uH ST).hw.c0,(uH ST).hw.c1,(uH ST).hw.c2⟩,(uH ST).hy.c0,(uH ST).hy.c1,(uH ST).hy.c2⟩
  clear hK K
  refine wpAnyH_ready (rs:=[7]) (by kernel_rfl) (by simp) ?_
  refine AllReadyH.cons (o:={ dst:=some 61,op:=Op.call { callee:=Callee.value (Operand.func 26),args:=#[Operand.tmp 58,Operand.tmp 60],argTypes:=#[41,41] },type:=41,pos := "law.go:101",after:=#[{ on:=4,ground:=Ground.data },{ on:=6,ground:=Ground.data },{ on:=6,ground:=Ground.chain }],guard:=none }) rfl (fun K hK=>?_) AllReadyH.nil
  go_simp
  refine (uH KM2 _ _ _ (uH L4) (uH L3)).mono ?_
  rintro e w11 ⟨v,rfl,lv,hb⟩
  obtain ⟨n5,a5,l5,c5,E5,rfl,L⟩:=lv.ex17
  have L5:=hide L
  clear lv L
  clear L4 L3
  replace ST:=hide ((uH ST).all hb);replace H8:=hide ((uH H8).all hb);replace L1:=hide ((uH L1).below hb)
  clear hb
  go_wp2_with fail
  refine hK.out _ _ ?_ (fun hHeld=>?_)
  ·exact ⟨⟨(uH ST).hz.c0,(uH ST).hz.c1,(uH ST).hz.c2⟩,⟨(uH ST).hw.c0,(uH ST).hw.c1,(uH ST).hw.c2⟩,(uH ST).hy.c0,(uH ST).hy.c1,(uH ST).hy.c2⟩
  clear hK K
  refine wpAnyH_ready (rs:=[8]) (by kernel_rfl) (by simp) ?_
  refine AllReadyH.cons (o:={ dst:=some 62,op:=Op.call { callee:=Callee.value (Operand.func 25),args:=#[Operand.tmp 54,Operand.tmp 61],argTypes:=#[41,41] },type:=41,pos := "law.go:101",after:=#[{ on:=0,ground:=Ground.data },{ on:=7,ground:=Ground.data },{ on:=7,ground:=Ground.chain }],guard:=none }) rfl (fun K hK=>?_) AllReadyH.nil
  go_simp
  refine (uH KM3 _ _ _ (uH L1) (uH L5)).mono ?_
  rintro e w12 ⟨v,rfl,lv,hb⟩
  obtain ⟨n6,a6,l6,c6,E6,rfl,L⟩:=lv.ex17
  have L6:=hide L
  clear lv L
  clear L5 L1
  replace ST:=hide ((uH ST).all hb);replace H8:=hide ((uH H8).all hb)
  clear hb
  go_wp2_with fail
  refine hK.out _ _ ?_ (fun hHeld=>?_)
  ·exact ⟨⟨(uH ST).hz.c0,(uH ST).hz.c1,(uH ST).hz.c2⟩,⟨(uH ST).hw.c0,(uH ST).hw.c1,(uH ST).hw.c2⟩,(uH ST).hy.c0,(uH ST).hy.c1,(uH ST).hy.c2⟩
  clear hK K
  refine wpAnyH_ready (rs:=[10]) (by kernel_rfl) (by simp) ?_
  refine AllReadyH.cons (o:={ dst:=none,op:=Op.store 41 (Operand.tmp 8) (Operand.tmp 62),type:=0,pos := "law.go:101",after:=#[{ on:=9,ground:=Ground.data },{ on:=8,ground:=Ground.data },{ on:=8,ground:=Ground.chain },{ on:=0,ground:=Ground.phase },{ on:=1,ground:=Ground.phase },{ on:=2,ground:=Ground.phase },{ on:=3,ground:=Ground.phase },{ on:=4,ground:=Ground.phase },{ on:=5,ground:=Ground.phase },{ on:=6,ground:=Ground.phase },{ on:=7,ground:=Ground.phase },{ on:=8,ground:=Ground.phase },{ on:=9,ground:=Ground.phase }],guard:=none }) rfl (fun K hK=>?_) AllReadyH.nil
  have X8:=uH H8
  have f0:=X8.free 0;have f1:=X8.free 1;have f2:=X8.free 2
  have s0:=X8.c0;have s1:=X8.c1;have s2:=X8.c2
  replace ST:=hide ((uH ST).put3 X8 (uH HG7) (uH HG) (.bool n6) (.slice a6 l6 c6) (.int .i64 E6))
  replace L6:=hide (show IsLv _ _ lq z6 from IsDy.put3 (uH L6) X8 (.bool n6) (.slice a6 l6 c6) (.int .i64 E6))
  replace H8:=hide (X8.put (.bool n6) (.slice a6 l6 c6) (.int .i64 E6))
  clear X8 HG HG7
  go_simp
  clear f0 f1 f2 s0 s1 s2
  refine hK.out _ _ ?_ (fun hHeld=>?_)
  ·exact ⟨⟨(uH ST).hz.c0,(uH ST).hz.c1,(uH ST).hz.c2⟩,⟨(uH ST).hw.c0,(uH ST).hw.c1,(uH ST).hw.c2⟩,(uH ST).hy.c0,(uH ST).hy.c1,(uH ST).hy.c2⟩
  clear hK K
  refine wpAnyH_done (by kernel_rfl) ?_ _
  exact ⟨⟨_,_,_,_,n6,a6,l6,c6,E6,w6.heap.size⟩,by first | rfl | simp [Act.put],uH ST,uH H8,uH L6⟩
end Go.Proofs.YtdhmglmccafbnaaGreatDoor
namespace Go.Proofs.YtdhmglmccafbnaaGreatDoor
theorem div_le {f a b:Rat} (hf:0 < f) (h:f * a≤f * b):a≤b:=by
 rcases Rat.le_total (a:=a) (b:=b) with g | g
 ·exact g
 ·rcases Classical.em (a = b) with e | e
  ·rw [e];exact Rat.le_refl
  ·exfalso
   have h1:b < a:=by grind
   have:=Rat.mul_lt_mul_of_pos_left h1 hf
   grind
def t3:Nat→Nat→Rat
 | 1,0=>1002 / 1000
 | 2,0=>2005 / 1000
 | 2,1=>1002 / 1000
 | 3,0=>4012 / 1000
 | 3,1=>2005 / 1000
 | 3,2=>1002 / 1000
 | _,_=>0
end Go.Proofs.YtdhmglmccafbnaaGreatDoor
namespace Go.Proofs.YtdhmglmccafbnaaGreatDoor
def msk (j:Nat) (x:Nat→Rat) (i:Nat):Rat:=if i < j then 0 else x i
end Go.Proofs.YtdhmglmccafbnaaGreatDoor
namespace Go.Proofs.YtdhmglmccafbnaaGreatDoor
open Go.RowKit
theorem topn_above (K:Int) (xs:List Nat) (hl:xs.length≤64) (h:TopV K xs) (h0:bgF 0 xs ≠ 0) (hk:eX (bgF 0 xs)≤900) :
  fFin (nrV xs) = true∧ab (fQ (nrV xs))≤17 * p2 (eX (bgF 0 xs))+p2 (-1074):=by
 obtain ⟨k,ek⟩:∃ k,eX (bgF 0 xs) = k:=⟨_,rfl⟩
 obtain ⟨s,es⟩:∃ s,ssV k 0 xs = s:=⟨_,rfl⟩
 obtain ⟨b1,b2,b3,b4,b5,b6,b7,b8,y,hy,b9,b10⟩:=top_big K xs h h0
 rw [ek] at b8 b10 hk ⊢
 have hn:nrV xs = xV (sV s) k:=by
  unfold nrV
  rw [if_neg (by rw [b2];simp [h0]),ek,es]
 have T1:1≤sqQ k xs:=by have:=sqQ_mem k xs y hy;grind
 have hl2:(xs.length:Rat)≤64:=Rat.natCast_le_natCast.2 hl
 have T2:sqQ k xs≤256:=by have:=sqQ_le k xs b8;grind
 have hlG:=Rat.mul_nonneg (show 0≤64 - (xs.length:Rat) by grind) (show 0≤sqQ k xs by grind)
 have z0:fQ 0 = 0:=fQ_nought 0 (by decide)
 obtain ⟨e1,e2,e3⟩:=ss_err k (sqQ k xs) T1 T2 xs 0 0 0 (fun x hx=>⟨(h.1 x hx).1,(h.1 x hx).2,b8 x hx⟩) (by decide) (by decide) (by grind) (by grind) (by rw [z0];unfold ab;grind)
 rw [es] at e1 e2 e3
 have e4:9007199254740992 * ab (fQ s - sqQ k xs)≤130 * sqQ k xs:=by
  have:(0:Rat)+sqQ k xs = sqQ k xs:=Rat.zero_add _
  rw [this] at e3
  grind
 have l:=le_ab (fQ s - sqQ k xs)
 have s1:1≤2 * fQ s:=by grind
 have k0:fK s ≠ 0:=fun e=>by
  have:=fQ_nought s e
  grind
 obtain ⟨r1,r2,r3,r4,r5,r6,r7⟩:=sqrt_err s e1 k0 e2
 have r8:1≤2 * fQ (sV s):=by
  rcases Rat.le_total (a:=1) (b:=2 * fQ (sV s)) with g | g
  ·exact g
  ·have:=Rat.mul_nonneg (show 0≤1 - 2 * fQ (sV s) by grind) (show 0≤1+2 * fQ (sV s) by grind)
   grind
 have r9:fQ (sV s)≤17:=by
  rcases Rat.le_total (a:=fQ (sV s)) (b:=17) with g | g
  ·exact g
  ·have:=Rat.mul_nonneg (show 0≤fQ (sV s) - 17 by grind) (show 0≤fQ (sV s)+17 by grind)
   grind
 have hpk:=p2_pos k
 have x1:ab (fQ (sV s)) * p2 k < p2 1023:=by
  rw [ab_pos r5]
  have m1:=Rat.mul_le_mul_of_nonneg_left r9 (Rat.le_of_lt hpk)
  have m2:=p2_mono (show k+1+1+1+1+1≤1023 by omega)
  simp only [p2_succ] at m2
  grind
 have hf:=scale_fin (sV s) k r3 r1 x1
 rw [hn]
 refine ⟨hf,?_⟩
 have hp:=p2_pos (-1074)
 have m1:=Rat.mul_le_mul_of_nonneg_left r9 (Rat.le_of_lt hpk)
 have q0:=Rat.mul_nonneg r5 (Rat.le_of_lt hpk)
 rcases scale_err (sV s) k r3 r1 hf with e | ⟨_,_,e⟩
 ·rw [e,ab_pos q0]
  grind
 ·have l1:=le_ab (fQ (xV (sV s) k) - fQ (sV s) * p2 k)
  have t:=ab_le (x:=fQ (xV (sV s) k)) (y:=ab (fQ (xV (sV s) k) - fQ (sV s) * p2 k)+fQ (sV s) * p2 k) (by grind) (by grind)
  generalize ab (fQ (xV (sV s) k) - fQ (sV s) * p2 k) = z at *
  grind
theorem p2_lt_of {a b:Int} (h:p2 a≤p2 b):a≤b:=by
 rcases Int.lt_or_le b a with g | g
 ·exfalso
  have k:=p2_mono (show b+1≤a by omega)
  rw [p2_succ] at k
  have:=p2_pos b
  grind
 ·exact g
theorem top_of (xs:List Nat) (hl:xs.length≤64) (hx:∀ x ∈ xs,x < 18446744073709551616∧fFin x = true∧ab (fQ x)≤p2 100) (h0:bgF 0 xs ≠ 0) (hn:p2 (-101)≤ab (fQ (nrV xs))):TopV 200 xs:=by
 obtain ⟨k,ek⟩:∃ k,eX (bgF 0 xs) = k:=⟨_,rfl⟩
 have hT:TopV (k.natAbs+1) xs:=⟨fun x h=>⟨(hx x h).1,(hx x h).2.1⟩,.inr ⟨by rw [ek];omega,by rw [ek];omega⟩⟩
 obtain ⟨b1,b2,b3,b4,b5,b6,b7,b8,y,hy,b9,b10⟩:=top_big _ xs hT h0
 have hM:=eX_top _ (by omega) b2 b3
 rw [ek,ab_pos (fQ_pos _ b4),← b9] at hM
 have hy2:=(hx y hy).2.2
 have k1:k≤100:=p2_lt_of (Rat.le_trans hM.1 hy2)
 obtain ⟨_,t2⟩:=topn_above _ xs hl hT h0 (by rw [ek];omega)
 rw [ek] at t2
 refine ⟨hT.1,.inr ⟨?_,by rw [ek];omega⟩⟩
 rw [ek]
 rcases Int.lt_or_le k (-200) with g | g
 ·exfalso
  have m1:=p2_mono (show k+1≤-200 by omega)
  rw [p2_succ] at m1
  have m2:=p2_mono (show (-1074:Int)≤-200 by decide)
  have m3:=p2_mono (show (-200+1+1+1+1+1:Int)≤-101 by decide)
  simp only [p2_succ] at m3
  have:=p2_pos (-200)
  grind
 ·omega
end Go.Proofs.YtdhmglmccafbnaaGreatDoor
namespace Go.Proofs.YtdhmglmccafbnaaGreatDoor
open Go.RowKit
def sbV:Nat→List Nat→List Nat→Nat
 | s,x :: xs,y :: ys=>sbV (aV s (fN (mV x y))) xs ys
 | s,_,_=>s
theorem sb_step (s x y:Nat) (T W H:Rat) (fs:fFin s = true) (fx:fFin x = true) (fy:fFin y = true) (hW0:0≤W) (hW:W≤p2 1000) (hη:9007199254740992 * (4 * p2 (-1075))≤W)
  (hT:ab T+ab (fQ x * fQ y)≤W) (hH:H≤192 * W) (he:9007199254740992 * ab (fQ s - T)≤H) :
  fFin (aV s (fN (mV x y))) = true∧9007199254740992 * ab (fQ (aV s (fN (mV x y))) - (T - fQ x * fQ y))≤H+3 * W:=by
 have T0:=ab_0 T;have xy0:=ab_0 (fQ x * fQ y)
 have hB:16 * p2 1000≤p2 1023∧0 < p2 1000:=by
  have h1:=p2_mono (show (1000+1+1+1+1:Int)≤1023 by decide)
  simp only [p2_succ] at h1
  exact ⟨by grind,p2_pos _⟩
 obtain ⟨B1,B2⟩:=hB
 obtain ⟨n1,n2,n3⟩:=eta_small
 obtain ⟨f1,e1⟩:=mul_err2 x y fx fy (by grind)
 have l1:=le_ab (fQ (mV x y) - fQ x * fQ y);have l2:=le_ab (fQ s - T);have l3:=le_ab T;have l4:=le_ab (fQ x * fQ y)
 have tt:=ab_le (x:=fQ s+-fQ (mV x y)) (y:=ab (fQ s - T)+ab (fQ (mV x y) - fQ x * fQ y)+ab T+ab (fQ x * fQ y)) (by grind) (by grind)
 have pl:=mV_lt x y
 have fn:fFin (fN (mV x y)) = true:=by rw [fFin_fN _ pl];exact f1
 have qn:=fQ_fN _ pl
 have fa:=add_fin s (fN (mV x y)) fs fn (by rw [qn];grind)
 have ea:=add_err s (fN (mV x y)) fs fn fa
 rw [qn] at ea
 refine ⟨fa,?_⟩
 have l5:=le_ab (fQ (aV s (fN (mV x y))) - (fQ s+-fQ (mV x y)))
 have ll:=ab_le (x:=fQ (aV s (fN (mV x y))) - (T - fQ x * fQ y)) (y:=ab (fQ (aV s (fN (mV x y))) - (fQ s+-fQ (mV x y)))+ab (fQ (mV x y) - fQ x * fQ y)+ab (fQ s - T)) (by grind) (by grind)
 clear l1 l2 l3 l4 l5
 generalize ab (fQ (aV s (fN (mV x y))) - (T - fQ x * fQ y)) = z0 at *
 generalize ab (fQ (aV s (fN (mV x y))) - (fQ s+-fQ (mV x y))) = z1 at *
 generalize ab (fQ (mV x y) - fQ x * fQ y) = z2 at *
 generalize ab (fQ s - T) = z3 at *
 generalize ab (fQ s+-fQ (mV x y)) = z4 at *
 generalize ab (fQ x * fQ y) = z5 at *
 generalize ab T = z6 at *
 generalize p2 (-1075) = η at *
 grind
theorem sb_err (W:Rat) (hW0:0≤W) (hW:W≤p2 1000) (hη:9007199254740992 * (4 * p2 (-1075))≤W):∀ (xs ys:List Nat) (s:Nat) (T H:Rat),(∀ x ∈ xs,fFin x = true)→(∀ y ∈ ys,fFin y = true)→fFin s = true →
  ab T+daQ xs ys≤W→H+3 * ((xs.length:Rat) * W)≤192 * W→9007199254740992 * ab (fQ s - T)≤H →
  fFin (sbV s xs ys) = true∧9007199254740992 * ab (fQ (sbV s xs ys) - (T - dtQ xs ys))≤H+3 * ((xs.length:Rat) * W):=by
 intro xs
 induction xs with
 | nil =>
  intro ys s T H _ _ fs _ _ he
  have e1:sbV s [] ys = s:=by cases ys <;> rfl
  have e2:dtQ [] ys = 0:=by cases ys <;> rfl
  have e3:(([]:List Nat).length:Rat) = 0:=rfl
  rw [e1,e2,e3,show T - 0 = T by grind]
  exact ⟨fs,by grind⟩
 | cons x xs ih =>
  intro ys s T H hx hy fs hT hH he
  have e3:((x :: xs).length:Rat) = (xs.length:Rat)+1:=by rw [List.length_cons,Rat.natCast_add];rfl
  have l0:0≤(xs.length:Rat) * W:=Rat.mul_nonneg Rat.natCast_nonneg hW0
  have e4:((x :: xs).length:Rat) * W = (xs.length:Rat) * W+W:=by rw [e3];grind
  cases ys with
  | nil =>
   have e1:sbV s (x :: xs) [] = s:=rfl
   have e2:dtQ (x :: xs) [] = 0:=rfl
   rw [e1,e2,e4,show T - 0 = T by grind]
   exact ⟨fs,by grind⟩
  | cons y ys =>
   have e1:sbV s (x :: xs) (y :: ys) = sbV (aV s (fN (mV x y))) xs ys:=rfl
   have e2:dtQ (x :: xs) (y :: ys) = fQ x * fQ y+dtQ xs ys:=rfl
   have e5:daQ (x :: xs) (y :: ys) = ab (fQ x * fQ y)+daQ xs ys:=rfl
   have d0:=daQ_0 xs ys
   rw [e5] at hT
   rw [e4] at hH ⊢
   obtain ⟨g1,g2⟩:=sb_step s x y T W H fs (hx x List.mem_cons_self) (hy y List.mem_cons_self) hW0 hW hη (by grind) (by grind) he
   have ht:=ab_le (x:=T - fQ x * fQ y) (y:=ab T+ab (fQ x * fQ y)) (by have:=le_ab T;have:=le_ab (fQ x * fQ y);grind) (by have:=le_ab T;have:=le_ab (fQ x * fQ y);grind)
   obtain ⟨i1,i2⟩:=ih ys (aV s (fN (mV x y))) (T - fQ x * fQ y) (H+3 * W) (fun z hz=>hx z (List.mem_cons_of_mem _ hz)) (fun z hz=>hy z (List.mem_cons_of_mem _ hz)) g1 (by grind) (by grind) g2
   rw [e1,e2]
   refine ⟨i1,?_⟩
   rw [show T - (fQ x * fQ y+dtQ xs ys) = T - fQ x * fQ y - dtQ xs ys by grind]
   grind
theorem sb_lt:∀ (xs ys:List Nat) (s:Nat),s < 18446744073709551616→sbV s xs ys < 18446744073709551616:=by
 intro xs
 induction xs with
 | nil=>intro ys s h;cases ys <;> exact h
 | cons x xs ih =>
  intro ys s h
  cases ys with
  | nil=>exact h
  | cons y ys=>exact ih ys _ (aV_lt _ _ h (fN_lt _ (mV_lt _ _)))
end Go.Proofs.YtdhmglmccafbnaaGreatDoor
namespace Go.Proofs.YtdhmglmccafbnaaGreatDoor
open Go.RowKit
theorem div_finB (a b:Nat) (ha:a < 18446744073709551616) (hb:b < 18446744073709551616) (fa:fFin a = true) (fb:fFin b = true) (a0:fK a ≠ 0) (b0:fK b ≠ 0) (h:ab (fQ a)≤p2 1000 * ab (fQ b)):fFin (dV a b) = true:=by
 obtain ⟨q1,q2⟩:=quo_near a b ha hb fa fb a0 b0
 have hb1:=eX_top b hb fb b0
 have hbp:=p2_pos (eX b)
 have hlt:xE (qS a b) (fX a - fX b - 181) < p2 1023:=by
  have hB:16 * p2 1000≤p2 1023∧0 < p2 1000:=by
   have h1:=p2_mono (show (1000+1+1+1+1:Int)≤1023 by decide)
   simp only [p2_succ] at h1
   exact ⟨by grind,p2_pos _⟩
  generalize xE (qS a b) (fX a - fX b - 181) = X at *
  rcases Rat.le_total (a:=X) (b:=2 * p2 1000) with g | g
  ·grind
  ·exfalso
   have B0:0 < ab (fQ b):=by grind
   have hm:=Rat.mul_le_mul_of_nonneg_left g (Rat.le_of_lt B0)
   have hp:=Rat.mul_pos hB.2 B0
   have hc:ab (fQ b) * X = X * ab (fQ b):=Rat.mul_comm _ _
   have hc2:ab (fQ b) * (2 * p2 1000) = 2 * (p2 1000 * ab (fQ b)):=by grind
   rw [hc,hc2] at hm
   generalize X * ab (fQ b) = XB at *
   generalize p2 1000 * ab (fQ b) = PB at *
   generalize ab (fQ a) = A at *
   clear hb1 q2
   grind
 have:=rnd_finite _ _ hlt
 have hle:qV a b≤9218868437227405312:=rnd_le _ _
 exact (fK_rungs _).2.2.2 (by rw [(dV_fin a b fa fb a0 b0).1,fR_wrd _ _ (by omega)];exact this)
theorem div_errB (a b:Nat) (ha:a < 18446744073709551616) (hb:b < 18446744073709551616) (fa:fFin a = true) (fb:fFin b = true) (b0:fK b ≠ 0) (h:ab (fQ a)≤p2 1000 * ab (fQ b)) :
  fFin (dV a b) = true∧9007199254740992 * ab (fQ (dV a b) * fQ b - fQ a)≤2 * ab (fQ a)+9007199254740992 * (p2 (-1075) * ab (fQ b)):=by
 have z0:=Rat.mul_nonneg (Rat.le_of_lt (p2_pos (-1075))) (ab_0 (fQ b))
 have h0:=ab_0 (fQ a)
 by_cases a0:fK a = 0
 ·have q:=fQ_nought a a0
  obtain ⟨b3,b4⟩:=fin_kind fb
  have e:dV a b = wrd (fS a ^^ fS b) 0:=by
   unfold dV
   rw [if_neg (by rintro (k | k);omega;exact b4 k),if_neg (by rintro ⟨k,_⟩;omega),if_neg (by omega),if_pos (.inr a0)]
  have e2:fFin (dV a b) = true∧fQ (dV a b) = 0:=by
   rw [e]
   cases fS a ^^ fS b
   ·rw [wrd_false];exact ⟨by decide,fQ_0⟩
   ·rw [wrd_true];exact ⟨by decide,fQ_nought _ (by decide)⟩
  refine ⟨e2.1,?_⟩
  rw [e2.2,q,show (0:Rat) * fQ b - 0 = 0 by grind,show ab (0:Rat) = 0 by unfold ab;grind]
  grind
 ·have hf:=div_finB a b ha hb fa fb a0 b0 h
  refine ⟨hf,?_⟩
  have h1:=ab_0 (fQ (dV a b) * fQ b - fQ a)
  rcases div_err a b ha hb fa fb a0 b0 hf with e | e
  ·grind
  ·have:=e.2
   generalize p2 (-1075) * ab (fQ b) = z at *
   grind
theorem tri_row (d r:Nat) (W:Rat) (rs xs:List Nat) (hl:rs.length≤6) (hd:d < 18446744073709551616) (hr:r < 18446744073709551616) (fd:fFin d = true) (fr:fFin r = true) (r0:fK r ≠ 0)
  (hrs:∀ x ∈ rs,fFin x = true) (hxs:∀ x ∈ xs,fFin x = true) (hW:W≤p2 1000) (hη:9007199254740992 * (4 * p2 (-1075))≤W) (hη2:9007199254740992 * (p2 (-1075) * ab (fQ r))≤W)
  (hs:ab (fQ d)+daQ rs xs≤W) (hq:2 * W≤p2 1000 * ab (fQ r)) :
  fFin (dV (sbV d rs xs) r) = true∧dV (sbV d rs xs) r < 18446744073709551616∧9007199254740992 * ab (fQ d - (fQ (dV (sbV d rs xs) r) * fQ r+dtQ rs xs))≤23 * W∧ab (fQ (dV (sbV d rs xs) r) * fQ r)≤2 * W:=by
 have hp:=p2_pos (-1075)
 have hW0:0≤W:=by grind
 have a0:ab (0:Rat) = 0:=by unfold ab;grind
 have hl2:(rs.length:Rat)≤6:=Rat.natCast_le_natCast.2 hl
 have hlW:=Rat.mul_nonneg (show 0≤6 - (rs.length:Rat) by grind) hW0
 obtain ⟨f1,e1⟩:=sb_err W hW0 hW hη rs xs d (fQ d) 0 hrs hxs fd hs (by grind) (by rw [show fQ d - fQ d = 0 by grind,a0];grind)
 have l1:=sb_lt rs xs d hd
 generalize sbV d rs xs = s at *
 have e2:9007199254740992 * ab (fQ s - (fQ d - dtQ rs xs))≤18 * W:=by grind
 have dl:=dtQ_le rs xs
 have k1:=le_ab (fQ s - (fQ d - dtQ rs xs));have k2:=le_ab (fQ d);have k3:=le_ab (dtQ rs xs)
 have hsz:=ab_le (x:=fQ s) (y:=ab (fQ s - (fQ d - dtQ rs xs))+ab (fQ d)+ab (dtQ rs xs)) (by grind) (by grind)
 have hsW:1000 * ab (fQ s)≤1001 * W:=by grind
 obtain ⟨g1,g2⟩:=div_errB s r l1 hr f1 fr r0 (by grind)
 have k4:=le_ab (fQ (dV s r) * fQ r - fQ s);have k5:=le_ab (fQ s)
 refine ⟨g1,dV_lt s r,?_,?_⟩
 ·have t:=ab_le (x:=fQ d - (fQ (dV s r) * fQ r+dtQ rs xs)) (y:=ab (fQ s - (fQ d - dtQ rs xs))+ab (fQ (dV s r) * fQ r - fQ s)) (by grind) (by grind)
  grind
 ·have t:=ab_le (x:=fQ (dV s r) * fQ r) (y:=ab (fQ (dV s r) * fQ r - fQ s)+ab (fQ s)) (by grind) (by grind)
  grind
end Go.Proofs.YtdhmglmccafbnaaGreatDoor
namespace Go.Proofs.YtdhmglmccafbnaaGreatDoor
open Go.RowKit
theorem top_partsA (K:Int) (xs:List Nat) (hl:xs.length≤64) (h:TopV K xs) (h0:bgF 0 xs ≠ 0) (hk:eX (bgF 0 xs)≤900) :
  ∃ s,ssV (eX (bgF 0 xs)) 0 xs = s∧nrV xs = xV (sV s) (eX (bgF 0 xs))∧fFin s = true∧fS s = false∧fK s ≠ 0∧1≤sqQ (eX (bgF 0 xs)) xs∧sqQ (eX (bgF 0 xs)) xs≤256∧fFin (nrV xs) = true ∧
  (fQ (nrV xs) = fQ (sV s) * p2 (eX (bgF 0 xs)) ∨ 2 * ab (fQ (nrV xs) - fQ (sV s) * p2 (eX (bgF 0 xs)))≤p2 (-1074)):=by
 obtain ⟨k,ek⟩:∃ k,eX (bgF 0 xs) = k:=⟨_,rfl⟩
 obtain ⟨s,es⟩:∃ s,ssV k 0 xs = s:=⟨_,rfl⟩
 obtain ⟨b1,b2,b3,b4,b5,b6,b7,b8,y,hy,b9,b10⟩:=top_big K xs h h0
 rw [ek] at b8 b10 hk ⊢
 have hn:nrV xs = xV (sV s) k:=by
  unfold nrV
  rw [if_neg (by rw [b2];simp [h0]),ek,es]
 have T1:1≤sqQ k xs:=by have:=sqQ_mem k xs y hy;grind
 have hl2:(xs.length:Rat)≤64:=Rat.natCast_le_natCast.2 hl
 have T2:sqQ k xs≤256:=by have:=sqQ_le k xs b8;grind
 have hlG:=Rat.mul_nonneg (show 0≤64 - (xs.length:Rat) by grind) (show 0≤sqQ k xs by grind)
 have z0:fQ 0 = 0:=fQ_nought 0 (by decide)
 obtain ⟨e1,e2,e3⟩:=ss_err k (sqQ k xs) T1 T2 xs 0 0 0 (fun x hx=>⟨(h.1 x hx).1,(h.1 x hx).2,b8 x hx⟩) (by decide) (by decide) (by grind) (by grind) (by rw [z0];unfold ab;grind)
 rw [es] at e1 e2 e3
 have e4:9007199254740992 * ab (fQ s - sqQ k xs)≤130 * sqQ k xs:=by
  have:(0:Rat)+sqQ k xs = sqQ k xs:=Rat.zero_add _
  rw [this] at e3
  grind
 have l:=le_ab (fQ s - sqQ k xs)
 have s1:1≤2 * fQ s:=by grind
 have k0:fK s ≠ 0:=fun e=>by
  have:=fQ_nought s e
  grind
 obtain ⟨r1,r2,r3,r4,r5,r6,r7⟩:=sqrt_err s e1 k0 e2
 have r8:1≤2 * fQ (sV s):=by
  rcases Rat.le_total (a:=1) (b:=2 * fQ (sV s)) with g | g
  ·exact g
  ·have:=Rat.mul_nonneg (show 0≤1 - 2 * fQ (sV s) by grind) (show 0≤1+2 * fQ (sV s) by grind)
   grind
 have r9:fQ (sV s)≤17:=by
  rcases Rat.le_total (a:=fQ (sV s)) (b:=17) with g | g
  ·exact g
  ·have:=Rat.mul_nonneg (show 0≤fQ (sV s) - 17 by grind) (show 0≤fQ (sV s)+17 by grind)
   grind
 have hpk:=p2_pos k
 have x1:ab (fQ (sV s)) * p2 k < p2 1023:=by
  rw [ab_pos r5]
  have m1:=Rat.mul_le_mul_of_nonneg_left r9 (Rat.le_of_lt hpk)
  have m2:=p2_mono (show k+1+1+1+1+1≤1023 by omega)
  simp only [p2_succ] at m2
  grind
 have hf:=scale_fin (sV s) k r3 r1 x1
 refine ⟨s,es,hn,e1,e2,k0,T1,T2,by rw [hn];exact hf,?_⟩
 rw [hn]
 rcases scale_err (sV s) k r3 r1 hf with e | ⟨_,_,e⟩
 ·exact .inl e
 ·exact .inr e
theorem norm_geA (K:Int) (xs:List Nat) (hl:xs.length≤64) (h:TopV K xs) (h0:bgF 0 xs ≠ 0) (hk:eX (bgF 0 xs)≤900):1125899906842624 * (fQ (bgF 0 xs) - fQ (nrV xs))≤3 * fQ (bgF 0 xs):=by
 obtain ⟨s,es,hn,n2,n3,n4,n5,T2,hf,hsc⟩:=top_partsA K xs hl h h0 hk
 obtain ⟨b1,b2,b3,b4,b5,b6,b7,b8,y,hy,b9,b10⟩:=top_big K xs h h0
 obtain ⟨r1,r2,r3,r4,r5,r6,r7⟩:=sqrt_err _ n2 n4 n3
 clear hn
 have hl2:(xs.length:Rat)≤64:=Rat.natCast_le_natCast.2 hl
 have hlG:=Rat.mul_nonneg (show 0≤64 - (xs.length:Rat) by grind) (show 0≤sqQ (eX (bgF 0 xs)) xs by grind)
 have z0:fQ 0 = 0:=fQ_nought 0 (by decide)
 obtain ⟨g1,g2⟩:=ss_ge (eX (bgF 0 xs)) _ n5 T2 xs 0 0 0 (fun x hx=>⟨(h.1 x hx).1,(h.1 x hx).2,b8 x hx⟩) (by decide) (by decide) (by decide) (by grind) (by grind) (by rw [z0];unfold ab;grind)
 have g3:=g2 y hy
 obtain ⟨p1,p2',p3⟩:=sq_one _ y (h.1 y hy).1 (h.1 y hy).2 (b8 y hy)
 obtain ⟨t1,t2,t3⟩:=eta_small
 have hp:=p2_pos (eX (bgF 0 xs))
 have hpp:=p2_neg (eX (bgF 0 xs))
 have eB:fQ (bgF 0 xs) = ab (dQ (eX (bgF 0 xs)) y) * p2 (eX (bgF 0 xs)):=by
  unfold dQ
  rw [ab_mul,ab_pos (Rat.le_of_lt (p2_pos _)),b9,Rat.mul_assoc,hpp,Rat.mul_one]
 have eD:dQ (eX (bgF 0 xs)) y * dQ (eX (bgF 0 xs)) y = ab (dQ (eX (bgF 0 xs)) y) * ab (dQ (eX (bgF 0 xs)) y):=by
  rw [← ab_mul];exact (ab_pos (sq_nonneg _)).symm
 have m0:=ab_0 (dQ (eX (bgF 0 xs)) y)
 have l:=le_ab (fQ (mV (xV y (-eX (bgF 0 xs))) (xV y (-eX (bgF 0 xs)))) - dQ (eX (bgF 0 xs)) y * dQ (eX (bgF 0 xs)) y)
 rw [eD] at p3 l b10
 generalize fQ (mV (xV y (-eX (bgF 0 xs))) (xV y (-eX (bgF 0 xs)))) = P at *
 rw [es] at g3
 generalize fQ s = S at *
 generalize fQ (sV s) = R at *
 generalize ab (dQ (eX (bgF 0 xs)) y) = d at *
 clear g1 g2 b7 b8
 generalize p2 (-1075) = η at *
 -- R^2 is at least d^2 but for five parts in 2^53
 have e1:9007199254740992 * (d * d)≤9007199254740992 * (R * R)+6 * (d * d):=by
  generalize ab (P - d * d) = A at *
  generalize d * d = D at *
  generalize R * R = RR at *
  grind
 have e2:1125899906842624 * (d - R)≤d:=by
  rcases Rat.le_total (a:=1125899906842624 * (d - R)) (b:=d) with g | g
  ·exact g
  ·have c1:=Rat.mul_nonneg (show 0≤1125899906842624 * (d - R) - d by grind) m0
   have c2:=Rat.mul_nonneg (show 0≤1125899906842624 * (d - R) - d by grind) r5
   grind
 have e3:=Rat.mul_le_mul_of_nonneg_left e2 (Rat.le_of_lt hp)
 have e4:1125899906842624 * (fQ (bgF 0 xs) - R * p2 (eX (bgF 0 xs)))≤fQ (bgF 0 xs):=by rw [eB];grind
 have B0:=fQ_pos _ b4
 rcases hsc with e | e
 ·rw [e]
  grind
 ·have q:=p2_pos (-1074)
  have l2:=le_ab (fQ (nrV xs) - R * p2 (eX (bgF 0 xs)))
  have e5:1125899906842624 * (fQ (bgF 0 xs) - fQ (nrV xs))≤fQ (bgF 0 xs)+562949953421312 * p2 (-1074):=by grind
  clear e4 e3 e l2
  unfold fQ at e5 B0 ⊢
  generalize fZ (bgF 0 xs) = M at *
  generalize fZ (nrV xs) = N at *
  have k1:1125899906842624 * ((M:Rat) - (N:Rat))≤(M:Rat)+562949953421312:=by
   refine Rat.le_of_mul_le_mul_right (c:=p2 (-1074)) ?_ q
   grind
  have k2:(((1125899906842624 * (M - N):Int)):Rat)≤((M+562949953421312:Int):Rat):=by
   rw [Rat.intCast_mul,Rat.intCast_sub,Rat.intCast_add]
   exact k1
  have k3:=Rat.intCast_le_intCast.1 k2
  have M0:0≤M:=by
   rcases Int.lt_or_le M 0 with g | g
   ·exfalso
    have k:((M:Int):Rat) < 0:=Rat.intCast_lt_intCast.2 g
    have:=Rat.mul_pos (show 0 < -((M:Int):Rat) by grind) q
    grind
   ·exact g
  have k4:1125899906842624 * (M - N)≤3 * M:=by
   rcases Int.lt_or_le 281474976710656 M with g | g
   ·omega
   ·have:M - N≤0:=by omega
    omega
  have k5:(((1125899906842624 * (M - N):Int)):Rat)≤((3 * M:Int):Rat):=Rat.intCast_le_intCast.2 k4
  rw [Rat.intCast_mul,Rat.intCast_sub,Rat.intCast_mul] at k5
  have k6:1125899906842624 * ((M:Rat) - (N:Rat))≤3 * (M:Rat):=k5
  have m:=Rat.mul_le_mul_of_nonneg_right k6 (Rat.le_of_lt q)
  grind
end Go.Proofs.YtdhmglmccafbnaaGreatDoor
