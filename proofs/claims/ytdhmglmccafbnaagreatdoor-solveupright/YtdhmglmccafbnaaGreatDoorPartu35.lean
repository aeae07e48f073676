/- Part 35 of the texts. -/
import Derived.Test.YtdhmglmccafbnaaGreatDoorPartu34
import Derived.Test.YtdhmglmccafbnaaGreatDoorPartu33
import Derived.Test.YtdhmglmccafbnaaGreatDoorPartu32
import Derived.Test.YtdhmglmccafbnaaGreatDoorPartu26
import Derived.Test.YtdhmglmccafbnaaGreatDoorPartu28
import Derived.Test.YtdhmglmccafbnaaGreatDoorPartu22
import Derived.Test.YtdhmglmccafbnaaGreatDoorPartu25
import Derived.Test.YtdhmglmccafbnaaGreatDoorPartu29
import Derived.Test.YtdhmglmccafbnaaGreatDoorPartu15
import Derived.Test.YtdhmglmccafbnaaGreatDoorPartu31
import Derived.Deep.RegionHeld3
import Derived.Test.YtdhmglmccafbnaaGreatDoorPartu27
import Derived.Test.YtdhmglmccafbnaaGreatDoorPartu04
import Derived.Maps.AppendAt
import Derived.OwnWalk
import Derived.Test.YtdhmglmccafbnaaGreatDoorPartu20
import Derived.Deep.RegionWith
import Derived.Test.YtdhmglmccafbnaaGreatDoorPartu23
import Derived.Test.YtdhmglmccafbnaaGreatDoorPartu30
import Derived.Test.YtdhmglmccafbnaaGreatDoorPartu18
set_option maxHeartbeats 8000000
set_option maxRecDepth 20000
namespace Go.Proofs.YtdhmglmccafbnaaGreatDoor
open Go.RowKit
attribute [local go_sem ↓] Go.wp_at_zero Go.wp_at_succ
theorem upper_of (r c p q f:Int) (ao bo:Option Addr) (k cap m d n u:Nat) (M:List Nat) (w:World)
  (C1:∀ w',Below w.heap.size w w'→Calls Tryz.prog 56 #[.agg #[.int .i64 r,.int .i64 c,.slice ao k cap],.agg #[.int .i64 p,.int .i64 q,.slice bo m d],.func (.func 57) #[.int .i64 r] #[],.func (.func 58) #[] #[]] w' fun e w''=>SvAns w' w'' f n u M e∧Below w'.heap.size w' w'') :
  Calls Tryz.prog 16 #[.agg #[.int .i64 r,.int .i64 c,.slice ao k cap],.agg #[.int .i64 p,.int .i64 q,.slice bo m d]] w fun e w'=>SvAns w w' f n u M e∧Below w.heap.size w w':=by
 have KB:=hide (boxes3_17 w (.int .i64 r) (.int .i64 c) (.slice ao k cap) (.int .i64 p) (.int .i64 q) (.slice bo m d) (.int .i64 0) (.int .i64 0) (.slice none 0 0))
 obtain ⟨b0,x0,x1,x2⟩:=uH KB _ (by have:=Below.refl (((w.alloc (.cells #[.int .i64 r,.int .i64 c,.slice ao k cap] 25)).alloc (.cells #[.int .i64 p,.int .i64 q,.slice bo m d] 25)).alloc (.cells #[.int .i64 0,.int .i64 0,.slice none 0 0] 25)).heap.size (((w.alloc (.cells #[.int .i64 r,.int .i64 c,.slice ao k cap] 25)).alloc (.cells #[.int .i64 p,.int .i64 q,.slice bo m d] 25)).alloc (.cells #[.int .i64 0,.int .i64 0,.slice none 0 0] 25));simpa only [size_alloc9] using this)
 have K1:=hide (C1 _ b0)
 have HB:=hide b0;have HR:=hide x2
 have y0:=x0.c0;have y1:=x0.c1;have y2:=x0.c2;have u0:=x1.c0;have u1:=x1.c1;have u2:=x1.c2
 clear C1 KB b0 x0 x1 x2
 go_enter Tryz.func16,Tryz.ntmps16
 go_wp2_with fail
 clear y0 y1 y2 u0 u1 u2
 refine (uH K1).mono ?_
 rintro e w1 ⟨hans,hb⟩
 replace HR:=hide ((uH HR).all hb)
 have HB0:=hide (uH HB).size
 replace HB:=hide ((uH HB).trans (hb.mono (uH HB).size))
 clear hb K1
 rcases hans with ⟨rfl,xo,xc,rfl,hn,hq,hl,hf⟩ | ⟨hf,rfl⟩
 ·have HN:=hide (hn.least (uH HB0))
  have HQ:=hide hq
  have HL:=hide hl;have HF:=hide hf
  obtain ⟨L,hL⟩:∃ L,n * u = L:=⟨_,rfl⟩
  rw [hL]
  have EL:=hide hL
  have X3:=uH HR
  have f0:=X3.free 0;have f1:=X3.free 1;have f2:=X3.free 2
  have s0:=X3.c0;have s1:=X3.c1;have s2:=X3.c2
  have XP:=X3.put (.int .i64 n) (.int .i64 u) (.slice xo L xc)
  have z0:=XP.c0;have z1:=XP.c1;have z2:=XP.c2
  have BP:=hide (below_putM (uH HB) (b:=w.heap.size+1+1) (by omega) (.int .i64 n) (.int .i64 u) (.slice xo L xc))
  have QP:=hide ((uH HQ).putM X3 (.int .i64 n) (.int .i64 u) (.slice xo L xc))
  clear XP X3 hn hq hl hf hL
  go_wp2_with fail
  exact bodyPost_ret (v:=.tuple #[.agg #[.int .i64 n,.int .i64 u,.slice xo L xc],.int .i64 0]) (by simp [results,Tryz.results16,go_sem,z0,z1,z2]) rfl ⟨.inl ⟨rfl,xo,xc,by rw [uH EL],uH HN,uH QP,uH HL,uH HF⟩,uH BP⟩
 ·have X3:=uH HR
  have f0:=X3.free 0;have f1:=X3.free 1;have f2:=X3.free 2
  have s0:=X3.c0;have s1:=X3.c1;have s2:=X3.c2
  have XP:=X3.put (.int .i64 0) (.int .i64 0) (.slice none 0 0)
  have z0:=XP.c0;have z1:=XP.c1;have z2:=XP.c2
  have BP:=hide (below_putM (uH HB) (b:=w.heap.size+1+1) (by omega) (.int .i64 0) (.int .i64 0) (.slice none 0 0))
  have HF:=hide hf
  clear XP X3 hf
  go_wp2_with fail
  exact bodyPost_ret (v:=.tuple #[.agg #[.int .i64 0,.int .i64 0,.slice none 0 0],.int .i64 f]) (by simp [results,Tryz.results16,go_sem,z0,z1,z2]) rfl ⟨.inr ⟨uH HF,rfl⟩,uH BP⟩
theorem upper_mx (n q tc bc:Nat) (tq bo:Option Addr) (T B:List Nat) (w:World) (hT:Mx w tq tc n n T) (hB:Mx w bo bc n q B) (fT:finL T = true) (fB:finL B = true) (hTab:Tab w) :
  Calls Tryz.prog 16 #[.agg #[.int .i64 n,.int .i64 n,.slice tq T.length tc],.agg #[.int .i64 n,.int .i64 q,.slice bo B.length bc]] w fun e w'=>SvAns w w' (usE n T (upM n q T B)) n q (upM n q T B) e∧Below w.heap.size w w' :=
 upper_of n n n q (usE n T (upM n q T B)) tq bo T.length tc B.length bc n q (upM n q T B) w (fun w' hb=>solved_mx n q tc bc 57 58 tq bo T B (fun m=>n - 1 - m) dnU w' (hT.below hb) (hB.below hb) fT fB (ord_last n) cfLast cfUp1 (fun w' m hm=>fromLast_any n m w' hT.2.2.1 hm) (fun w' i k _ _=>up1_any i k w') (hTab.all hb))
theorem upper_no (r c p q:Int) (ao bo:Option Addr) (cap d:Nat) (I J:List Int) (w:World) (hI:BitsAt w ao cap I) (hJ:BitsAt w bo d J) (hi:I.length≤35184372088830) (hj:J.length≤35184372088830) (h:trE17 r c p q I J ≠ 0) :
  Calls Tryz.prog 16 #[.agg #[.int .i64 r,.int .i64 c,.slice ao I.length cap],.agg #[.int .i64 p,.int .i64 q,.slice bo J.length d]] w fun e w'=>SvAns w w' (trE17 r c p q I J) 0 0 [] e∧Below w.heap.size w w' :=
 upper_of r c p q (trE17 r c p q I J) ao bo I.length cap J.length d 0 0 [] w (fun w' hb=>(solved_no r c p q ao bo cap d I J _ _ w' (hI.below hb) (hJ.below hb) hi hj h).mono (by
  rintro e w'' ⟨rfl,hb2⟩
  exact ⟨.inr ⟨h,rfl⟩,hb2⟩))
theorem bg_dg (D:List Nat):bgK (mxL D) D.length = bgF 0 D:=by
 have:=bgK_all (mxL D)
 rwa [mxL_len,toN_mxL] at this
theorem bgF_lt17 (D:List Nat):bgF 0 D < 18446744073709551616:=by
 rw [← bg_dg]
 exact bgK_lt _ _
theorem fR_lt17 (a:Nat):fR a < 18446744073709551616:=by unfold fR;omega
theorem flat_any (r c cap:Nat) (ao:Option Addr) (S:List Nat) (w:World) (h:Mx w ao cap r c S) (hf:finL S = true) (hT:Tab w) :
  Calls Tryz.prog 70 #[.agg #[.int .i64 r,.int .i64 c,.slice ao S.length cap]] w fun e w'=>e = .returned (.tuple #[.bool (ftB r c S),.int .i64 0])∧Below w.heap.size w w':=by
 have h36:=h.small
 have r6:=h.2.2.1
 have hl:(dgL r c S).length = min r c:=dgL_len r c S
 refine flat_of r c S.length cap (min r c) (bgF 0 (dgL r c S)) (xV (bgF 0 (dgL r c S)) (-40)) ao (dgL r c S) (ftB r c S) w (fun w' hb=>?_) (fun w' hb=>diagonal_any r c cap (min r c) ao S w' (h.below hb) rfl) (fun w' g hb hr=>?_) (fun w' hb=>vscale_any _ (-40) w' (bgF_lt17 _) (hT.all hb)) (fun w' g b hb hr hc=>?_)
 ·have:=ccheck_any r c ao cap (mxL S) w' (h.1.below hb) (by rw [mxL_len];omega)
  rw [mxL_len,ck_mx h hf] at this
  exact this
 ·have:=vBiggest_any (some ⟨g,0,none⟩) (min r c) (mxL (dgL r c S)) w' (rowb_bits hr hl (dgL_lt h)) (by rw [mxL_len,hl];omega)
  rw [mxL_len,bg_dg,hl] at this
  exact this
 ·refine contF_any 123 #[.pointer (some ⟨b,0,none⟩)] (some ⟨g,0,none⟩) (min r c) (min r c) (dgL r c S) (fun x=>!ltB (xV (bgF 0 (dgL r c S)) (-40)) (fR x)) w' hl (by omega) (rowb_bits hr hl (dgL_lt h)) cfFlat1 (fun w'' k hb2 hk=>?_)
  have hx:=getD_ltA (dgL_lt h) k
  exact flat1_of _ _ (fR ((dgL r c S).getD k 0)) b (ltB (xV (bgF 0 (dgL r c S)) (-40)) (fR ((dgL r c S).getD k 0))) w'' (cell_keep hc hb2) (fun w3 _=>cabs_any _ w3 hx) (fun w3 _=>less17_any _ _ w3 (xV_lt _ _ (bgF_lt17 _)) (fR_lt17 _))
end Go.Proofs.YtdhmglmccafbnaaGreatDoor
namespace Go.Proofs.YtdhmglmccafbnaaGreatDoor
open Go.RowKit
attribute [local go_sem ↓] Go.wp_at_zero Go.wp_at_succ
theorem least_err (r c p q er:Int) (tn tc bn bc:Nat) (tq bo:Option Addr) (w:World) (her:er = 1 ∨ er = 4)
  (C1:∀ w',Below w.heap.size w w'→Calls Tryz.prog 68 #[.agg #[.int .i64 r,.int .i64 c,.slice tq tn tc],.agg #[.int .i64 p,.int .i64 q,.slice bo bn bc]] w' fun e w''=>e = .returned (.int .i64 er)∧Below w'.heap.size w' w'') :
  Calls Tryz.prog 23 #[.agg #[.int .i64 r,.int .i64 c,.slice tq tn tc],.agg #[.int .i64 p,.int .i64 q,.slice bo bn bc]] w fun e w'=>e = .returned (.tuple #[.agg #[.int .i64 0,.int .i64 0,.slice none 0 0],.int .i64 er])∧Below w.heap.size w w':=by
 have KB:=hide (boxes3_17 w (.int .i64 r) (.int .i64 c) (.slice tq tn tc) (.int .i64 p) (.int .i64 q) (.slice bo bn bc) (.int .i64 0) (.int .i64 0) (.slice none 0 0))
 obtain ⟨b0,x0,x1,x2⟩:=uH KB _ (by have:=Below.refl (((w.alloc (.cells #[.int .i64 r,.int .i64 c,.slice tq tn tc] 25)).alloc (.cells #[.int .i64 p,.int .i64 q,.slice bo bn bc] 25)).alloc (.cells #[.int .i64 0,.int .i64 0,.slice none 0 0] 25)).heap.size (((w.alloc (.cells #[.int .i64 r,.int .i64 c,.slice tq tn tc] 25)).alloc (.cells #[.int .i64 p,.int .i64 q,.slice bo bn bc] 25)).alloc (.cells #[.int .i64 0,.int .i64 0,.slice none 0 0] 25));simpa only [size_alloc9] using this)
 have K1:=hide (C1 _ b0)
 have HB:=hide b0;have HT:=hide x0;have HU:=hide x1;have HR:=hide x2
 have y0:=x0.c0;have y1:=x0.c1;have y2:=x0.c2;have u0:=x1.c0;have u1:=x1.c1;have u2:=x1.c2
 clear C1 KB b0 x0 x1 x2
 rcases her with rfl | rfl
 all_goals
  go_enter Tryz.func23,Tryz.ntmps23
  go_wp2_with fail
  clear y0 y1 y2 u0 u1 u2
  refine (uH K1).mono ?_
  rintro e w1 ⟨rfl,hb⟩
  replace HT:=hide ((uH HT).all hb)
  replace HU:=hide ((uH HU).all hb)
  replace HR:=hide ((uH HR).all hb)
  replace HB:=hide ((uH HB).trans (hb.mono (uH HB).size))
  clear hb K1
  have y0:=(uH HT).c0;have y1:=(uH HT).c1;have y2:=(uH HT).c2;have u0:=(uH HU).c0;have u1:=(uH HU).c1;have u2:=(uH HU).c2
  clear y0 y1 y2 u0 u1 u2
  have X3:=uH HR
  have f0:=X3.free 0;have f1:=X3.free 1;have f2:=X3.free 2
  have s0:=X3.c0;have s1:=X3.c1;have s2:=X3.c2
  have XP:=X3.put (.int .i64 0) (.int .i64 0) (.slice none 0 0)
  have z0:=XP.c0;have z1:=XP.c1;have z2:=XP.c2
  have BP:=hide (below_putM (uH HB) (b:=w.heap.size+1+1) (by omega) (.int .i64 0) (.int .i64 0) (.slice none 0 0))
  clear XP X3
  go_wp2_with fail
  exact bodyPost_ret (v:=.tuple #[.agg #[.int .i64 0,.int .i64 0,.slice none 0 0],.int .i64 _]) (by simp [results,Tryz.results23,go_sem,z0,z1,z2]) rfl ⟨rfl,uH BP⟩
theorem least_shape (r c p q:Int) (tn tc bn bc:Nat) (tq bo:Option Addr) (w:World) (hsh:r < c ∨ (¬ r < c∧¬ r = p))
  (C1:∀ w',Below w.heap.size w w'→Calls Tryz.prog 68 #[.agg #[.int .i64 r,.int .i64 c,.slice tq tn tc],.agg #[.int .i64 p,.int .i64 q,.slice bo bn bc]] w' fun e w''=>e = .returned (.int .i64 0)∧Below w'.heap.size w' w'') :
  Calls Tryz.prog 23 #[.agg #[.int .i64 r,.int .i64 c,.slice tq tn tc],.agg #[.int .i64 p,.int .i64 q,.slice bo bn bc]] w fun e w'=>e = .returned (.tuple #[.agg #[.int .i64 0,.int .i64 0,.slice none 0 0],.int .i64 3])∧Below w.heap.size w w':=by
 have KB:=hide (boxes3_17 w (.int .i64 r) (.int .i64 c) (.slice tq tn tc) (.int .i64 p) (.int .i64 q) (.slice bo bn bc) (.int .i64 0) (.int .i64 0) (.slice none 0 0))
 obtain ⟨b0,x0,x1,x2⟩:=uH KB _ (by have:=Below.refl (((w.alloc (.cells #[.int .i64 r,.int .i64 c,.slice tq tn tc] 25)).alloc (.cells #[.int .i64 p,.int .i64 q,.slice bo bn bc] 25)).alloc (.cells #[.int .i64 0,.int .i64 0,.slice none 0 0] 25)).heap.size (((w.alloc (.cells #[.int .i64 r,.int .i64 c,.slice tq tn tc] 25)).alloc (.cells #[.int .i64 p,.int .i64 q,.slice bo bn bc] 25)).alloc (.cells #[.int .i64 0,.int .i64 0,.slice none 0 0] 25));simpa only [size_alloc9] using this)
 have K1:=hide (C1 _ b0)
 have HB:=hide b0;have HT:=hide x0;have HU:=hide x1;have HR:=hide x2
 have y0:=x0.c0;have y1:=x0.c1;have y2:=x0.c2;have u0:=x1.c0;have u1:=x1.c1;have u2:=x1.c2
 clear C1 KB b0 x0 x1 x2
 have hne:¬ r < c→¬ r = p→(r != p) = true:=fun _ e=>bne_iff_ne.2 e
 rcases hsh with hsh | ⟨hsh,hsh2⟩
 ·clear hne
  go_enter Tryz.func23,Tryz.ntmps23
  go_wp2_with fail
  clear y0 y1 y2 u0 u1 u2
  refine (uH K1).mono ?_
  rintro e w1 ⟨rfl,hb⟩
  replace HT:=hide ((uH HT).all hb)
  replace HU:=hide ((uH HU).all hb)
  replace HR:=hide ((uH HR).all hb)
  replace HB:=hide ((uH HB).trans (hb.mono (uH HB).size))
  clear hb K1
  have y0:=(uH HT).c0;have y1:=(uH HT).c1;have y2:=(uH HT).c2;have u0:=(uH HU).c0;have u1:=(uH HU).c1;have u2:=(uH HU).c2
  have X3:=uH HR
  have f0:=X3.free 0;have f1:=X3.free 1;have f2:=X3.free 2
  have s0:=X3.c0;have s1:=X3.c1;have s2:=X3.c2
  have XP:=X3.put (.int .i64 0) (.int .i64 0) (.slice none 0 0)
  have z0:=XP.c0;have z1:=XP.c1;have z2:=XP.c2
  have BP:=hide (below_putM (uH HB) (b:=w.heap.size+1+1) (by omega) (.int .i64 0) (.int .i64 0) (.slice none 0 0))
  clear XP X3
  go_wp2_with fail
  exact bodyPost_ret (v:=.tuple #[.agg #[.int .i64 0,.int .i64 0,.slice none 0 0],.int .i64 3]) (by simp [results,Tryz.results23,go_sem,z0,z1,z2]) rfl ⟨rfl,uH BP⟩
 ·replace hne:=hne hsh hsh2
  go_enter Tryz.func23,Tryz.ntmps23
  go_wp2_with fail
  clear y0 y1 y2 u0 u1 u2
  refine (uH K1).mono ?_
  rintro e w1 ⟨rfl,hb⟩
  replace HT:=hide ((uH HT).all hb)
  replace HU:=hide ((uH HU).all hb)
  replace HR:=hide ((uH HR).all hb)
  replace HB:=hide ((uH HB).trans (hb.mono (uH HB).size))
  clear hb K1
  have y0:=(uH HT).c0;have y1:=(uH HT).c1;have y2:=(uH HT).c2;have u0:=(uH HU).c0;have u1:=(uH HU).c1;have u2:=(uH HU).c2
  have X3:=uH HR
  have f0:=X3.free 0;have f1:=X3.free 1;have f2:=X3.free 2
  have s0:=X3.c0;have s1:=X3.c1;have s2:=X3.c2
  have XP:=X3.put (.int .i64 0) (.int .i64 0) (.slice none 0 0)
  have z0:=XP.c0;have z1:=XP.c1;have z2:=XP.c2
  have BP:=hide (below_putM (uH HB) (b:=w.heap.size+1+1) (by omega) (.int .i64 0) (.int .i64 0) (.slice none 0 0))
  clear XP X3
  go_wp2_with fail
  exact bodyPost_ret (v:=.tuple #[.agg #[.int .i64 0,.int .i64 0,.slice none 0 0],.int .i64 3]) (by simp [results,Tryz.results23,go_sem,z0,z1,z2]) rfl ⟨rfl,uH BP⟩
theorem least_range (r c q:Int) (tn tc bn bc:Nat) (tq bo:Option Addr) (w:World) (hsh:¬ r < c)
  (C1:∀ w',Below w.heap.size w w'→Calls Tryz.prog 68 #[.agg #[.int .i64 r,.int .i64 c,.slice tq tn tc],.agg #[.int .i64 r,.int .i64 q,.slice bo bn bc]] w' fun e w''=>e = .returned (.int .i64 0)∧Below w'.heap.size w' w'')
  (C2:∀ w',Below w.heap.size w w'→Calls Tryz.prog 69 #[.agg #[.int .i64 r,.int .i64 c,.slice tq tn tc]] w' fun e w''=>∃ (a1 a2 b1 b2:Int) (so vo:Option Addr) (sn sd vn vd:Nat),e = .returned (.tuple #[.agg #[.int .i64 a1,.int .i64 a2,.slice so sn sd],.agg #[.int .i64 b1,.int .i64 b2,.slice vo vn vd],.int .i64 2])∧Below w'.heap.size w' w'') :
  Calls Tryz.prog 23 #[.agg #[.int .i64 r,.int .i64 c,.slice tq tn tc],.agg #[.int .i64 r,.int .i64 q,.slice bo bn bc]] w fun e w'=>e = .returned (.tuple #[.agg #[.int .i64 0,.int .i64 0,.slice none 0 0],.int .i64 2])∧Below w.heap.size w w':=by
 have KB:=hide (boxes3_17 w (.int .i64 r) (.int .i64 c) (.slice tq tn tc) (.int .i64 r) (.int .i64 q) (.slice bo bn bc) (.int .i64 0) (.int .i64 0) (.slice none 0 0))
 obtain ⟨b0,x0,x1,x2⟩:=uH KB _ (by have:=Below.refl (((w.alloc (.cells #[.int .i64 r,.int .i64 c,.slice tq tn tc] 25)).alloc (.cells #[.int .i64 r,.int .i64 q,.slice bo bn bc] 25)).alloc (.cells #[.int .i64 0,.int .i64 0,.slice none 0 0] 25)).heap.size (((w.alloc (.cells #[.int .i64 r,.int .i64 c,.slice tq tn tc] 25)).alloc (.cells #[.int .i64 r,.int .i64 q,.slice bo bn bc] 25)).alloc (.cells #[.int .i64 0,.int .i64 0,.slice none 0 0] 25));simpa only [size_alloc9] using this)
 have K1:=hide (C1 _ b0)
 have HB:=hide b0;have HT:=hide x0;have HU:=hide x1;have HR:=hide x2
 have K2:=hide C2
 have y0:=x0.c0;have y1:=x0.c1;have y2:=x0.c2;have u0:=x1.c0;have u1:=x1.c1;have u2:=x1.c2
 clear C2 C1 KB b0 x0 x1 x2
 go_enter Tryz.func23,Tryz.ntmps23
 go_wp2_with fail
 clear y0 y1 y2 u0 u1 u2
 refine (uH K1).mono ?_
 rintro e w1 ⟨rfl,hb⟩
 replace HT:=hide ((uH HT).all hb)
 replace HU:=hide ((uH HU).all hb)
 replace HR:=hide ((uH HR).all hb)
 replace HB:=hide ((uH HB).trans (hb.mono (uH HB).size))
 clear hb K1
 have y0:=(uH HT).c0;have y1:=(uH HT).c1;have y2:=(uH HT).c2;have u0:=(uH HU).c0;have u1:=(uH HU).c1;have u2:=(uH HU).c2
 go_wp2_with fail
 clear y0 y1 y2 u0 u1 u2
 refine (uH K2 _ (uH HB)).mono ?_
 rintro e w2 ⟨a1,a2,b1,b2,so,vo,sn,sd,vn,vd,rfl,hb⟩
 replace HU:=hide ((uH HU).all hb)
 replace HR:=hide ((uH HR).all hb)
 replace HB:=hide ((uH HB).trans (hb.mono (uH HB).size))
 clear hb K2
 have ba:=below_alloc9 w2 (.cells #[.int .i64 a1,.int .i64 a2,.slice so sn sd] 25)
 have ba2:=below_alloc9 (w2.alloc (.cells #[.int .i64 a1,.int .i64 a2,.slice so sn sd] 25)) (.cells #[.int .i64 b1,.int .i64 b2,.slice vo vn vd] 25)
 replace HR:=hide (((uH HR).all ba).all ba2)
 replace HB:=hide (((uH HB).trans (ba.mono (uH HB).size)).trans (ba2.mono ((uH HB).trans (ba.mono (uH HB).size)).size))
 clear ba ba2 HT HU
 have X3:=uH HR
 have f0:=X3.free 0;have f1:=X3.free 1;have f2:=X3.free 2
 have s0:=X3.c0;have s1:=X3.c1;have s2:=X3.c2
 have XP:=X3.put (.int .i64 0) (.int .i64 0) (.slice none 0 0)
 have z0:=XP.c0;have z1:=XP.c1;have z2:=XP.c2
 have BP:=hide (below_putM (uH HB) (b:=w.heap.size+1+1) (by omega) (.int .i64 0) (.int .i64 0) (.slice none 0 0))
 clear XP X3
 go_wp2_with fail
 exact bodyPost_ret (v:=.tuple #[.agg #[.int .i64 0,.int .i64 0,.slice none 0 0],.int .i64 2]) (by simp [results,Tryz.results23,go_sem,z0,z1,z2]) rfl ⟨rfl,uH BP⟩
theorem least_rank (r c q:Int) (tn tc bn bc sn vn:Nat) (S V:List Nat) (tq bo:Option Addr) (w:World) (hsh:¬ r < c)
  (C1:∀ w',Below w.heap.size w w'→Calls Tryz.prog 68 #[.agg #[.int .i64 r,.int .i64 c,.slice tq tn tc],.agg #[.int .i64 r,.int .i64 q,.slice bo bn bc]] w' fun e w''=>e = .returned (.int .i64 0)∧Below w'.heap.size w' w'')
  (C2:∀ w',Below w.heap.size w w'→Calls Tryz.prog 69 #[.agg #[.int .i64 r,.int .i64 c,.slice tq tn tc]] w' fun e w''=>∃ so sd vo vd,e = .returned (.tuple #[.agg #[.int .i64 r,.int .i64 c,.slice so sn sd],.agg #[.int .i64 c,.int .i64 c,.slice vo vn vd],.int .i64 0])∧BitsAt w'' so sd (mxL S)∧BitsAt w'' vo vd (mxL V)∧Below w'.heap.size w' w'')
  (C3:∀ w' vo vd,Below w.heap.size w w'→BitsAt w' vo vd (mxL V)→Calls Tryz.prog 70 #[.agg #[.int .i64 c,.int .i64 c,.slice vo vn vd]] w' fun e w''=>e = .returned (.tuple #[.bool true,.int .i64 0])∧Below w'.heap.size w' w'') :
  Calls Tryz.prog 23 #[.agg #[.int .i64 r,.int .i64 c,.slice tq tn tc],.agg #[.int .i64 r,.int .i64 q,.slice bo bn bc]] w fun e w'=>e = .returned (.tuple #[.agg #[.int .i64 0,.int .i64 0,.slice none 0 0],.int .i64 5])∧Below w.heap.size w w':=by
 have KB:=hide (boxes3_17 w (.int .i64 r) (.int .i64 c) (.slice tq tn tc) (.int .i64 r) (.int .i64 q) (.slice bo bn bc) (.int .i64 0) (.int .i64 0) (.slice none 0 0))
 obtain ⟨b0,x0,x1,x2⟩:=uH KB _ (by have:=Below.refl (((w.alloc (.cells #[.int .i64 r,.int .i64 c,.slice tq tn tc] 25)).alloc (.cells #[.int .i64 r,.int .i64 q,.slice bo bn bc] 25)).alloc (.cells #[.int .i64 0,.int .i64 0,.slice none 0 0] 25)).heap.size (((w.alloc (.cells #[.int .i64 r,.int .i64 c,.slice tq tn tc] 25)).alloc (.cells #[.int .i64 r,.int .i64 q,.slice bo bn bc] 25)).alloc (.cells #[.int .i64 0,.int .i64 0,.slice none 0 0] 25));simpa only [size_alloc9] using this)
 have K1:=hide (C1 _ b0)
 have HB:=hide b0;have HT:=hide x0;have HU:=hide x1;have HR:=hide x2
 have K2:=hide C2;have K3:=hide C3
 have y0:=x0.c0;have y1:=x0.c1;have y2:=x0.c2;have u0:=x1.c0;have u1:=x1.c1;have u2:=x1.c2
 clear C3 C2 C1 KB b0 x0 x1 x2
 go_enter Tryz.func23,Tryz.ntmps23
 go_wp2_with fail
 clear y0 y1 y2 u0 u1 u2
 refine (uH K1).mono ?_
 rintro e w1 ⟨rfl,hb⟩
 replace HT:=hide ((uH HT).all hb)
 replace HU:=hide ((uH HU).all hb)
 replace HR:=hide ((uH HR).all hb)
 replace HB:=hide ((uH HB).trans (hb.mono (uH HB).size))
 clear hb K1
 have y0:=(uH HT).c0;have y1:=(uH HT).c1;have y2:=(uH HT).c2;have u0:=(uH HU).c0;have u1:=(uH HU).c1;have u2:=(uH HU).c2
 go_wp2_with fail
 clear y0 y1 y2 u0 u1 u2
 refine (uH K2 _ (uH HB)).mono ?_
 rintro e w2 ⟨so,sd,vo,vd,rfl,hs,hv,hb⟩
 replace HU:=hide ((uH HU).all hb)
 replace HR:=hide ((uH HR).all hb)
 replace HB:=hide ((uH HB).trans (hb.mono (uH HB).size))
 have ba:=below_alloc9 w2 (.cells #[.int .i64 r,.int .i64 c,.slice so sn sd] 25)
 have sa:=size_alloc9 w2 (.cells #[.int .i64 r,.int .i64 c,.slice so sn sd] 25)
 have xs:=BoxM.new w2 (.int .i64 r) (.int .i64 c) (.slice so sn sd)
 have ba2:=below_alloc9 (w2.alloc (.cells #[.int .i64 r,.int .i64 c,.slice so sn sd] 25)) (.cells #[.int .i64 c,.int .i64 c,.slice vo vn vd] 25)
 have xv:=BoxM.new (w2.alloc (.cells #[.int .i64 r,.int .i64 c,.slice so sn sd] 25)) (.int .i64 c) (.int .i64 c) (.slice vo vn vd)
 rw [sa] at xv
 have HS:=hide ((hs.below ba).below ba2)
 have HV:=hide ((hv.below ba).below ba2)
 have HXS:=hide (xs.all ba2)
 have HXV:=hide xv
 replace HU:=hide (((uH HU).all ba).all ba2)
 replace HR:=hide (((uH HR).all ba).all ba2)
 replace HB:=hide (((uH HB).trans (ba.mono (uH HB).size)).trans (ba2.mono ((uH HB).trans (ba.mono (uH HB).size)).size))
 clear hb K2 ba ba2 sa xs xv hs hv HT
 have v0:=(uH HXV).c0;have v1:=(uH HXV).c1;have v2:=(uH HXV).c2
 go_wp2_with fail
 clear v0 v1 v2
 refine (uH K3 _ vo vd (uH HB) (uH HV)).mono ?_
 rintro e w3 ⟨rfl,hb⟩
 replace HU:=hide ((uH HU).all hb)
 replace HR:=hide ((uH HR).all hb)
 replace HXS:=hide ((uH HXS).all hb)
 replace HXV:=hide ((uH HXV).all hb)
 replace HS:=hide ((uH HS).below hb)
 replace HV:=hide ((uH HV).below hb)
 replace HB:=hide ((uH HB).trans (hb.mono (uH HB).size))
 clear hb K3
 have X3:=uH HR
 have f0:=X3.free 0;have f1:=X3.free 1;have f2:=X3.free 2
 have s0:=X3.c0;have s1:=X3.c1;have s2:=X3.c2
 have XP:=X3.put (.int .i64 0) (.int .i64 0) (.slice none 0 0)
 have z0:=XP.c0;have z1:=XP.c1;have z2:=XP.c2
 have BP:=hide (below_putM (uH HB) (b:=w.heap.size+1+1) (by omega) (.int .i64 0) (.int .i64 0) (.slice none 0 0))
 clear XP X3
 go_wp2_with fail
 exact bodyPost_ret (v:=.tuple #[.agg #[.int .i64 0,.int .i64 0,.slice none 0 0],.int .i64 5]) (by simp [results,Tryz.results23,go_sem,z0,z1,z2]) rfl ⟨rfl,uH BP⟩
theorem least_of (r c q f:Int) (tn tc bn bc sn vn yn m u:Nat) (S V Y M:List Nat) (tq bo:Option Addr) (w:World) (hsh:¬ r < c)
  (C1:∀ w',Below w.heap.size w w'→Calls Tryz.prog 68 #[.agg #[.int .i64 r,.int .i64 c,.slice tq tn tc],.agg #[.int .i64 r,.int .i64 q,.slice bo bn bc]] w' fun e w''=>e = .returned (.int .i64 0)∧Below w'.heap.size w' w'')
  (C2:∀ w',Below w.heap.size w w'→Calls Tryz.prog 69 #[.agg #[.int .i64 r,.int .i64 c,.slice tq tn tc]] w' fun e w''=>∃ so sd vo vd,e = .returned (.tuple #[.agg #[.int .i64 r,.int .i64 c,.slice so sn sd],.agg #[.int .i64 c,.int .i64 c,.slice vo vn vd],.int .i64 0])∧BitsAt w'' so sd (mxL S)∧BitsAt w'' vo vd (mxL V)∧Below w'.heap.size w' w'')
  (C3:∀ w' vo vd,Below w.heap.size w w'→BitsAt w' vo vd (mxL V)→Calls Tryz.prog 70 #[.agg #[.int .i64 c,.int .i64 c,.slice vo vn vd]] w' fun e w''=>e = .returned (.tuple #[.bool false,.int .i64 0])∧Below w'.heap.size w' w'')
  (C4:∀ w' so sd,Below w.heap.size w w'→BitsAt w' so sd (mxL S)→Calls Tryz.prog 71 #[.agg #[.int .i64 r,.int .i64 c,.slice so sn sd],.agg #[.int .i64 r,.int .i64 q,.slice bo bn bc]] w' fun e w''=>∃ yo yd,e = .returned (.tuple #[.agg #[.int .i64 c,.int .i64 q,.slice yo yn yd],.int .i64 0])∧BitsAt w'' yo yd (mxL Y)∧Below w'.heap.size w' w'')
  (C5:∀ w' vo vd yo yd,Below w.heap.size w w'→BitsAt w' vo vd (mxL V)→BitsAt w' yo yd (mxL Y)→Calls Tryz.prog 16 #[.agg #[.int .i64 c,.int .i64 c,.slice vo vn vd],.agg #[.int .i64 c,.int .i64 q,.slice yo yn yd]] w' fun e w''=>SvAns w' w'' f m u M e∧Below w'.heap.size w' w'') :
  Calls Tryz.prog 23 #[.agg #[.int .i64 r,.int .i64 c,.slice tq tn tc],.agg #[.int .i64 r,.int .i64 q,.slice bo bn bc]] w fun e w'=>SvAns w w' f m u M e∧Below w.heap.size w w':=by
 have KB:=hide (boxes3_17 w (.int .i64 r) (.int .i64 c) (.slice tq tn tc) (.int .i64 r) (.int .i64 q) (.slice bo bn bc) (.int .i64 0) (.int .i64 0) (.slice none 0 0))
 obtain ⟨b0,x0,x1,x2⟩:=uH KB _ (by have:=Below.refl (((w.alloc (.cells #[.int .i64 r,.int .i64 c,.slice tq tn tc] 25)).alloc (.cells #[.int .i64 r,.int .i64 q,.slice bo bn bc] 25)).alloc (.cells #[.int .i64 0,.int .i64 0,.slice none 0 0] 25)).heap.size (((w.alloc (.cells #[.int .i64 r,.int .i64 c,.slice tq tn tc] 25)).alloc (.cells #[.int .i64 r,.int .i64 q,.slice bo bn bc] 25)).alloc (.cells #[.int .i64 0,.int .i64 0,.slice none 0 0] 25));simpa only [size_alloc9] using this)
 have K1:=hide (C1 _ b0)
 have HB:=hide b0;have HT:=hide x0;have HU:=hide x1;have HR:=hide x2
 have K2:=hide C2;have K3:=hide C3;have K4:=hide C4;have K5:=hide C5
 have y0:=x0.c0;have y1:=x0.c1;have y2:=x0.c2;have u0:=x1.c0;have u1:=x1.c1;have u2:=x1.c2
 clear C5 C4 C3 C2 C1 KB b0 x0 x1 x2
 go_enter Tryz.func23,Tryz.ntmps23
 go_wp2_with fail
 clear y0 y1 y2 u0 u1 u2
 refine (uH K1).mono ?_
 rintro e w1 ⟨rfl,hb⟩
 replace HT:=hide ((uH HT).all hb)
 replace HU:=hide ((uH HU).all hb)
 replace HR:=hide ((uH HR).all hb)
 replace HB:=hide ((uH HB).trans (hb.mono (uH HB).size))
 clear hb K1
 have y0:=(uH HT).c0;have y1:=(uH HT).c1;have y2:=(uH HT).c2;have u0:=(uH HU).c0;have u1:=(uH HU).c1;have u2:=(uH HU).c2
 go_wp2_with fail
 clear y0 y1 y2 u0 u1 u2
 refine (uH K2 _ (uH HB)).mono ?_
 rintro e w2 ⟨so,sd,vo,vd,rfl,hs,hv,hb⟩
 replace HU:=hide ((uH HU).all hb)
 replace HR:=hide ((uH HR).all hb)
 replace HB:=hide ((uH HB).trans (hb.mono (uH HB).size))
 have ba:=below_alloc9 w2 (.cells #[.int .i64 r,.int .i64 c,.slice so sn sd] 25)
 have sa:=size_alloc9 w2 (.cells #[.int .i64 r,.int .i64 c,.slice so sn sd] 25)
 have xs:=BoxM.new w2 (.int .i64 r) (.int .i64 c) (.slice so sn sd)
 have ba2:=below_alloc9 (w2.alloc (.cells #[.int .i64 r,.int .i64 c,.slice so sn sd] 25)) (.cells #[.int .i64 c,.int .i64 c,.slice vo vn vd] 25)
 have xv:=BoxM.new (w2.alloc (.cells #[.int .i64 r,.int .i64 c,.slice so sn sd] 25)) (.int .i64 c) (.int .i64 c) (.slice vo vn vd)
 rw [sa] at xv
 have HS:=hide ((hs.below ba).below ba2)
 have HV:=hide ((hv.below ba).below ba2)
 have HXS:=hide (xs.all ba2)
 have HXV:=hide xv
 replace HU:=hide (((uH HU).all ba).all ba2)
 replace HR:=hide (((uH HR).all ba).all ba2)
 replace HB:=hide (((uH HB).trans (ba.mono (uH HB).size)).trans (ba2.mono ((uH HB).trans (ba.mono (uH HB).size)).size))
 clear hb K2 ba ba2 sa xs xv hs hv HT
 have v0:=(uH HXV).c0;have v1:=(uH HXV).c1;have v2:=(uH HXV).c2
 go_wp2_with fail
 clear v0 v1 v2
 refine (uH K3 _ vo vd (uH HB) (uH HV)).mono ?_
 rintro e w3 ⟨rfl,hb⟩
 replace HU:=hide ((uH HU).all hb)
 replace HR:=hide ((uH HR).all hb)
 replace HXS:=hide ((uH HXS).all hb)
 replace HXV:=hide ((uH HXV).all hb)
 replace HS:=hide ((uH HS).below hb)
 replace HV:=hide ((uH HV).below hb)
 replace HB:=hide ((uH HB).trans (hb.mono (uH HB).size))
 clear hb K3
 have v0:=(uH HXS).c0;have v1:=(uH HXS).c1;have v2:=(uH HXS).c2;have u0:=(uH HU).c0;have u1:=(uH HU).c1;have u2:=(uH HU).c2
 go_wp2_with fail
 clear v0 v1 v2 u0 u1 u2
 refine (uH K4 _ so sd (uH HB) (uH HS)).mono ?_
 rintro e w4 ⟨yo,yd,rfl,hy,hb⟩
 have ba:=below_alloc9 w4 (.cells #[.int .i64 c,.int .i64 q,.slice yo yn yd] 25)
 have HY:=hide (hy.below ba)
 have HXY:=hide (BoxM.new w4 (.int .i64 c) (.int .i64 q) (.slice yo yn yd))
 replace HR:=hide (((uH HR).all hb).all ba)
 replace HXV:=hide (((uH HXV).all hb).all ba)
 replace HV:=hide (((uH HV).below hb).below ba)
 replace HB:=hide (((uH HB).trans (hb.mono (uH HB).size)).trans (ba.mono ((uH HB).trans (hb.mono (uH HB).size)).size))
 clear hb ba hy K4 HU HXS HS
 have v0:=(uH HXV).c0;have v1:=(uH HXV).c1;have v2:=(uH HXV).c2;have u0:=(uH HXY).c0;have u1:=(uH HXY).c1;have u2:=(uH HXY).c2
 go_wp2_with fail
 clear v0 v1 v2 u0 u1 u2
 refine (uH K5 _ vo vd yo yd (uH HB) (uH HV) (uH HY)).mono ?_
 rintro e w5 ⟨hans,hb⟩
 replace HR:=hide ((uH HR).all hb)
 have HB0:=hide (uH HB).size
 replace HB:=hide ((uH HB).trans (hb.mono (uH HB).size))
 clear hb K5 HXV HXY HV HY
 rcases hans with ⟨rfl,xo,xc,rfl,hn,hq,hl,hf⟩ | ⟨hf,rfl⟩
 ·have HN:=hide (hn.least (uH HB0))
  have HQ:=hide hq
  have HL:=hide hl;have HF:=hide hf
  obtain ⟨L,hL⟩:∃ L,m * u = L:=⟨_,rfl⟩
  rw [hL]
  have EL:=hide hL
  have X3:=uH HR
  have f0:=X3.free 0;have f1:=X3.free 1;have f2:=X3.free 2
  have s0:=X3.c0;have s1:=X3.c1;have s2:=X3.c2
  have XP:=X3.put (.int .i64 m) (.int .i64 u) (.slice xo L xc)
  have z0:=XP.c0;have z1:=XP.c1;have z2:=XP.c2
  have BP:=hide (below_putM (uH HB) (b:=w.heap.size+1+1) (by omega) (.int .i64 m) (.int .i64 u) (.slice xo L xc))
  have QP:=hide ((uH HQ).putM X3 (.int .i64 m) (.int .i64 u) (.slice xo L xc))
  clear XP X3 hn hq hl hf hL
  go_wp2_with fail
  exact bodyPost_ret (v:=.tuple #[.agg #[.int .i64 m,.int .i64 u,.slice xo L xc],.int .i64 0]) (by simp [results,Tryz.results23,go_sem,z0,z1,z2]) rfl ⟨.inl ⟨rfl,xo,xc,by rw [uH EL],uH HN,uH QP,uH HL,uH HF⟩,uH BP⟩
 ·have X3:=uH HR
  have f0:=X3.free 0;have f1:=X3.free 1;have f2:=X3.free 2
  have s0:=X3.c0;have s1:=X3.c1;have s2:=X3.c2
  have XP:=X3.put (.int .i64 0) (.int .i64 0) (.slice none 0 0)
  have z0:=XP.c0;have z1:=XP.c1;have z2:=XP.c2
  have BP:=hide (below_putM (uH HB) (b:=w.heap.size+1+1) (by omega) (.int .i64 0) (.int .i64 0) (.slice none 0 0))
  have HF:=hide hf
  clear XP X3 hf
  go_wp2_with fail
  exact bodyPost_ret (v:=.tuple #[.agg #[.int .i64 0,.int .i64 0,.slice none 0 0],.int .i64 f]) (by simp [results,Tryz.results23,go_sem,z0,z1,z2]) rfl ⟨.inr ⟨uH HF,rfl⟩,uH BP⟩
end Go.Proofs.YtdhmglmccafbnaaGreatDoor
namespace Go.Proofs.YtdhmglmccafbnaaGreatDoor
open Go.RowKit
attribute [local go_sem ↓] Go.wp_at_zero Go.wp_at_succ
theorem zd_no {n:Nat} {T:List Nat} (h:∀ i,i < n→fK (elM n T i i) ≠ 0):zdB (dgL n n T) = false:=by
 unfold zdB dgL
 rw [List.any_eq_false]
 intro x hx
 obtain ⟨i,hi,rfl⟩:=List.mem_map.1 hx
 have:=List.mem_range.1 hi
 simpa using h i (by omega)
end Go.Proofs.YtdhmglmccafbnaaGreatDoor
namespace Go.Proofs.YtdhmglmccafbnaaGreatDoor
open Go.RowKit
attribute [local go_sem ↓] Go.wp_at_zero Go.wp_at_succ
theorem one_bits17 (w:World) (a:Nat) (ha:a < 18446744073709551616):BitsAt (w.alloc (.cells #[.int .u64 (a:Nat)] 28)) (some ⟨w.heap.size,0,none⟩) 1 [(a:Int)]:=by
 have h:RowB (w.alloc (.cells #[.int .u64 (a:Nat)] 28)) w.heap.size [a]:=heap_alloc_new w _
 exact h.bits (fun x hx=>by simp at hx;subst hx;exact ha)
theorem pa_fin17 {S:List Nat} {r n:Nat} (hl:S.length = r * n) (h:finL S = true) {i k p q:Nat} (hp:i+p≤r) (hq:k+q≤n):finL (paM n S i k p q) = true:=by
 rw [finL_all] at h ⊢
 rw [show (paM n S i k p q).length = p * q from mkM_len _ _ _]
 intro x hx
 obtain ⟨h1,h2,h3⟩:=place_in hx
 unfold paM
 rw [← h3,mkM_atD _ _ _ h1 h2]
 exact h _ (by rw [hl];exact place_lt (show i+x / q < r by omega) (show k+x % q < n by omega))
def lqQ (r c:Nat) (S:List Nat):List Nat:=paM r (facQ r c S) 0 0 r c
def lqT (r c:Nat) (S:List Nat):List Nat:=paM c (facR r c S) 0 0 c c
def lqY (r c q:Nat) (S B:List Nat):List Nat:=muM c r q (tuM r c (lqQ r c S)) B
def lqU (r c q:Nat) (S B:List Nat):List Nat:=upM c q (lqT r c S) (lqY r c q S B)
def lqE (r c q:Nat) (S B:List Nat):Int:=if facK r c S = true then (if ftB c c (lqT r c S) = true then 5 else if finL (lqY r c q S B) = true then usE c (lqT r c S) (lqU r c q S B) else 4) else 2
theorem lqT_fin {r c:Nat} {S:List Nat} (hl:S.length = r * c) (hcr:c≤r) (hk:facK r c S = true):finL (lqT r c S) = true:=by
 unfold facK at hk
 rw [Bool.and_eq_true,Bool.and_eq_true] at hk
 exact pa_fin17 (r:=r) (qrR_len r c S hl _) hk.2.2 (by omega) (by omega)
theorem chk17 {r c p q cap d:Nat} {ao bo:Option Addr} {S B:List Nat} {w:World} (h:Mx w ao cap r c S) (h2:Mx w bo d p q B) (fS:finL S = true) (fB:finL B = true) :
  Calls Tryz.prog 68 #[.agg #[.int .i64 r,.int .i64 c,.slice ao S.length cap],.agg #[.int .i64 p,.int .i64 q,.slice bo B.length d]] w fun e w'=>e = .returned (.int .i64 0)∧Below w.heap.size w w':=by
 have s1:=h.small;have s2:=h2.small
 have:=checked_any r c p q ao bo cap d (mxL S) (mxL B) w h.1 h2.1 (by rw [mxL_len];omega) (by rw [mxL_len];omega)
 rw [mxL_len,mxL_len] at this
 unfold ck2 at this
 rwa [if_pos (ck_mx h fS),ck_mx h2 fB] at this
theorem least_mx (r c q tc bc:Nat) (tq bo:Option Addr) (S B:List Nat) (w:World) (hS:Mx w tq tc r c S) (hB:Mx w bo bc r q B) (fS:finL S = true) (fB:finL B = true) (hcr:c≤r) (hT:Tab w) :
  Calls Tryz.prog 23 #[.agg #[.int .i64 r,.int .i64 c,.slice tq S.length tc],.agg #[.int .i64 r,.int .i64 q,.slice bo B.length bc]] w fun e w'=>SvAns w w' (lqE r c q S B) c q (lqU r c q S B) e∧Below w.heap.size w w':=by
 have r6:=hS.2.2.1;have c6:=hS.2.2.2;have q6:=hB.2.2.2
 have hsh:¬ (r:Int) < (c:Int):=by omega
 have hm:min r c = c:=by omega
 have C1:=fun w' (hb:Below w.heap.size w w')=>chk17 (hS.below hb) (hB.below hb) fS fB
 unfold lqE
 cases hk:facK r c S with
 | false =>
  rw [if_neg (by decide)]
  refine (least_range r c q S.length tc B.length bc tq bo w hsh C1 (fun w' hb=>(qThin_no r c tc tq S w' (hS.below hb) fS hk (hT.all hb)).mono ?_)).mono ?_
  ·rintro e w'' ⟨v,u,rfl,⟨ao,cap,rfl,_,_⟩,⟨bo',cap',rfl,_,_⟩,hb2⟩
   exact ⟨0,0,0,0,ao,bo',0,cap,0,cap',rfl,hb2⟩
  ·rintro e w' ⟨rfl,hb⟩
   exact ⟨.inr ⟨by decide,rfl⟩,hb⟩
 | true =>
  rw [if_pos rfl]
  have fT:=lqT_fin hS.2.1 hcr hk
  have lT:(lqT r c S).length = c * c:=by unfold lqT paM;exact mkM_len _ _ _
  have lQ:(lqQ r c S).length = r * c:=by unfold lqQ paM;exact mkM_len _ _ _
  have lY:(lqY r c q S B).length = c * q:=by unfold lqY muM;exact mkM_len _ _ _
  have C2:∀ w',Below w.heap.size w w'→Calls Tryz.prog 69 #[.agg #[.int .i64 r,.int .i64 c,.slice tq S.length tc]] w' fun e w''=>∃ so sd vo vd,e = .returned (.tuple #[.agg #[.int .i64 r,.int .i64 c,.slice so (lqQ r c S).length sd],.agg #[.int .i64 c,.int .i64 c,.slice vo (lqT r c S).length vd],.int .i64 0])∧BitsAt w'' so sd (mxL (lqQ r c S))∧BitsAt w'' vo vd (mxL (lqT r c S))∧Below w'.heap.size w' w'':=fun w' hb=>by
   have:=qThin_yes r c tc tq S w' (hS.below hb) fS hk (hT.all hb)
   rw [hm] at this
   refine this.mono ?_
   rintro e w'' ⟨v,u,rfl,⟨ao,cap,rfl,_,h1⟩,⟨bo',cap',rfl,_,h2⟩,hb2⟩
   exact ⟨ao,cap,bo',cap',rfl,h1,h2,hb2⟩
  have C3:∀ w' vo vd,Below w.heap.size w w'→BitsAt w' vo vd (mxL (lqT r c S))→Calls Tryz.prog 70 #[.agg #[.int .i64 c,.int .i64 c,.slice vo (lqT r c S).length vd]] w' fun e w''=>e = .returned (.tuple #[.bool (ftB c c (lqT r c S)),.int .i64 0])∧Below w'.heap.size w' w'':=fun w' vo vd hb hv =>
   flat_any c c vd vo (lqT r c S) w' ⟨hv,lT,c6,c6⟩ fT (hT.all hb)
  cases hf:ftB c c (lqT r c S) with
  | true =>
   rw [hf] at C3
   rw [if_pos rfl]
   refine (least_rank r c q S.length tc B.length bc (lqQ r c S).length (lqT r c S).length (lqQ r c S) (lqT r c S) tq bo w hsh C1 C2 C3).mono ?_
   rintro e w' ⟨rfl,hb⟩
   exact ⟨.inr ⟨by decide,rfl⟩,hb⟩
  | false =>
   rw [hf] at C3
   rw [if_neg (by decide)]
   refine least_of r c q (if finL (lqY r c q S B) = true then usE c (lqT r c S) (lqU r c q S B) else 4) S.length tc B.length bc (lqQ r c S).length (lqT r c S).length (lqY r c q S B).length c q (lqQ r c S) (lqT r c S) (lqY r c q S B) (lqU r c q S B) tq bo w hsh C1 C2 C3 (fun w' so sd hb hs=>?_) (fun w' vo vd yo yd hb hv hy=>?_)
   ·refine (qTurned_yes r c q sd bc so bo (lqQ r c S) B w' ⟨hs,lQ,r6,c6⟩ (hB.below hb) (hT.all hb)).mono ?_
    rintro e w'' ⟨v,rfl,⟨ao,cap,rfl,_,h1⟩,hb2⟩
    exact ⟨ao,cap,rfl,h1,hb2⟩
   ·cases hy2:finL (lqY r c q S B) with
    | true =>
     rw [if_pos rfl]
     exact upper_mx c q vd yd vo yo (lqT r c S) (lqY r c q S B) w' ⟨hv,lT,c6,c6⟩ ⟨hy,lY,c6,q6⟩ fT hy2 (hT.all hb)
    | false =>
     rw [if_neg (by decide)]
     have e4:trE17 c c c q (mxL (lqT r c S)) (mxL (lqY r c q S B)) = 4:=by
      have h1:ckE (c:Int) (c:Int) (mxL (lqT r c S)) = 0:=ck_mx (w:=w') (ao:=vo) (cap:=vd) ⟨hv,lT,c6,c6⟩ fT
      have h2:ckE (c:Int) (q:Int) (mxL (lqY r c q S B)) = 4:=by
       unfold ckE
       have hm2:Mx w' yo yd c q (lqY r c q S B):=⟨hy,lY,c6,q6⟩
       rw [mxL_len,mx_ok hm2]
       have:fnK (mxL (lqY r c q S B)) (lqY r c q S B).length = false:=hy2
       rw [this]
       rfl
      unfold trE17 ck2
      rw [h1,h2]
      rfl
     have t36:c * c≤36:=Nat.mul_le_mul c6 c6
     have y36:c * q≤36:=Nat.mul_le_mul c6 q6
     have:=upper_no c c c q vo yo vd yd (mxL (lqT r c S)) (mxL (lqY r c q S B)) w' hv hy (by rw [mxL_len,lT];omega) (by rw [mxL_len,lY];omega) (by rw [e4];decide)
     rw [e4,mxL_len,mxL_len] at this
     refine this.mono ?_
     rintro e w'' ⟨hans,hb2⟩
     rcases hans with ⟨h0,_⟩ | ⟨_,rfl⟩
     ·cases h0
     ·exact ⟨.inr ⟨by decide,rfl⟩,hb2⟩
theorem awake17_of (w:World)
  (C1:∀ w' ao bo,Below w.heap.size w w'→BitsAt w' ao 1 [((4611686018427387904:Nat):Int)]→BitsAt w' bo 1 [((4616189618054758400:Nat):Int)]→Calls Tryz.prog 23 #[.agg #[.int .i64 1,.int .i64 1,.slice ao 1 1],.agg #[.int .i64 1,.int .i64 1,.slice bo 1 1]] w' fun e w''=>∃ xo xc,e = .returned (.tuple #[.agg #[.int .i64 1,.int .i64 1,.slice xo 1 xc],.int .i64 0])∧BitsAt w'' xo xc [((4611686018427387904:Nat):Int)]∧Below w'.heap.size w' w'') :
  Calls Tryz.prog 21 #[] w fun e w'=>e = .returned (.bool true)∧Below w.heap.size w w':=by
 have K1:=hide C1
 have b1:=below_alloc9 w (.cells #[.int .u64 ((4611686018427387904:Nat):Int)] 28)
 have t1:=one_bits17 w 4611686018427387904 (by decide)
 have b2:=below_alloc9 (w.alloc (.cells #[.int .u64 ((4611686018427387904:Nat):Int)] 28)) (.cells #[.int .u64 ((4616189618054758400:Nat):Int)] 28)
 have t2:=one_bits17 (w.alloc (.cells #[.int .u64 ((4611686018427387904:Nat):Int)] 28)) 4616189618054758400 (by decide)
 rw [size_alloc9] at t2
 have TB:=hide (t1.below b2);have TC:=hide t2
 have BB:=hide (b1.trans (b2.mono b1.size))
 clear C1 b1 t1 b2 t2
 go_enter Tryz.func21,Tryz.ntmps21
 go_wp2_with fail
 refine (uH K1 _ _ _ (uH BB) (uH TB) (uH TC)).mono ?_
 rintro e w1 ⟨xo,xc,rfl,bv,hb⟩
 obtain ⟨b,off,rfl,_,hc⟩:=bv.ne (by decide)
 have c0:w1.cell? ⟨b,off+0,none⟩ = some (.int .u64 4611686018427387904):=hc 0 (by decide)
 rw [Nat.add_zero] at c0
 replace BB:=hide ((uH BB).trans (hb.mono (uH BB).size))
 clear hb K1 TB TC bv hc
 have ba:=below_alloc9 w1 (.cells #[.int .i64 1,.int .i64 1,.slice (some ⟨b,off,none⟩) 1 xc] 25)
 have BC:=hide ((uH BB).trans (ba.mono (uH BB).size))
 clear ba BB
 go_wp2
 go_ret
 exact ⟨rfl,uH BC⟩
end Go.Proofs.YtdhmglmccafbnaaGreatDoor
namespace Go.Proofs.YtdhmglmccafbnaaGreatDoor
open Go.RowKit
theorem a17_k:facK 1 1 [4611686018427387904] = true:=by decide +kernel
theorem a17_t:lqT 1 1 [4611686018427387904] = [4611686018427387904]:=by decide +kernel
theorem a17_q:lqQ 1 1 [4611686018427387904] = [4607182418800017408]:=by decide +kernel
theorem a17_y:lqY 1 1 1 [4611686018427387904] [4616189618054758400] = [4616189618054758400]:=by
 unfold lqY
 rw [a17_q]
 decide +kernel
theorem a17_f:ftB 1 1 [4611686018427387904] = false:=by decide +kernel
theorem a17_u:upM 1 1 [4611686018427387904] [4616189618054758400] = [4611686018427387904]:=by decide +kernel
theorem awake17_facts:lqE 1 1 1 [4611686018427387904] [4616189618054758400] = 0∧lqU 1 1 1 [4611686018427387904] [4616189618054758400] = [4611686018427387904]:=by
 have hu:lqU 1 1 1 [4611686018427387904] [4616189618054758400] = [4611686018427387904]:=by
  unfold lqU
  rw [a17_t,a17_y]
  exact a17_u
 refine ⟨?_,hu⟩
 unfold lqE
 rw [hu,a17_k,a17_t,a17_y,a17_f]
 decide +kernel
theorem awake17_any (w:World) (hT:Tab w):∀ w',Below w.heap.size w w'→Calls Tryz.prog 21 #[] w' fun e w''=>e = .returned (.bool true)∧Below w'.heap.size w' w'':=fun w0 hb0 =>
 awake17_of w0 (fun w' ao bo hb h1 h2=>by
  have:=least_mx 1 1 1 1 1 ao bo [4611686018427387904] [4616189618054758400] w' ⟨h1,rfl,by decide,by decide⟩ ⟨h2,rfl,by decide,by decide⟩ (by decide +kernel) (by decide +kernel) (Nat.le_refl 1) ((hT.all hb0).all hb)
  rw [awake17_facts.1,awake17_facts.2] at this
  refine this.mono ?_
  rintro e w'' ⟨hans,hb2⟩
  rcases hans with ⟨_,xo,xc,rfl,_,h3,_,_⟩ | ⟨h0,_⟩
  ·exact ⟨xo,xc,rfl,h3,hb2⟩
  ·exact absurd rfl h0)
end Go.Proofs.YtdhmglmccafbnaaGreatDoor
namespace Go.Proofs.YtdhmglmccafbnaaGreatDoor
open Go.RowKit
attribute [local go_sem ↓] Go.wp_at_zero Go.wp_at_succ
theorem region_cut {P:Program} {c:Code} {Q:Exit→Act→World→Prop} {a:Act} {w:World} {T:Type} (f:Act→T→Act) (J:T→World→Prop) (h:Code.wp P c (Exit.then (fun a' w'=>∃ t:T,a' = f a t∧J t w') (fun _ _ _=>False)) a w) (k:∀ t w',J t w'→Q .normal (f a t) w'):Code.wp P c Q a w :=
 Code.wp_mono (fun e a' w' h=>by
  cases e <;> first
   | (obtain ⟨t,ha,hj⟩:=h
     rw [ha]
     exact k t w' hj)
   | exact h.elim) h
end Go.Proofs.YtdhmglmccafbnaaGreatDoor
namespace Go.Proofs.YtdhmglmccafbnaaGreatDoor
open Go.RowKit
attribute [local go_sem ↓] Go.wp_at_zero Go.wp_at_succ
theorem BoxM.not3 {w:World} {b:Nat} {x y z x' y' z':Value} (h:BoxM w b x y z) (h3:Box3 w b x' y' z'):False:=by
 have e:=h.symm.trans h3
 simp at e
end Go.Proofs.YtdhmglmccafbnaaGreatDoor
