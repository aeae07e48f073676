/- Part 41 of the texts. -/
import Derived.Test.YtlnphkioddknfaaGreatDoorPartl40
import Derived.Test.YtlnphkioddknfaaGreatDoorPartl39
import Derived.Test.YtlnphkioddknfaaGreatDoorPartl38
import Derived.Test.YtlnphkioddknfaaGreatDoorPartl31
import Derived.Test.YtlnphkioddknfaaGreatDoorPartl33
import Derived.Test.YtlnphkioddknfaaGreatDoorPartl27
set_option maxHeartbeats 32000000
set_option maxRecDepth 20000
namespace Go.Proofs.YtlnphkioddknfaaGreatDoor
open Go.RowKit
attribute [local go_sem ↓] Go.wp_at_zero Go.wp_at_succ
theorem upper_of (r c p q f:Int) (ao bo:Option Addr) (k cap m d n u:Nat) (M:List Nat) (w:World)
  (C1:∀ w',Below w.heap.size w w'→Calls Tryz.prog 45 #[.agg #[.int .i64 r,.int .i64 c,.slice ao k cap],.agg #[.int .i64 p,.int .i64 q,.slice bo m d],.func (.func 46) #[.int .i64 r] #[],.func (.func 47) #[] #[]] w' fun e w''=>SvAns w' w'' f n u M e∧Below w'.heap.size w' w'') :
  Calls Tryz.prog 12 #[.agg #[.int .i64 r,.int .i64 c,.slice ao k cap],.agg #[.int .i64 p,.int .i64 q,.slice bo m d]] w fun e w'=>SvAns w w' f n u M e∧Below w.heap.size w w':=by
 have KB:=hide (boxes3_17 w (.int .i64 r) (.int .i64 c) (.slice ao k cap) (.int .i64 p) (.int .i64 q) (.slice bo m d) (.int .i64 0) (.int .i64 0) (.slice none 0 0))
 obtain ⟨b0,x0,x1,x2⟩:=uH KB _ (by have:=Below.refl (((w.alloc (.cells #[.int .i64 r,.int .i64 c,.slice ao k cap] 24)).alloc (.cells #[.int .i64 p,.int .i64 q,.slice bo m d] 24)).alloc (.cells #[.int .i64 0,.int .i64 0,.slice none 0 0] 24)).heap.size (((w.alloc (.cells #[.int .i64 r,.int .i64 c,.slice ao k cap] 24)).alloc (.cells #[.int .i64 p,.int .i64 q,.slice bo m d] 24)).alloc (.cells #[.int .i64 0,.int .i64 0,.slice none 0 0] 24));simpa only [size_alloc9] using this)
 have K1:=hide (C1 _ b0)
 have HB:=hide b0;have HR:=hide x2
 have y0:=x0.c0;have y1:=x0.c1;have y2:=x0.c2;have u0:=x1.c0;have u1:=x1.c1;have u2:=x1.c2
 clear C1 KB b0 x0 x1 x2
 go_enter Tryz.func12,Tryz.ntmps12
 go_wp2_with fail
 clear y0 y1 y2 u0 u1 u2
 refine (uH K1).mono ?_
 rintro e w1 ⟨hans,hb⟩
 replace HR:=hide ((uH HR).all hb)
 have HB0:=hide (uH HB).size
 replace HB:=hide ((uH HB).trans (hb.mono (uH HB).size))
 clear hb K1
 rcases hans with ⟨rfl,xo,xc,rfl,hn,hq,hl,hf⟩ | ⟨hf,rfl⟩
 ·have HN:=hide (hn.least (uH HB0))
  have HQ:=hide hq
  have HL:=hide hl;have HF:=hide hf
  obtain ⟨L,hL⟩:∃ L,n * u = L:=⟨_,rfl⟩
  rw [hL]
  have EL:=hide hL
  have X3:=uH HR
  have f0:=X3.free 0;have f1:=X3.free 1;have f2:=X3.free 2
  have s0:=X3.c0;have s1:=X3.c1;have s2:=X3.c2
  have XP:=X3.put (.int .i64 n) (.int .i64 u) (.slice xo L xc)
  have z0:=XP.c0;have z1:=XP.c1;have z2:=XP.c2
  have BP:=hide (below_putM (uH HB) (b:=w.heap.size+1+1) (by omega) (.int .i64 n) (.int .i64 u) (.slice xo L xc))
  have QP:=hide ((uH HQ).putM X3 (.int .i64 n) (.int .i64 u) (.slice xo L xc))
  clear XP X3 hn hq hl hf hL
  go_wp2_with fail
  exact bodyPost_ret (v:=.tuple #[.agg #[.int .i64 n,.int .i64 u,.slice xo L xc],.int .i64 0]) (by simp [results,Tryz.results12,go_sem,z0,z1,z2]) rfl ⟨.inl ⟨rfl,xo,xc,by rw [uH EL],uH HN,uH QP,uH HL,uH HF⟩,uH BP⟩
 ·have X3:=uH HR
  have f0:=X3.free 0;have f1:=X3.free 1;have f2:=X3.free 2
  have s0:=X3.c0;have s1:=X3.c1;have s2:=X3.c2
  have XP:=X3.put (.int .i64 0) (.int .i64 0) (.slice none 0 0)
  have z0:=XP.c0;have z1:=XP.c1;have z2:=XP.c2
  have BP:=hide (below_putM (uH HB) (b:=w.heap.size+1+1) (by omega) (.int .i64 0) (.int .i64 0) (.slice none 0 0))
  have HF:=hide hf
  clear XP X3 hf
  go_wp2_with fail
  exact bodyPost_ret (v:=.tuple #[.agg #[.int .i64 0,.int .i64 0,.slice none 0 0],.int .i64 f]) (by simp [results,Tryz.results12,go_sem,z0,z1,z2]) rfl ⟨.inr ⟨uH HF,rfl⟩,uH BP⟩
theorem lower_of (r c p q f:Int) (ao bo:Option Addr) (k cap m d n u:Nat) (M:List Nat) (w:World)
  (C1:∀ w',Below w.heap.size w w'→Calls Tryz.prog 45 #[.agg #[.int .i64 r,.int .i64 c,.slice ao k cap],.agg #[.int .i64 p,.int .i64 q,.slice bo m d],.func (.func 54) #[.int .i64 r] #[],.func (.func 55) #[] #[]] w' fun e w''=>SvAns w' w'' f n u M e∧Below w'.heap.size w' w'') :
  Calls Tryz.prog 16 #[.agg #[.int .i64 r,.int .i64 c,.slice ao k cap],.agg #[.int .i64 p,.int .i64 q,.slice bo m d]] w fun e w'=>SvAns w w' f n u M e∧Below w.heap.size w w':=by
 have KB:=hide (boxes3_17 w (.int .i64 r) (.int .i64 c) (.slice ao k cap) (.int .i64 p) (.int .i64 q) (.slice bo m d) (.int .i64 0) (.int .i64 0) (.slice none 0 0))
 obtain ⟨b0,x0,x1,x2⟩:=uH KB _ (by have:=Below.refl (((w.alloc (.cells #[.int .i64 r,.int .i64 c,.slice ao k cap] 24)).alloc (.cells #[.int .i64 p,.int .i64 q,.slice bo m d] 24)).alloc (.cells #[.int .i64 0,.int .i64 0,.slice none 0 0] 24)).heap.size (((w.alloc (.cells #[.int .i64 r,.int .i64 c,.slice ao k cap] 24)).alloc (.cells #[.int .i64 p,.int .i64 q,.slice bo m d] 24)).alloc (.cells #[.int .i64 0,.int .i64 0,.slice none 0 0] 24));simpa only [size_alloc9] using this)
 have K1:=hide (C1 _ b0)
 have HB:=hide b0;have HR:=hide x2
 have y0:=x0.c0;have y1:=x0.c1;have y2:=x0.c2;have u0:=x1.c0;have u1:=x1.c1;have u2:=x1.c2
 clear C1 KB b0 x0 x1 x2
 go_enter Tryz.func16,Tryz.ntmps16
 go_wp2_with fail
 clear y0 y1 y2 u0 u1 u2
 refine (uH K1).mono ?_
 rintro e w1 ⟨hans,hb⟩
 replace HR:=hide ((uH HR).all hb)
 have HB0:=hide (uH HB).size
 replace HB:=hide ((uH HB).trans (hb.mono (uH HB).size))
 clear hb K1
 rcases hans with ⟨rfl,xo,xc,rfl,hn,hq,hl,hf⟩ | ⟨hf,rfl⟩
 ·have HN:=hide (hn.least (uH HB0))
  have HQ:=hide hq
  have HL:=hide hl;have HF:=hide hf
  obtain ⟨L,hL⟩:∃ L,n * u = L:=⟨_,rfl⟩
  rw [hL]
  have EL:=hide hL
  have X3:=uH HR
  have f0:=X3.free 0;have f1:=X3.free 1;have f2:=X3.free 2
  have s0:=X3.c0;have s1:=X3.c1;have s2:=X3.c2
  have XP:=X3.put (.int .i64 n) (.int .i64 u) (.slice xo L xc)
  have z0:=XP.c0;have z1:=XP.c1;have z2:=XP.c2
  have BP:=hide (below_putM (uH HB) (b:=w.heap.size+1+1) (by omega) (.int .i64 n) (.int .i64 u) (.slice xo L xc))
  have QP:=hide ((uH HQ).putM X3 (.int .i64 n) (.int .i64 u) (.slice xo L xc))
  clear XP X3 hn hq hl hf hL
  go_wp2_with fail
  exact bodyPost_ret (v:=.tuple #[.agg #[.int .i64 n,.int .i64 u,.slice xo L xc],.int .i64 0]) (by simp [results,Tryz.results16,go_sem,z0,z1,z2]) rfl ⟨.inl ⟨rfl,xo,xc,by rw [uH EL],uH HN,uH QP,uH HL,uH HF⟩,uH BP⟩
 ·have X3:=uH HR
  have f0:=X3.free 0;have f1:=X3.free 1;have f2:=X3.free 2
  have s0:=X3.c0;have s1:=X3.c1;have s2:=X3.c2
  have XP:=X3.put (.int .i64 0) (.int .i64 0) (.slice none 0 0)
  have z0:=XP.c0;have z1:=XP.c1;have z2:=XP.c2
  have BP:=hide (below_putM (uH HB) (b:=w.heap.size+1+1) (by omega) (.int .i64 0) (.int .i64 0) (.slice none 0 0))
  have HF:=hide hf
  clear XP X3 hf
  go_wp2_with fail
  exact bodyPost_ret (v:=.tuple #[.agg #[.int .i64 0,.int .i64 0,.slice none 0 0],.int .i64 f]) (by simp [results,Tryz.results16,go_sem,z0,z1,z2]) rfl ⟨.inr ⟨uH HF,rfl⟩,uH BP⟩
theorem upper_mx (n q tc bc:Nat) (tq bo:Option Addr) (T B:List Nat) (w:World) (hT:Mx w tq tc n n T) (hB:Mx w bo bc n q B) (fT:finL T = true) (fB:finL B = true) (hTab:Tab w) :
  Calls Tryz.prog 12 #[.agg #[.int .i64 n,.int .i64 n,.slice tq T.length tc],.agg #[.int .i64 n,.int .i64 q,.slice bo B.length bc]] w fun e w'=>SvAns w w' (usE n T (upM n q T B)) n q (upM n q T B) e∧Below w.heap.size w w' :=
 upper_of n n n q (usE n T (upM n q T B)) tq bo T.length tc B.length bc n q (upM n q T B) w (fun w' hb=>solved_mx n q tc bc 46 47 tq bo T B (fun m=>n - 1 - m) dnU w' (hT.below hb) (hB.below hb) fT fB (ord_last n) cfLast cfUp1 (fun w' m hm=>fromLast_any n m w' hT.2.2.1 hm) (fun w' i k _ _=>up1_any i k w') (hTab.all hb))
theorem upper_no (r c p q:Int) (ao bo:Option Addr) (cap d:Nat) (I J:List Int) (w:World) (hI:BitsAt w ao cap I) (hJ:BitsAt w bo d J) (hi:I.length≤35184372088830) (hj:J.length≤35184372088830) (h:trE17 r c p q I J ≠ 0) :
  Calls Tryz.prog 12 #[.agg #[.int .i64 r,.int .i64 c,.slice ao I.length cap],.agg #[.int .i64 p,.int .i64 q,.slice bo J.length d]] w fun e w'=>SvAns w w' (trE17 r c p q I J) 0 0 [] e∧Below w.heap.size w w' :=
 upper_of r c p q (trE17 r c p q I J) ao bo I.length cap J.length d 0 0 [] w (fun w' hb=>(solved_no r c p q ao bo cap d I J _ _ w' (hI.below hb) (hJ.below hb) hi hj h).mono (by
  rintro e w'' ⟨rfl,hb2⟩
  exact ⟨.inr ⟨h,rfl⟩,hb2⟩))
theorem lower_mx (n q tc bc:Nat) (tq bo:Option Addr) (T B:List Nat) (w:World) (hT:Mx w tq tc n n T) (hB:Mx w bo bc n q B) (fT:finL T = true) (fB:finL B = true) (hTab:Tab w) :
  Calls Tryz.prog 16 #[.agg #[.int .i64 n,.int .i64 n,.slice tq T.length tc],.agg #[.int .i64 n,.int .i64 q,.slice bo B.length bc]] w fun e w'=>SvAns w w' (usE n T (loM n q T B)) n q (loM n q T B) e∧Below w.heap.size w w' :=
 lower_of n n n q (usE n T (loM n q T B)) tq bo T.length tc B.length bc n q (loM n q T B) w (fun w' hb=>solved_mx n q tc bc 54 55 tq bo T B (fun m=>m) dnL w' (hT.below hb) (hB.below hb) fT fB (ord_first n) cfFirst cfLo1 (fun w' m _=>fromFirst_any n m w') (fun w' i k _ _=>lo1_any i k w') (hTab.all hb))
theorem lower_no (r c p q:Int) (ao bo:Option Addr) (cap d:Nat) (I J:List Int) (w:World) (hI:BitsAt w ao cap I) (hJ:BitsAt w bo d J) (hi:I.length≤35184372088830) (hj:J.length≤35184372088830) (h:trE17 r c p q I J ≠ 0) :
  Calls Tryz.prog 16 #[.agg #[.int .i64 r,.int .i64 c,.slice ao I.length cap],.agg #[.int .i64 p,.int .i64 q,.slice bo J.length d]] w fun e w'=>SvAns w w' (trE17 r c p q I J) 0 0 [] e∧Below w.heap.size w w' :=
 lower_of r c p q (trE17 r c p q I J) ao bo I.length cap J.length d 0 0 [] w (fun w' hb=>(solved_no r c p q ao bo cap d I J _ _ w' (hI.below hb) (hJ.below hb) hi hj h).mono (by
  rintro e w'' ⟨rfl,hb2⟩
  exact ⟨.inr ⟨h,rfl⟩,hb2⟩))
theorem bg_dg (D:List Nat):bgK (mxL D) D.length = bgF 0 D:=by
 have:=bgK_all (mxL D)
 rwa [mxL_len,toN_mxL] at this
theorem bgF_lt17 (D:List Nat):bgF 0 D < 18446744073709551616:=by
 rw [← bg_dg]
 exact bgK_lt _ _
theorem fR_lt17 (a:Nat):fR a < 18446744073709551616:=by unfold fR;omega
theorem flat_any (r c cap:Nat) (ao:Option Addr) (S:List Nat) (w:World) (h:Mx w ao cap r c S) (hf:finL S = true) (hT:Tab w) :
  Calls Tryz.prog 18 #[.agg #[.int .i64 r,.int .i64 c,.slice ao S.length cap]] w fun e w'=>e = .returned (.tuple #[.bool (ftB r c S),.int .i64 0])∧Below w.heap.size w w':=by
 have h36:=h.small
 have r6:=h.2.2.1
 have hl:(dgL r c S).length = min r c:=dgL_len r c S
 refine flat_of r c S.length cap (min r c) (bgF 0 (dgL r c S)) (xV (bgF 0 (dgL r c S)) (-40)) ao (dgL r c S) (ftB r c S) w (fun w' hb=>?_) (fun w' hb=>diagonal_any r c cap (min r c) ao S w' (h.below hb) rfl) (fun w' g hb hr=>?_) (fun w' hb=>vscale_any _ (-40) w' (bgF_lt17 _) (hT.all hb)) (fun w' g b hb hr hc=>?_)
 ·have:=ccheck_any r c ao cap (mxL S) w' (h.1.below hb) (by rw [mxL_len];omega)
  rw [mxL_len,ck_mx h hf] at this
  exact this
 ·have:=vBiggest_any (some ⟨g,0,none⟩) (min r c) (mxL (dgL r c S)) w' (rowb_bits hr hl (dgL_lt h)) (by rw [mxL_len,hl];omega)
  rw [mxL_len,bg_dg,hl] at this
  exact this
 ·refine contF_any 61 #[.pointer (some ⟨b,0,none⟩)] (some ⟨g,0,none⟩) (min r c) (min r c) (dgL r c S) (fun x=>!ltB (xV (bgF 0 (dgL r c S)) (-40)) (fR x)) w' hl (by omega) (rowb_bits hr hl (dgL_lt h)) cfFlat1 (fun w'' k hb2 hk=>?_)
  have hx:=getD_ltA (dgL_lt h) k
  exact flat1_of _ _ (fR ((dgL r c S).getD k 0)) b (ltB (xV (bgF 0 (dgL r c S)) (-40)) (fR ((dgL r c S).getD k 0))) w'' (cell_keep hc hb2) (fun w3 _=>cabs_any _ w3 hx) (fun w3 _=>less17_any _ _ w3 (xV_lt _ _ (bgF_lt17 _)) (fR_lt17 _))
theorem flat_no (r c:Int) (cap:Nat) (ao:Option Addr) (I:List Int) (w:World) (hI:BitsAt w ao cap I) (hi:I.length≤35184372088830) (h:ckE r c I ≠ 0) :
  Calls Tryz.prog 18 #[.agg #[.int .i64 r,.int .i64 c,.slice ao I.length cap]] w fun e w'=>e = .returned (.tuple #[.bool false,.int .i64 (ckE r c I)])∧Below w.heap.size w w' :=
 flat_err r c ao I.length cap (ckE r c I) w ((ckE_cases r c I).resolve_left h) (fun w' hb=>ccheck_any r c ao cap I w' (hI.below hb) hi)
end Go.Proofs.YtlnphkioddknfaaGreatDoor
namespace Go.Proofs.YtlnphkioddknfaaGreatDoor
open Go.RowKit
attribute [local go_sem ↓] Go.wp_at_zero Go.wp_at_succ
theorem least_err (r c p q er:Int) (tn tc bn bc:Nat) (tq bo:Option Addr) (w:World) (her:er = 1 ∨ er = 4)
  (C1:∀ w',Below w.heap.size w w'→Calls Tryz.prog 70 #[.agg #[.int .i64 r,.int .i64 c,.slice tq tn tc],.agg #[.int .i64 p,.int .i64 q,.slice bo bn bc]] w' fun e w''=>e = .returned (.int .i64 er)∧Below w'.heap.size w' w'') :
  Calls Tryz.prog 22 #[.agg #[.int .i64 r,.int .i64 c,.slice tq tn tc],.agg #[.int .i64 p,.int .i64 q,.slice bo bn bc]] w fun e w'=>e = .returned (.tuple #[.agg #[.int .i64 0,.int .i64 0,.slice none 0 0],.int .i64 er])∧Below w.heap.size w w':=by
 have KB:=hide (boxes3_17 w (.int .i64 r) (.int .i64 c) (.slice tq tn tc) (.int .i64 p) (.int .i64 q) (.slice bo bn bc) (.int .i64 0) (.int .i64 0) (.slice none 0 0))
 obtain ⟨b0,x0,x1,x2⟩:=uH KB _ (by have:=Below.refl (((w.alloc (.cells #[.int .i64 r,.int .i64 c,.slice tq tn tc] 24)).alloc (.cells #[.int .i64 p,.int .i64 q,.slice bo bn bc] 24)).alloc (.cells #[.int .i64 0,.int .i64 0,.slice none 0 0] 24)).heap.size (((w.alloc (.cells #[.int .i64 r,.int .i64 c,.slice tq tn tc] 24)).alloc (.cells #[.int .i64 p,.int .i64 q,.slice bo bn bc] 24)).alloc (.cells #[.int .i64 0,.int .i64 0,.slice none 0 0] 24));simpa only [size_alloc9] using this)
 have K1:=hide (C1 _ b0)
 have HB:=hide b0;have HT:=hide x0;have HU:=hide x1;have HR:=hide x2
 have y0:=x0.c0;have y1:=x0.c1;have y2:=x0.c2;have u0:=x1.c0;have u1:=x1.c1;have u2:=x1.c2
 clear C1 KB b0 x0 x1 x2
 rcases her with rfl | rfl
 all_goals
  go_enter Tryz.func22,Tryz.ntmps22
  go_wp2_with fail
  clear y0 y1 y2 u0 u1 u2
  refine (uH K1).mono ?_
  rintro e w1 ⟨rfl,hb⟩
  replace HT:=hide ((uH HT).all hb)
  replace HU:=hide ((uH HU).all hb)
  replace HR:=hide ((uH HR).all hb)
  replace HB:=hide ((uH HB).trans (hb.mono (uH HB).size))
  clear hb K1
  have y0:=(uH HT).c0;have y1:=(uH HT).c1;have y2:=(uH HT).c2;have u0:=(uH HU).c0;have u1:=(uH HU).c1;have u2:=(uH HU).c2
  clear y0 y1 y2 u0 u1 u2
  have X3:=uH HR
  have f0:=X3.free 0;have f1:=X3.free 1;have f2:=X3.free 2
  have s0:=X3.c0;have s1:=X3.c1;have s2:=X3.c2
  have XP:=X3.put (.int .i64 0) (.int .i64 0) (.slice none 0 0)
  have z0:=XP.c0;have z1:=XP.c1;have z2:=XP.c2
  have BP:=hide (below_putM (uH HB) (b:=w.heap.size+1+1) (by omega) (.int .i64 0) (.int .i64 0) (.slice none 0 0))
  clear XP X3
  go_wp2_with fail
  exact bodyPost_ret (v:=.tuple #[.agg #[.int .i64 0,.int .i64 0,.slice none 0 0],.int .i64 _]) (by simp [results,Tryz.results22,go_sem,z0,z1,z2]) rfl ⟨rfl,uH BP⟩
theorem least_shape (r c p q:Int) (tn tc bn bc:Nat) (tq bo:Option Addr) (w:World) (hsh:r < c ∨ (¬ r < c∧¬ r = p))
  (C1:∀ w',Below w.heap.size w w'→Calls Tryz.prog 70 #[.agg #[.int .i64 r,.int .i64 c,.slice tq tn tc],.agg #[.int .i64 p,.int .i64 q,.slice bo bn bc]] w' fun e w''=>e = .returned (.int .i64 0)∧Below w'.heap.size w' w'') :
  Calls Tryz.prog 22 #[.agg #[.int .i64 r,.int .i64 c,.slice tq tn tc],.agg #[.int .i64 p,.int .i64 q,.slice bo bn bc]] w fun e w'=>e = .returned (.tuple #[.agg #[.int .i64 0,.int .i64 0,.slice none 0 0],.int .i64 3])∧Below w.heap.size w w':=by
 have KB:=hide (boxes3_17 w (.int .i64 r) (.int .i64 c) (.slice tq tn tc) (.int .i64 p) (.int .i64 q) (.slice bo bn bc) (.int .i64 0) (.int .i64 0) (.slice none 0 0))
 obtain ⟨b0,x0,x1,x2⟩:=uH KB _ (by have:=Below.refl (((w.alloc (.cells #[.int .i64 r,.int .i64 c,.slice tq tn tc] 24)).alloc (.cells #[.int .i64 p,.int .i64 q,.slice bo bn bc] 24)).alloc (.cells #[.int .i64 0,.int .i64 0,.slice none 0 0] 24)).heap.size (((w.alloc (.cells #[.int .i64 r,.int .i64 c,.slice tq tn tc] 24)).alloc (.cells #[.int .i64 p,.int .i64 q,.slice bo bn bc] 24)).alloc (.cells #[.int .i64 0,.int .i64 0,.slice none 0 0] 24));simpa only [size_alloc9] using this)
 have K1:=hide (C1 _ b0)
 have HB:=hide b0;have HT:=hide x0;have HU:=hide x1;have HR:=hide x2
 have y0:=x0.c0;have y1:=x0.c1;have y2:=x0.c2;have u0:=x1.c0;have u1:=x1.c1;have u2:=x1.c2
 clear C1 KB b0 x0 x1 x2
 have hne:¬ r < c→¬ r = p→(r != p) = true:=fun _ e=>bne_iff_ne.2 e
 rcases hsh with hsh | ⟨hsh,hsh2⟩
 ·clear hne
  go_enter Tryz.func22,Tryz.ntmps22
  go_wp2_with fail
  clear y0 y1 y2 u0 u1 u2
  refine (uH K1).mono ?_
  rintro e w1 ⟨rfl,hb⟩
  replace HT:=hide ((uH HT).all hb)
  replace HU:=hide ((uH HU).all hb)
  replace HR:=hide ((uH HR).all hb)
  replace HB:=hide ((uH HB).trans (hb.mono (uH HB).size))
  clear hb K1
  have y0:=(uH HT).c0;have y1:=(uH HT).c1;have y2:=(uH HT).c2;have u0:=(uH HU).c0;have u1:=(uH HU).c1;have u2:=(uH HU).c2
  have X3:=uH HR
  have f0:=X3.free 0;have f1:=X3.free 1;have f2:=X3.free 2
  have s0:=X3.c0;have s1:=X3.c1;have s2:=X3.c2
  have XP:=X3.put (.int .i64 0) (.int .i64 0) (.slice none 0 0)
  have z0:=XP.c0;have z1:=XP.c1;have z2:=XP.c2
  have BP:=hide (below_putM (uH HB) (b:=w.heap.size+1+1) (by omega) (.int .i64 0) (.int .i64 0) (.slice none 0 0))
  clear XP X3
  go_wp2_with fail
  exact bodyPost_ret (v:=.tuple #[.agg #[.int .i64 0,.int .i64 0,.slice none 0 0],.int .i64 3]) (by simp [results,Tryz.results22,go_sem,z0,z1,z2]) rfl ⟨rfl,uH BP⟩
 ·replace hne:=hne hsh hsh2
  go_enter Tryz.func22,Tryz.ntmps22
  go_wp2_with fail
  clear y0 y1 y2 u0 u1 u2
  refine (uH K1).mono ?_
  rintro e w1 ⟨rfl,hb⟩
  replace HT:=hide ((uH HT).all hb)
  replace HU:=hide ((uH HU).all hb)
  replace HR:=hide ((uH HR).all hb)
  replace HB:=hide ((uH HB).trans (hb.mono (uH HB).size))
  clear hb K1
  have y0:=(uH HT).c0;have y1:=(uH HT).c1;have y2:=(uH HT).c2;have u0:=(uH HU).c0;have u1:=(uH HU).c1;have u2:=(uH HU).c2
  have X3:=uH HR
  have f0:=X3.free 0;have f1:=X3.free 1;have f2:=X3.free 2
  have s0:=X3.c0;have s1:=X3.c1;have s2:=X3.c2
  have XP:=X3.put (.int .i64 0) (.int .i64 0) (.slice none 0 0)
  have z0:=XP.c0;have z1:=XP.c1;have z2:=XP.c2
  have BP:=hide (below_putM (uH HB) (b:=w.heap.size+1+1) (by omega) (.int .i64 0) (.int .i64 0) (.slice none 0 0))
  clear XP X3
  go_wp2_with fail
  exact bodyPost_ret (v:=.tuple #[.agg #[.int .i64 0,.int .i64 0,.slice none 0 0],.int .i64 3]) (by simp [results,Tryz.results22,go_sem,z0,z1,z2]) rfl ⟨rfl,uH BP⟩
theorem least_range (r c q:Int) (tn tc bn bc:Nat) (tq bo:Option Addr) (w:World) (hsh:¬ r < c)
  (C1:∀ w',Below w.heap.size w w'→Calls Tryz.prog 70 #[.agg #[.int .i64 r,.int .i64 c,.slice tq tn tc],.agg #[.int .i64 r,.int .i64 q,.slice bo bn bc]] w' fun e w''=>e = .returned (.int .i64 0)∧Below w'.heap.size w' w'')
  (C2:∀ w',Below w.heap.size w w'→Calls Tryz.prog 71 #[.agg #[.int .i64 r,.int .i64 c,.slice tq tn tc]] w' fun e w''=>∃ (a1 a2 b1 b2:Int) (so vo:Option Addr) (sn sd vn vd:Nat),e = .returned (.tuple #[.agg #[.int .i64 a1,.int .i64 a2,.slice so sn sd],.agg #[.int .i64 b1,.int .i64 b2,.slice vo vn vd],.int .i64 2])∧Below w'.heap.size w' w'') :
  Calls Tryz.prog 22 #[.agg #[.int .i64 r,.int .i64 c,.slice tq tn tc],.agg #[.int .i64 r,.int .i64 q,.slice bo bn bc]] w fun e w'=>e = .returned (.tuple #[.agg #[.int .i64 0,.int .i64 0,.slice none 0 0],.int .i64 2])∧Below w.heap.size w w':=by
 have KB:=hide (boxes3_17 w (.int .i64 r) (.int .i64 c) (.slice tq tn tc) (.int .i64 r) (.int .i64 q) (.slice bo bn bc) (.int .i64 0) (.int .i64 0) (.slice none 0 0))
 obtain ⟨b0,x0,x1,x2⟩:=uH KB _ (by have:=Below.refl (((w.alloc (.cells #[.int .i64 r,.int .i64 c,.slice tq tn tc] 24)).alloc (.cells #[.int .i64 r,.int .i64 q,.slice bo bn bc] 24)).alloc (.cells #[.int .i64 0,.int .i64 0,.slice none 0 0] 24)).heap.size (((w.alloc (.cells #[.int .i64 r,.int .i64 c,.slice tq tn tc] 24)).alloc (.cells #[.int .i64 r,.int .i64 q,.slice bo bn bc] 24)).alloc (.cells #[.int .i64 0,.int .i64 0,.slice none 0 0] 24));simpa only [size_alloc9] using this)
 have K1:=hide (C1 _ b0)
 have HB:=hide b0;have HT:=hide x0;have HU:=hide x1;have HR:=hide x2
 have K2:=hide C2
 have y0:=x0.c0;have y1:=x0.c1;have y2:=x0.c2;have u0:=x1.c0;have u1:=x1.c1;have u2:=x1.c2
 clear C2 C1 KB b0 x0 x1 x2
 go_enter Tryz.func22,Tryz.ntmps22
 go_wp2_with fail
 clear y0 y1 y2 u0 u1 u2
 refine (uH K1).mono ?_
 rintro e w1 ⟨rfl,hb⟩
 replace HT:=hide ((uH HT).all hb)
 replace HU:=hide ((uH HU).all hb)
 replace HR:=hide ((uH HR).all hb)
 replace HB:=hide ((uH HB).trans (hb.mono (uH HB).size))
 clear hb K1
 have y0:=(uH HT).c0;have y1:=(uH HT).c1;have y2:=(uH HT).c2;have u0:=(uH HU).c0;have u1:=(uH HU).c1;have u2:=(uH HU).c2
 go_wp2_with fail
 clear y0 y1 y2 u0 u1 u2
 refine (uH K2 _ (uH HB)).mono ?_
 rintro e w2 ⟨a1,a2,b1,b2,so,vo,sn,sd,vn,vd,rfl,hb⟩
 replace HU:=hide ((uH HU).all hb)
 replace HR:=hide ((uH HR).all hb)
 replace HB:=hide ((uH HB).trans (hb.mono (uH HB).size))
 clear hb K2
 have ba:=below_alloc9 w2 (.cells #[.int .i64 a1,.int .i64 a2,.slice so sn sd] 24)
 have ba2:=below_alloc9 (w2.alloc (.cells #[.int .i64 a1,.int .i64 a2,.slice so sn sd] 24)) (.cells #[.int .i64 b1,.int .i64 b2,.slice vo vn vd] 24)
 replace HR:=hide (((uH HR).all ba).all ba2)
 replace HB:=hide (((uH HB).trans (ba.mono (uH HB).size)).trans (ba2.mono ((uH HB).trans (ba.mono (uH HB).size)).size))
 clear ba ba2 HT HU
 have X3:=uH HR
 have f0:=X3.free 0;have f1:=X3.free 1;have f2:=X3.free 2
 have s0:=X3.c0;have s1:=X3.c1;have s2:=X3.c2
 have XP:=X3.put (.int .i64 0) (.int .i64 0) (.slice none 0 0)
 have z0:=XP.c0;have z1:=XP.c1;have z2:=XP.c2
 have BP:=hide (below_putM (uH HB) (b:=w.heap.size+1+1) (by omega) (.int .i64 0) (.int .i64 0) (.slice none 0 0))
 clear XP X3
 go_wp2_with fail
 exact bodyPost_ret (v:=.tuple #[.agg #[.int .i64 0,.int .i64 0,.slice none 0 0],.int .i64 2]) (by simp [results,Tryz.results22,go_sem,z0,z1,z2]) rfl ⟨rfl,uH BP⟩
theorem least_rank (r c q:Int) (tn tc bn bc sn vn:Nat) (S V:List Nat) (tq bo:Option Addr) (w:World) (hsh:¬ r < c)
  (C1:∀ w',Below w.heap.size w w'→Calls Tryz.prog 70 #[.agg #[.int .i64 r,.int .i64 c,.slice tq tn tc],.agg #[.int .i64 r,.int .i64 q,.slice bo bn bc]] w' fun e w''=>e = .returned (.int .i64 0)∧Below w'.heap.size w' w'')
  (C2:∀ w',Below w.heap.size w w'→Calls Tryz.prog 71 #[.agg #[.int .i64 r,.int .i64 c,.slice tq tn tc]] w' fun e w''=>∃ so sd vo vd,e = .returned (.tuple #[.agg #[.int .i64 r,.int .i64 c,.slice so sn sd],.agg #[.int .i64 c,.int .i64 c,.slice vo vn vd],.int .i64 0])∧BitsAt w'' so sd (mxL S)∧BitsAt w'' vo vd (mxL V)∧Below w'.heap.size w' w'')
  (C3:∀ w' vo vd,Below w.heap.size w w'→BitsAt w' vo vd (mxL V)→Calls Tryz.prog 18 #[.agg #[.int .i64 c,.int .i64 c,.slice vo vn vd]] w' fun e w''=>e = .returned (.tuple #[.bool true,.int .i64 0])∧Below w'.heap.size w' w'') :
  Calls Tryz.prog 22 #[.agg #[.int .i64 r,.int .i64 c,.slice tq tn tc],.agg #[.int .i64 r,.int .i64 q,.slice bo bn bc]] w fun e w'=>e = .returned (.tuple #[.agg #[.int .i64 0,.int .i64 0,.slice none 0 0],.int .i64 5])∧Below w.heap.size w w':=by
 have KB:=hide (boxes3_17 w (.int .i64 r) (.int .i64 c) (.slice tq tn tc) (.int .i64 r) (.int .i64 q) (.slice bo bn bc) (.int .i64 0) (.int .i64 0) (.slice none 0 0))
 obtain ⟨b0,x0,x1,x2⟩:=uH KB _ (by have:=Below.refl (((w.alloc (.cells #[.int .i64 r,.int .i64 c,.slice tq tn tc] 24)).alloc (.cells #[.int .i64 r,.int .i64 q,.slice bo bn bc] 24)).alloc (.cells #[.int .i64 0,.int .i64 0,.slice none 0 0] 24)).heap.size (((w.alloc (.cells #[.int .i64 r,.int .i64 c,.slice tq tn tc] 24)).alloc (.cells #[.int .i64 r,.int .i64 q,.slice bo bn bc] 24)).alloc (.cells #[.int .i64 0,.int .i64 0,.slice none 0 0] 24));simpa only [size_alloc9] using this)
 have K1:=hide (C1 _ b0)
 have HB:=hide b0;have HT:=hide x0;have HU:=hide x1;have HR:=hide x2
 have K2:=hide C2;have K3:=hide C3
 have y0:=x0.c0;have y1:=x0.c1;have y2:=x0.c2;have u0:=x1.c0;have u1:=x1.c1;have u2:=x1.c2
 clear C3 C2 C1 KB b0 x0 x1 x2
 go_enter Tryz.func22,Tryz.ntmps22
 go_wp2_with fail
 clear y0 y1 y2 u0 u1 u2
 refine (uH K1).mono ?_
 rintro e w1 ⟨rfl,hb⟩
 replace HT:=hide ((uH HT).all hb)
 replace HU:=hide ((uH HU).all hb)
 replace HR:=hide ((uH HR).all hb)
 replace HB:=hide ((uH HB).trans (hb.mono (uH HB).size))
 clear hb K1
 have y0:=(uH HT).c0;have y1:=(uH HT).c1;have y2:=(uH HT).c2;have u0:=(uH HU).c0;have u1:=(uH HU).c1;have u2:=(uH HU).c2
 go_wp2_with fail
 clear y0 y1 y2 u0 u1 u2
 refine (uH K2 _ (uH HB)).mono ?_
 rintro e w2 ⟨so,sd,vo,vd,rfl,hs,hv,hb⟩
 replace HU:=hide ((uH HU).all hb)
 replace HR:=hide ((uH HR).all hb)
 replace HB:=hide ((uH HB).trans (hb.mono (uH HB).size))
 have ba:=below_alloc9 w2 (.cells #[.int .i64 r,.int .i64 c,.slice so sn sd] 24)
 have sa:=size_alloc9 w2 (.cells #[.int .i64 r,.int .i64 c,.slice so sn sd] 24)
 have xs:=BoxM.new w2 (.int .i64 r) (.int .i64 c) (.slice so sn sd)
 have ba2:=below_alloc9 (w2.alloc (.cells #[.int .i64 r,.int .i64 c,.slice so sn sd] 24)) (.cells #[.int .i64 c,.int .i64 c,.slice vo vn vd] 24)
 have xv:=BoxM.new (w2.alloc (.cells #[.int .i64 r,.int .i64 c,.slice so sn sd] 24)) (.int .i64 c) (.int .i64 c) (.slice vo vn vd)
 rw [sa] at xv
 have HS:=hide ((hs.below ba).below ba2)
 have HV:=hide ((hv.below ba).below ba2)
 have HXS:=hide (xs.all ba2)
 have HXV:=hide xv
 replace HU:=hide (((uH HU).all ba).all ba2)
 replace HR:=hide (((uH HR).all ba).all ba2)
 replace HB:=hide (((uH HB).trans (ba.mono (uH HB).size)).trans (ba2.mono ((uH HB).trans (ba.mono (uH HB).size)).size))
 clear hb K2 ba ba2 sa xs xv hs hv HT
 have v0:=(uH HXV).c0;have v1:=(uH HXV).c1;have v2:=(uH HXV).c2
 go_wp2_with fail
 clear v0 v1 v2
 refine (uH K3 _ vo vd (uH HB) (uH HV)).mono ?_
 rintro e w3 ⟨rfl,hb⟩
 replace HU:=hide ((uH HU).all hb)
 replace HR:=hide ((uH HR).all hb)
 replace HXS:=hide ((uH HXS).all hb)
 replace HXV:=hide ((uH HXV).all hb)
 replace HS:=hide ((uH HS).below hb)
 replace HV:=hide ((uH HV).below hb)
 replace HB:=hide ((uH HB).trans (hb.mono (uH HB).size))
 clear hb K3
 have X3:=uH HR
 have f0:=X3.free 0;have f1:=X3.free 1;have f2:=X3.free 2
 have s0:=X3.c0;have s1:=X3.c1;have s2:=X3.c2
 have XP:=X3.put (.int .i64 0) (.int .i64 0) (.slice none 0 0)
 have z0:=XP.c0;have z1:=XP.c1;have z2:=XP.c2
 have BP:=hide (below_putM (uH HB) (b:=w.heap.size+1+1) (by omega) (.int .i64 0) (.int .i64 0) (.slice none 0 0))
 clear XP X3
 go_wp2_with fail
 exact bodyPost_ret (v:=.tuple #[.agg #[.int .i64 0,.int .i64 0,.slice none 0 0],.int .i64 5]) (by simp [results,Tryz.results22,go_sem,z0,z1,z2]) rfl ⟨rfl,uH BP⟩
theorem least_of (r c q f:Int) (tn tc bn bc sn vn yn m u:Nat) (S V Y M:List Nat) (tq bo:Option Addr) (w:World) (hsh:¬ r < c)
  (C1:∀ w',Below w.heap.size w w'→Calls Tryz.prog 70 #[.agg #[.int .i64 r,.int .i64 c,.slice tq tn tc],.agg #[.int .i64 r,.int .i64 q,.slice bo bn bc]] w' fun e w''=>e = .returned (.int .i64 0)∧Below w'.heap.size w' w'')
  (C2:∀ w',Below w.heap.size w w'→Calls Tryz.prog 71 #[.agg #[.int .i64 r,.int .i64 c,.slice tq tn tc]] w' fun e w''=>∃ so sd vo vd,e = .returned (.tuple #[.agg #[.int .i64 r,.int .i64 c,.slice so sn sd],.agg #[.int .i64 c,.int .i64 c,.slice vo vn vd],.int .i64 0])∧BitsAt w'' so sd (mxL S)∧BitsAt w'' vo vd (mxL V)∧Below w'.heap.size w' w'')
  (C3:∀ w' vo vd,Below w.heap.size w w'→BitsAt w' vo vd (mxL V)→Calls Tryz.prog 18 #[.agg #[.int .i64 c,.int .i64 c,.slice vo vn vd]] w' fun e w''=>e = .returned (.tuple #[.bool false,.int .i64 0])∧Below w'.heap.size w' w'')
  (C4:∀ w' so sd,Below w.heap.size w w'→BitsAt w' so sd (mxL S)→Calls Tryz.prog 72 #[.agg #[.int .i64 r,.int .i64 c,.slice so sn sd],.agg #[.int .i64 r,.int .i64 q,.slice bo bn bc]] w' fun e w''=>∃ yo yd,e = .returned (.tuple #[.agg #[.int .i64 c,.int .i64 q,.slice yo yn yd],.int .i64 0])∧BitsAt w'' yo yd (mxL Y)∧Below w'.heap.size w' w'')
  (C5:∀ w' vo vd yo yd,Below w.heap.size w w'→BitsAt w' vo vd (mxL V)→BitsAt w' yo yd (mxL Y)→Calls Tryz.prog 12 #[.agg #[.int .i64 c,.int .i64 c,.slice vo vn vd],.agg #[.int .i64 c,.int .i64 q,.slice yo yn yd]] w' fun e w''=>SvAns w' w'' f m u M e∧Below w'.heap.size w' w'') :
  Calls Tryz.prog 22 #[.agg #[.int .i64 r,.int .i64 c,.slice tq tn tc],.agg #[.int .i64 r,.int .i64 q,.slice bo bn bc]] w fun e w'=>SvAns w w' f m u M e∧Below w.heap.size w w':=by
 have KB:=hide (boxes3_17 w (.int .i64 r) (.int .i64 c) (.slice tq tn tc) (.int .i64 r) (.int .i64 q) (.slice bo bn bc) (.int .i64 0) (.int .i64 0) (.slice none 0 0))
 obtain ⟨b0,x0,x1,x2⟩:=uH KB _ (by have:=Below.refl (((w.alloc (.cells #[.int .i64 r,.int .i64 c,.slice tq tn tc] 24)).alloc (.cells #[.int .i64 r,.int .i64 q,.slice bo bn bc] 24)).alloc (.cells #[.int .i64 0,.int .i64 0,.slice none 0 0] 24)).heap.size (((w.alloc (.cells #[.int .i64 r,.int .i64 c,.slice tq tn tc] 24)).alloc (.cells #[.int .i64 r,.int .i64 q,.slice bo bn bc] 24)).alloc (.cells #[.int .i64 0,.int .i64 0,.slice none 0 0] 24));simpa only [size_alloc9] using this)
 have K1:=hide (C1 _ b0)
 have HB:=hide b0;have HT:=hide x0;have HU:=hide x1;have HR:=hide x2
 have K2:=hide C2;have K3:=hide C3;have K4:=hide C4;have K5:=hide C5
 have y0:=x0.c0;have y1:=x0.c1;have y2:=x0.c2;have u0:=x1.c0;have u1:=x1.c1;have u2:=x1.c2
 clear C5 C4 C3 C2 C1 KB b0 x0 x1 x2
 go_enter Tryz.func22,Tryz.ntmps22
 go_wp2_with fail
 clear y0 y1 y2 u0 u1 u2
 refine (uH K1).mono ?_
 rintro e w1 ⟨rfl,hb⟩
 replace HT:=hide ((uH HT).all hb)
 replace HU:=hide ((uH HU).all hb)
 replace HR:=hide ((uH HR).all hb)
 replace HB:=hide ((uH HB).trans (hb.mono (uH HB).size))
 clear hb K1
 have y0:=(uH HT).c0;have y1:=(uH HT).c1;have y2:=(uH HT).c2;have u0:=(uH HU).c0;have u1:=(uH HU).c1;have u2:=(uH HU).c2
 go_wp2_with fail
 clear y0 y1 y2 u0 u1 u2
 refine (uH K2 _ (uH HB)).mono ?_
 rintro e w2 ⟨so,sd,vo,vd,rfl,hs,hv,hb⟩
 replace HU:=hide ((uH HU).all hb)
 replace HR:=hide ((uH HR).all hb)
 replace HB:=hide ((uH HB).trans (hb.mono (uH HB).size))
 have ba:=below_alloc9 w2 (.cells #[.int .i64 r,.int .i64 c,.slice so sn sd] 24)
 have sa:=size_alloc9 w2 (.cells #[.int .i64 r,.int .i64 c,.slice so sn sd] 24)
 have xs:=BoxM.new w2 (.int .i64 r) (.int .i64 c) (.slice so sn sd)
 have ba2:=below_alloc9 (w2.alloc (.cells #[.int .i64 r,.int .i64 c,.slice so sn sd] 24)) (.cells #[.int .i64 c,.int .i64 c,.slice vo vn vd] 24)
 have xv:=BoxM.new (w2.alloc (.cells #[.int .i64 r,.int .i64 c,.slice so sn sd] 24)) (.int .i64 c) (.int .i64 c) (.slice vo vn vd)
 rw [sa] at xv
 have HS:=hide ((hs.below ba).below ba2)
 have HV:=hide ((hv.below ba).below ba2)
 have HXS:=hide (xs.all ba2)
 have HXV:=hide xv
 replace HU:=hide (((uH HU).all ba).all ba2)
 replace HR:=hide (((uH HR).all ba).all ba2)
 replace HB:=hide (((uH HB).trans (ba.mono (uH HB).size)).trans (ba2.mono ((uH HB).trans (ba.mono (uH HB).size)).size))
 clear hb K2 ba ba2 sa xs xv hs hv HT
 have v0:=(uH HXV).c0;have v1:=(uH HXV).c1;have v2:=(uH HXV).c2
 go_wp2_with fail
 clear v0 v1 v2
 refine (uH K3 _ vo vd (uH HB) (uH HV)).mono ?_
 rintro e w3 ⟨rfl,hb⟩
 replace HU:=hide ((uH HU).all hb)
 replace HR:=hide ((uH HR).all hb)
 replace HXS:=hide ((uH HXS).all hb)
 replace HXV:=hide ((uH HXV).all hb)
 replace HS:=hide ((uH HS).below hb)
 replace HV:=hide ((uH HV).below hb)
 replace HB:=hide ((uH HB).trans (hb.mono (uH HB).size))
 clear hb K3
 have v0:=(uH HXS).c0;have v1:=(uH HXS).c1;have v2:=(uH HXS).c2;have u0:=(uH HU).c0;have u1:=(uH HU).c1;have u2:=(uH HU).c2
 go_wp2_with fail
 clear v0 v1 v2 u0 u1 u2
 refine (uH K4 _ so sd (uH HB) (uH HS)).mono ?_
 rintro e w4 ⟨yo,yd,rfl,hy,hb⟩
 have ba:=below_alloc9 w4 (.cells #[.int .i64 c,.int .i64 q,.slice yo yn yd] 24)
 have HY:=hide (hy.below ba)
 have HXY:=hide (BoxM.new w4 (.int .i64 c) (.int .i64 q) (.slice yo yn yd))
 replace HR:=hide (((uH HR).all hb).all ba)
 replace HXV:=hide (((uH HXV).all hb).all ba)
 replace HV:=hide (((uH HV).below hb).below ba)
 replace HB:=hide (((uH HB).trans (hb.mono (uH HB).size)).trans (ba.mono ((uH HB).trans (hb.mono (uH HB).size)).size))
 clear hb ba hy K4 HU HXS HS
 have v0:=(uH HXV).c0;have v1:=(uH HXV).c1;have v2:=(uH HXV).c2;have u0:=(uH HXY).c0;have u1:=(uH HXY).c1;have u2:=(uH HXY).c2
 go_wp2_with fail
 clear v0 v1 v2 u0 u1 u2
 refine (uH K5 _ vo vd yo yd (uH HB) (uH HV) (uH HY)).mono ?_
 rintro e w5 ⟨hans,hb⟩
 replace HR:=hide ((uH HR).all hb)
 have HB0:=hide (uH HB).size
 replace HB:=hide ((uH HB).trans (hb.mono (uH HB).size))
 clear hb K5 HXV HXY HV HY
 rcases hans with ⟨rfl,xo,xc,rfl,hn,hq,hl,hf⟩ | ⟨hf,rfl⟩
 ·have HN:=hide (hn.least (uH HB0))
  have HQ:=hide hq
  have HL:=hide hl;have HF:=hide hf
  obtain ⟨L,hL⟩:∃ L,m * u = L:=⟨_,rfl⟩
  rw [hL]
  have EL:=hide hL
  have X3:=uH HR
  have f0:=X3.free 0;have f1:=X3.free 1;have f2:=X3.free 2
  have s0:=X3.c0;have s1:=X3.c1;have s2:=X3.c2
  have XP:=X3.put (.int .i64 m) (.int .i64 u) (.slice xo L xc)
  have z0:=XP.c0;have z1:=XP.c1;have z2:=XP.c2
  have BP:=hide (below_putM (uH HB) (b:=w.heap.size+1+1) (by omega) (.int .i64 m) (.int .i64 u) (.slice xo L xc))
  have QP:=hide ((uH HQ).putM X3 (.int .i64 m) (.int .i64 u) (.slice xo L xc))
  clear XP X3 hn hq hl hf hL
  go_wp2_with fail
  exact bodyPost_ret (v:=.tuple #[.agg #[.int .i64 m,.int .i64 u,.slice xo L xc],.int .i64 0]) (by simp [results,Tryz.results22,go_sem,z0,z1,z2]) rfl ⟨.inl ⟨rfl,xo,xc,by rw [uH EL],uH HN,uH QP,uH HL,uH HF⟩,uH BP⟩
 ·have X3:=uH HR
  have f0:=X3.free 0;have f1:=X3.free 1;have f2:=X3.free 2
  have s0:=X3.c0;have s1:=X3.c1;have s2:=X3.c2
  have XP:=X3.put (.int .i64 0) (.int .i64 0) (.slice none 0 0)
  have z0:=XP.c0;have z1:=XP.c1;have z2:=XP.c2
  have BP:=hide (below_putM (uH HB) (b:=w.heap.size+1+1) (by omega) (.int .i64 0) (.int .i64 0) (.slice none 0 0))
  have HF:=hide hf
  clear XP X3 hf
  go_wp2_with fail
  exact bodyPost_ret (v:=.tuple #[.agg #[.int .i64 0,.int .i64 0,.slice none 0 0],.int .i64 f]) (by simp [results,Tryz.results22,go_sem,z0,z1,z2]) rfl ⟨.inr ⟨uH HF,rfl⟩,uH BP⟩
end Go.Proofs.YtlnphkioddknfaaGreatDoor
namespace Go.Proofs.YtlnphkioddknfaaGreatDoor
open Go.RowKit
attribute [local go_sem ↓] Go.wp_at_zero Go.wp_at_succ
theorem rck17_one (r c p q er:Int) (ao bo:Option Addr) (k cap m d:Nat) (w:World) (her:er = 1 ∨ er = 4)
  (C1:∀ w',Below w.heap.size w w'→Calls Tryz.prog 19 #[.agg #[.int .i64 r,.int .i64 c,.slice ao k cap]] w' fun e w''=>e = .returned (.int .i64 er)∧Below w'.heap.size w' w'') :
  Calls Tryz.prog 48 #[.agg #[.int .i64 r,.int .i64 c,.slice ao k cap],.agg #[.int .i64 p,.int .i64 q,.slice bo m d]] w fun e w'=>e = .returned (.int .i64 er)∧Below w.heap.size w w':=by
 have KB:=hide (boxes2 w (.int .i64 r) (.int .i64 c) (.slice ao k cap) (.int .i64 p) (.int .i64 q) (.slice bo m d))
 obtain ⟨b0,x0,x1⟩:=uH KB ((w.alloc (.cells #[.int .i64 r,.int .i64 c,.slice ao k cap] 24)).alloc (.cells #[.int .i64 p,.int .i64 q,.slice bo m d] 24)) (by have:=Below.refl ((w.alloc (.cells #[.int .i64 r,.int .i64 c,.slice ao k cap] 24)).alloc (.cells #[.int .i64 p,.int .i64 q,.slice bo m d] 24)).heap.size ((w.alloc (.cells #[.int .i64 r,.int .i64 c,.slice ao k cap] 24)).alloc (.cells #[.int .i64 p,.int .i64 q,.slice bo m d] 24));simpa only [size_alloc9] using this)
 have HB:=hide b0;have HX:=hide x0;have HY:=hide x1
 have K1:=hide C1
 clear C1 KB b0 x0 x1
 rcases her with rfl | rfl
 all_goals
  go_enter Tryz.func48,Tryz.ntmps48
  have y0:=(uH HX).c0;have y1:=(uH HX).c1;have y2:=(uH HX).c2;have u0:=(uH HY).c0;have u1:=(uH HY).c1;have u2:=(uH HY).c2
  go_wp2_with fail
  clear y0 y1 y2 u0 u1 u2
  refine (uH K1 _ (uH HB)).mono ?_
  rintro e wn ⟨rfl,hb⟩
  replace HX:=hide ((uH HX).all hb);replace HY:=hide ((uH HY).all hb)
  replace HB:=hide ((uH HB).trans (hb.mono (uH HB).size))
  clear hb
  have y0:=(uH HX).c0;have y1:=(uH HX).c1;have y2:=(uH HX).c2;have u0:=(uH HY).c0;have u1:=(uH HY).c1;have u2:=(uH HY).c2
  go_wp2_with fail
  clear y0 y1 y2 u0 u1 u2
  refine (uH K1 _ (uH HB)).mono ?_
  rintro e wn ⟨rfl,hb⟩
  replace HX:=hide ((uH HX).all hb);replace HY:=hide ((uH HY).all hb)
  replace HB:=hide ((uH HB).trans (hb.mono (uH HB).size))
  clear hb
  clear K1 HX HY
  go_wp2
  go_ret
  exact ⟨rfl,uH HB⟩
theorem rck17_two (r c p q er:Int) (ao bo:Option Addr) (k cap m d:Nat) (w:World) (her:er = 1 ∨ er = 4)
  (C1:∀ w',Below w.heap.size w w'→Calls Tryz.prog 19 #[.agg #[.int .i64 r,.int .i64 c,.slice ao k cap]] w' fun e w''=>e = .returned (.int .i64 0)∧Below w'.heap.size w' w'')
  (C2:∀ w',Below w.heap.size w w'→Calls Tryz.prog 19 #[.agg #[.int .i64 p,.int .i64 q,.slice bo m d]] w' fun e w''=>e = .returned (.int .i64 er)∧Below w'.heap.size w' w'') :
  Calls Tryz.prog 48 #[.agg #[.int .i64 r,.int .i64 c,.slice ao k cap],.agg #[.int .i64 p,.int .i64 q,.slice bo m d]] w fun e w'=>e = .returned (.int .i64 er)∧Below w.heap.size w w':=by
 have KB:=hide (boxes2 w (.int .i64 r) (.int .i64 c) (.slice ao k cap) (.int .i64 p) (.int .i64 q) (.slice bo m d))
 obtain ⟨b0,x0,x1⟩:=uH KB ((w.alloc (.cells #[.int .i64 r,.int .i64 c,.slice ao k cap] 24)).alloc (.cells #[.int .i64 p,.int .i64 q,.slice bo m d] 24)) (by have:=Below.refl ((w.alloc (.cells #[.int .i64 r,.int .i64 c,.slice ao k cap] 24)).alloc (.cells #[.int .i64 p,.int .i64 q,.slice bo m d] 24)).heap.size ((w.alloc (.cells #[.int .i64 r,.int .i64 c,.slice ao k cap] 24)).alloc (.cells #[.int .i64 p,.int .i64 q,.slice bo m d] 24));simpa only [size_alloc9] using this)
 have HB:=hide b0;have HX:=hide x0;have HY:=hide x1
 have K1:=hide C1
 have K2:=hide C2
 clear C1 C2 KB b0 x0 x1
 rcases her with rfl | rfl
 all_goals
  go_enter Tryz.func48,Tryz.ntmps48
  have y0:=(uH HX).c0;have y1:=(uH HX).c1;have y2:=(uH HX).c2;have u0:=(uH HY).c0;have u1:=(uH HY).c1;have u2:=(uH HY).c2
  go_wp2_with fail
  clear y0 y1 y2 u0 u1 u2
  refine (uH K1 _ (uH HB)).mono ?_
  rintro e wn ⟨rfl,hb⟩
  replace HX:=hide ((uH HX).all hb);replace HY:=hide ((uH HY).all hb)
  replace HB:=hide ((uH HB).trans (hb.mono (uH HB).size))
  clear hb
  have y0:=(uH HX).c0;have y1:=(uH HX).c1;have y2:=(uH HX).c2;have u0:=(uH HY).c0;have u1:=(uH HY).c1;have u2:=(uH HY).c2
  go_wp2_with fail
  clear y0 y1 y2 u0 u1 u2
  refine (uH K2 _ (uH HB)).mono ?_
  rintro e wn ⟨rfl,hb⟩
  replace HX:=hide ((uH HX).all hb);replace HY:=hide ((uH HY).all hb)
  replace HB:=hide ((uH HB).trans (hb.mono (uH HB).size))
  clear hb
  have y0:=(uH HX).c0;have y1:=(uH HX).c1;have y2:=(uH HX).c2;have u0:=(uH HY).c0;have u1:=(uH HY).c1;have u2:=(uH HY).c2
  go_wp2_with fail
  clear y0 y1 y2 u0 u1 u2
  refine (uH K2 _ (uH HB)).mono ?_
  rintro e wn ⟨rfl,hb⟩
  replace HX:=hide ((uH HX).all hb);replace HY:=hide ((uH HY).all hb)
  replace HB:=hide ((uH HB).trans (hb.mono (uH HB).size))
  clear hb
  clear K1 K2 HX HY
  go_wp2
  go_ret
  exact ⟨rfl,uH HB⟩
theorem rck17_shape (r c p q:Int) (ao bo:Option Addr) (k cap m d:Nat) (w:World) (hsh:¬ r = c ∨ (r = c∧¬ r = p))
  (C1:∀ w',Below w.heap.size w w'→Calls Tryz.prog 19 #[.agg #[.int .i64 r,.int .i64 c,.slice ao k cap]] w' fun e w''=>e = .returned (.int .i64 0)∧Below w'.heap.size w' w'')
  (C2:∀ w',Below w.heap.size w w'→Calls Tryz.prog 19 #[.agg #[.int .i64 p,.int .i64 q,.slice bo m d]] w' fun e w''=>e = .returned (.int .i64 0)∧Below w'.heap.size w' w'') :
  Calls Tryz.prog 48 #[.agg #[.int .i64 r,.int .i64 c,.slice ao k cap],.agg #[.int .i64 p,.int .i64 q,.slice bo m d]] w fun e w'=>e = .returned (.int .i64 3)∧Below w.heap.size w w':=by
 have KB:=hide (boxes2 w (.int .i64 r) (.int .i64 c) (.slice ao k cap) (.int .i64 p) (.int .i64 q) (.slice bo m d))
 obtain ⟨b0,x0,x1⟩:=uH KB ((w.alloc (.cells #[.int .i64 r,.int .i64 c,.slice ao k cap] 24)).alloc (.cells #[.int .i64 p,.int .i64 q,.slice bo m d] 24)) (by have:=Below.refl ((w.alloc (.cells #[.int .i64 r,.int .i64 c,.slice ao k cap] 24)).alloc (.cells #[.int .i64 p,.int .i64 q,.slice bo m d] 24)).heap.size ((w.alloc (.cells #[.int .i64 r,.int .i64 c,.slice ao k cap] 24)).alloc (.cells #[.int .i64 p,.int .i64 q,.slice bo m d] 24));simpa only [size_alloc9] using this)
 have HB:=hide b0;have HX:=hide x0;have HY:=hide x1
 have K1:=hide C1
 have K2:=hide C2
 clear C1 C2 KB b0 x0 x1
 rcases hsh with hsh | ⟨rfl,hsh⟩
 all_goals
  go_enter Tryz.func48,Tryz.ntmps48
  have y0:=(uH HX).c0;have y1:=(uH HX).c1;have y2:=(uH HX).c2;have u0:=(uH HY).c0;have u1:=(uH HY).c1;have u2:=(uH HY).c2
  go_wp2_with fail
  clear y0 y1 y2 u0 u1 u2
  refine (uH K1 _ (uH HB)).mono ?_
  rintro e wn ⟨rfl,hb⟩
  replace HX:=hide ((uH HX).all hb);replace HY:=hide ((uH HY).all hb)
  replace HB:=hide ((uH HB).trans (hb.mono (uH HB).size))
  clear hb
  have y0:=(uH HX).c0;have y1:=(uH HX).c1;have y2:=(uH HX).c2;have u0:=(uH HY).c0;have u1:=(uH HY).c1;have u2:=(uH HY).c2
  go_wp2_with fail
  clear y0 y1 y2 u0 u1 u2
  refine (uH K2 _ (uH HB)).mono ?_
  rintro e wn ⟨rfl,hb⟩
  replace HX:=hide ((uH HX).all hb);replace HY:=hide ((uH HY).all hb)
  replace HB:=hide ((uH HB).trans (hb.mono (uH HB).size))
  clear hb
  have y0:=(uH HX).c0;have y1:=(uH HX).c1;have y2:=(uH HX).c2;have u0:=(uH HY).c0;have u1:=(uH HY).c1;have u2:=(uH HY).c2
  clear K1 K2 HX HY
  go_wp2
  go_ret
  exact ⟨rfl,uH HB⟩
theorem zd_yes {n:Nat} {T:List Nat} (i:Nat) (hi:i < n) (h:fK (elM n T i i) = 0):zdB (dgL n n T) = true:=by
 unfold zdB dgL
 rw [List.any_eq_true]
 exact ⟨_,List.mem_map.2 ⟨i,List.mem_range.2 (by omega),rfl⟩,decide_eq_true h⟩
theorem zd_no {n:Nat} {T:List Nat} (h:∀ i,i < n→fK (elM n T i i) ≠ 0):zdB (dgL n n T) = false:=by
 unfold zdB dgL
 rw [List.any_eq_false]
 intro x hx
 obtain ⟨i,hi,rfl⟩:=List.mem_map.1 hx
 have:=List.mem_range.1 hi
 simpa using h i (by omega)
theorem rck17_ok (n q tc bc tn bn:Nat) (tq bo:Option Addr) (T:List Nat) (w:World) (hT:Mx w tq tc n n T) (ltn:T.length = tn)
  (C1:∀ w',Below w.heap.size w w'→Calls Tryz.prog 19 #[.agg #[.int .i64 n,.int .i64 n,.slice tq tn tc]] w' fun e w''=>e = .returned (.int .i64 0)∧Below w'.heap.size w' w'')
  (C2:∀ w',Below w.heap.size w w'→Calls Tryz.prog 19 #[.agg #[.int .i64 n,.int .i64 q,.slice bo bn bc]] w' fun e w''=>e = .returned (.int .i64 0)∧Below w'.heap.size w' w'') :
  Calls Tryz.prog 48 #[.agg #[.int .i64 n,.int .i64 n,.slice tq tn tc],.agg #[.int .i64 n,.int .i64 q,.slice bo bn bc]] w fun e w'=>e = .returned (.int .i64 (if zdB (dgL n n T) = true then 5 else 0))∧Below w.heap.size w w':=by
 have KB:=hide (boxes2 w (.int .i64 n) (.int .i64 n) (.slice tq tn tc) (.int .i64 n) (.int .i64 q) (.slice bo bn bc))
 obtain ⟨b0,x0,x1⟩:=uH KB ((w.alloc (.cells #[.int .i64 n,.int .i64 n,.slice tq tn tc] 24)).alloc (.cells #[.int .i64 n,.int .i64 q,.slice bo bn bc] 24)) (by have:=Below.refl ((w.alloc (.cells #[.int .i64 n,.int .i64 n,.slice tq tn tc] 24)).alloc (.cells #[.int .i64 n,.int .i64 q,.slice bo bn bc] 24)).heap.size ((w.alloc (.cells #[.int .i64 n,.int .i64 n,.slice tq tn tc] 24)).alloc (.cells #[.int .i64 n,.int .i64 q,.slice bo bn bc] 24));simpa only [size_alloc9] using this)
 have HB:=hide b0;have HX:=hide x0;have HY:=hide x1
 have K1:=hide C1
 have K2:=hide C2
 have KA:=hide (fun w' i (hb:Below w.heap.size w w') (hi:i < n)=>rat_any n n tc i i tq T w' (hT.below hb) hi hi)
 rw [ltn] at KA
 have KK:=hide (fun w' i=>rkind_any (elM n T i i) w' (hT.el_lt i i))
 have ZY:=hide (fun i hi (h:fK (elM n T i i) = 0)=>(show (if zdB (dgL n n T) = true then (5:Int) else 0) = 5 from if_pos (zd_yes (n:=n) (T:=T) i hi h)))
 have ZN:=hide (fun (h:∀ i,i < n→fK (elM n T i i) ≠ 0)=>(show (if zdB (dgL n n T) = true then (5:Int) else 0) = 0 from if_neg (by rw [zd_no (n:=n) (T:=T) h];decide)))
 have n6:=hT.2.2.1
 generalize (if zdB (dgL n n T) = true then (5:Int) else 0) = z at *
 clear C1 C2 KB b0 x0 x1 hT ltn
 go_enter Tryz.func48,Tryz.ntmps48
 have y0:=(uH HX).c0;have y1:=(uH HX).c1;have y2:=(uH HX).c2;have u0:=(uH HY).c0;have u1:=(uH HY).c1;have u2:=(uH HY).c2
 go_wp2_with fail
 clear y0 y1 y2 u0 u1 u2
 refine (uH K1 _ (uH HB)).mono ?_
 rintro e wn ⟨rfl,hb⟩
 replace HX:=hide ((uH HX).all hb);replace HY:=hide ((uH HY).all hb)
 replace HB:=hide ((uH HB).trans (hb.mono (uH HB).size))
 clear hb
 have y0:=(uH HX).c0;have y1:=(uH HX).c1;have y2:=(uH HX).c2;have u0:=(uH HY).c0;have u1:=(uH HY).c1;have u2:=(uH HY).c2
 go_wp2_with fail
 clear y0 y1 y2 u0 u1 u2
 refine (uH K2 _ (uH HB)).mono ?_
 rintro e wn ⟨rfl,hb⟩
 replace HX:=hide ((uH HX).all hb);replace HY:=hide ((uH HY).all hb)
 replace HB:=hide ((uH HB).trans (hb.mono (uH HB).size))
 clear hb
 have y0:=(uH HX).c0;have y1:=(uH HX).c1;have y2:=(uH HX).c2;have u0:=(uH HY).c0;have u1:=(uH HY).c1;have u2:=(uH HY).c2
 clear K1 K2
 go_wp2_with fail
 clear y0 y1 y2 u0 u1 u2
 go_loopw [5] (fun a wr=>∃ i:Nat,i≤n∧a = .int .i64 i∧Hid (∀ j,j < i→fK (elM n T j j) ≠ 0)∧Hid (BoxM wr w.heap.size (.int .i64 n) (.int .i64 n) (.slice tq tn tc))∧Hid (Below w.heap.size w wr)) (fun a _=>n - (intOf a).toNat)
 case atStart=>exact ⟨0,Nat.zero_le _,rfl,fun j hj=>absurd hj (Nat.not_lt_zero j),HX,HB⟩
 case round =>
  clear HX HY HB
  obtain ⟨i,hi,rfl,hF,hX,hB⟩:=hrel
  by_cases hlt:i < n
  ·have hiI:(i:Int) < (n:Int):=by omega
   have KA1:=hide (fun w' hb=>uH KA w' i hb hlt)
   have KK1:=hide (fun w'=>uH KK w' i)
   have ZY1:=hide (uH ZY i hlt)
   have GF:=hide (fun (e:fK (elM n T i i) ≠ 0)=>(show ∀ j,j < i+1→fK (elM n T j j) ≠ 0 from fun j hj=>by
    rcases Nat.lt_or_ge j i with g | g
    ·exact uH hF j g
    ·rw [show j = i by omega];exact e))
   generalize elM n T i i = x at *
   generalize hfk:fK x = k at *
   have hw1:IntKind.i64.wrap ((i:Int)+1) = (i:Int)+1:=wrap_in _ (by omega)
   clear hfk
   have y0:=(uH hX).c0;have y1:=(uH hX).c1;have y2:=(uH hX).c2
   go_wp2_with fail
   clear y0 y1 y2
   refine (uH KA1 _ (uH hB)).mono ?_
   rintro e w3 ⟨rfl,hb⟩
   replace hX:=hide ((uH hX).all hb)
   replace hB:=hide ((uH hB).trans (hb.mono (uH hB).size))
   clear hb KA1
   go_wp2_with fail
   refine (uH KK1 _).mono ?_
   rintro e w4 ⟨rfl,rfl⟩
   clear KK1
   by_cases hk:k = 0
   ·have hz:=hide (uH ZY1 hk)
    subst hk
    clear GF ZY1 hF
    go_wp2_with fail
    exact bodyPost_ret (v:=.int .i64 5) (by simp [results,Tryz.results48,go_sem]) rfl ⟨by rw [uH hz],uH hB⟩
   ·have hF2:=hide (uH GF hk)
    have hk1:((k:Int) == 0) = false:=by rw [beq_eq_false_iff_ne];omega
    have hk2:¬ ((k:Int) = 0):=by omega
    clear GF ZY1 hF
    go_wp2_with fail
    go_round
    case rel=>exact ⟨i+1,by omega,by go_num,hF2,hX,hB⟩
    case measure=>first | (simp [intOf];done) | (simp [intOf];omega)
  ·have hii:i = n:=by omega
   have hz:=hide (uH ZN (fun j hj=>uH hF j (by omega)))
   have hiI:¬ ((i:Int) < (n:Int)):=by omega
   have y0:=(uH hX).c0
   go_wp2_with fail
   exact bodyPost_ret (v:=.int .i64 0) (by simp [results,Tryz.results48,go_sem]) rfl ⟨by rw [uH hz],uH hB⟩
def FnAns (f:Int) (n q L:Nat) (xo:Option Addr) (xc:Nat) (e:Ending):Prop :=
 (f = 0∧e = .returned (.tuple #[.agg #[.int .i64 n,.int .i64 q,.slice xo L xc],.int .i64 0])) ∨ (f ≠ 0∧e = .returned (.tuple #[.agg #[.int .i64 0,.int .i64 0,.slice none 0 0],.int .i64 f]))
theorem rfin17_any (n q L xc:Nat) (xo:Option Addr) (M:List Nat) (w:World) (hM:BitsAt w xo xc (mxL M)) (hl:M.length = L) (h36:L≤36) :
  Calls Tryz.prog 53 #[.agg #[.int .i64 n,.int .i64 q,.slice xo L xc]] w fun e w'=>FnAns (if finL M = true then 0 else 2) n q L xo xc e∧Below w.heap.size w w':=by
 have K:=hide (fun w' (hb:Below w.heap.size w w')=>r9finite_any xo xc (mxL M) w' (hM.below hb) (by rw [mxL_len];omega))
 rw [mxL_len,hl] at K
 have hfl:fnK (mxL M) L = finL M:=by unfold finL;rw [hl]
 rw [hfl] at K
 have KB:=hide (boxes2 w (.int .i64 n) (.int .i64 q) (.slice xo L xc) (.int .i64 0) (.int .i64 0) (.slice none 0 0))
 obtain ⟨b0,x0,x1⟩:=uH KB ((w.alloc (.cells #[.int .i64 n,.int .i64 q,.slice xo L xc] 24)).alloc (.cells #[.int .i64 0,.int .i64 0,.slice none 0 0] 24)) (by have:=Below.refl ((w.alloc (.cells #[.int .i64 n,.int .i64 q,.slice xo L xc] 24)).alloc (.cells #[.int .i64 0,.int .i64 0,.slice none 0 0] 24)).heap.size ((w.alloc (.cells #[.int .i64 n,.int .i64 q,.slice xo L xc] 24)).alloc (.cells #[.int .i64 0,.int .i64 0,.slice none 0 0] 24));simpa only [size_alloc9] using this)
 have HB:=hide b0;have HX:=hide x0;have HR:=hide x1
 generalize finL M = f at *
 clear hM hl hfl KB b0 x0 x1
 cases f
 all_goals
  have y0:=(uH HX).c0;have y1:=(uH HX).c1;have y2:=(uH HX).c2
  go_enter Tryz.func53,Tryz.ntmps53
  go_wp2_with fail
  clear y0 y1 y2
  refine (uH K _ (uH HB)).mono ?_
  rintro e w1 ⟨rfl,hb⟩
  have HX1:=hide ((uH HX).all hb)
  have X3:=(uH HR).all hb
  have HB1:=hide ((uH HB).trans (hb.mono (uH HB).size))
  clear hb K HX HR HB
  have y0:=(uH HX1).c0;have y1:=(uH HX1).c1;have y2:=(uH HX1).c2
  have f0:=X3.free 0;have f1:=X3.free 1;have f2:=X3.free 2
  have s0:=X3.c0;have s1:=X3.c1;have s2:=X3.c2
 ·have XP:=X3.put (.int .i64 0) (.int .i64 0) (.slice none 0 0)
  have z0:=XP.c0;have z1:=XP.c1;have z2:=XP.c2
  have BP:=hide (below_putM (uH HB1) (b:=w.heap.size+1) (by omega) (.int .i64 0) (.int .i64 0) (.slice none 0 0))
  clear XP X3
  go_wp2_with fail
  exact bodyPost_ret (v:=.tuple #[.agg #[.int .i64 0,.int .i64 0,.slice none 0 0],.int .i64 2]) (by simp [results,Tryz.results53,go_sem,z0,z1,z2]) rfl ⟨.inr ⟨by decide,rfl⟩,uH BP⟩
 ·have XP:=X3.put (.int .i64 n) (.int .i64 q) (.slice xo L xc)
  have z0:=XP.c0;have z1:=XP.c1;have z2:=XP.c2
  have BP:=hide (below_putM (uH HB1) (b:=w.heap.size+1) (by omega) (.int .i64 n) (.int .i64 q) (.slice xo L xc))
  clear XP X3
  go_wp2_with fail
  exact bodyPost_ret (v:=.tuple #[.agg #[.int .i64 n,.int .i64 q,.slice xo L xc],.int .i64 0]) (by simp [results,Tryz.results53,go_sem,z0,z1,z2]) rfl ⟨.inl ⟨rfl,rfl⟩,uH BP⟩
end Go.Proofs.YtlnphkioddknfaaGreatDoor
namespace Go.Proofs.YtlnphkioddknfaaGreatDoor
open Go.RowKit
attribute [local go_sem ↓] Go.wp_at_zero Go.wp_at_succ
structure RxSt (w wr:World) (h n q tn tc bn bc L xc:Nat) (tq bo xo:Option Addr) (X:List Nat):Prop where
 bel:Below w.heap.size w wr
 hh:w.heap.size+3≤h
 t:BoxM wr w.heap.size (.int .i64 n) (.int .i64 n) (.slice tq tn tc)
 b:BoxM wr (w.heap.size+1) (.int .i64 n) (.int .i64 q) (.slice bo bn bc)
 res:BoxM wr (w.heap.size+1+1) (.int .i64 0) (.int .i64 0) (.slice none 0 0)
 x:BoxM wr h (.int .i64 n) (.int .i64 q) (.slice xo L xc)
 bits:BitsAt wr xo xc (mxL X)
 new:NewB w.heap.size xo (mxL X)
 len:X.length = L
theorem RxSt.all {w wr w':World} {h n q tn tc bn bc L xc:Nat} {tq bo xo:Option Addr} {X:List Nat} (s:RxSt w wr h n q tn tc bn bc L xc tq bo xo X) (hb:Below wr.heap.size wr w'):RxSt w w' h n q tn tc bn bc L xc tq bo xo X :=
 ⟨s.bel.trans (hb.mono s.bel.size),s.hh,s.t.all hb,s.b.all hb,s.res.all hb,s.x.all hb,s.bits.below hb,s.new,s.len⟩
theorem RxSt.put {w wr:World} {h n q tn tc bn bc L xc yc:Nat} {tq bo xo yo:Option Addr} {X Y:List Nat} (s:RxSt w wr h n q tn tc bn bc L xc tq bo xo X) (hy:BitsAt wr yo yc (mxL Y)) (hn:NewB w.heap.size yo (mxL Y)) (hl:Y.length = L) :
  RxSt w (((wr.setCell ⟨h,0,none⟩ (.int .i64 n)).setCell ⟨h,1,none⟩ (.int .i64 q)).setCell ⟨h,2,none⟩ (.slice yo L yc)) h n q tn tc bn bc L yc tq bo yo Y:=by
 have hh:=s.hh
 exact ⟨below_putM s.bel (by omega) _ _ _,hh,s.t.three14 (by omega) _ _ _,s.b.three14 (by omega) _ _ _,s.res.three14 (by omega) _ _ _,s.x.put _ _ _,hy.putM s.x _ _ _,hn,hl⟩
end Go.Proofs.YtlnphkioddknfaaGreatDoor
namespace Go.Proofs.YtlnphkioddknfaaGreatDoor
open Go.RowKit
attribute [local go_sem ↓] Go.wp_at_zero Go.wp_at_succ
theorem rlo17_of (n q tc bc tn bn L:Nat) (f:Int) (tq bo:Option Addr) (T B:List Nat) (w:World) (hT:Mx w tq tc n n T) (hB:Mx w bo bc n q B) (ltn:T.length = tn) (lbn:B.length = bn) (hL:n * q = L)
  (CC:∀ w',Below w.heap.size w w'→Calls Tryz.prog 48 #[.agg #[.int .i64 n,.int .i64 n,.slice tq tn tc],.agg #[.int .i64 n,.int .i64 q,.slice bo bn bc]] w' fun e w''=>e = .returned (.int .i64 0)∧Below w'.heap.size w' w'')
  (CF:∀ w' xo xc,Below w.heap.size w w'→BitsAt w' xo xc (mxL (loM n q T B))→Calls Tryz.prog 53 #[.agg #[.int .i64 n,.int .i64 q,.slice xo L xc]] w' fun e w''=>FnAns f n q L xo xc e∧Below w'.heap.size w' w'') :
  Calls Tryz.prog 17 #[.agg #[.int .i64 n,.int .i64 n,.slice tq tn tc],.agg #[.int .i64 n,.int .i64 q,.slice bo bn bc]] w fun e w'=>∃ xo xc,FnAns f n q L xo xc e∧NewB w.heap.size xo (mxL (loM n q T B))∧BitsAt w' xo xc (mxL (loM n q T B))∧Below w.heap.size w w':=by
 have n6:=hT.2.2.1
 have q6:=hB.2.2.2
 have KB:=hide (boxes3_17 w (.int .i64 n) (.int .i64 n) (.slice tq tn tc) (.int .i64 n) (.int .i64 q) (.slice bo bn bc) (.int .i64 0) (.int .i64 0) (.slice none 0 0))
 obtain ⟨b0,x0,x1,x2⟩:=uH KB _ (by have:=Below.refl (((w.alloc (.cells #[.int .i64 n,.int .i64 n,.slice tq tn tc] 24)).alloc (.cells #[.int .i64 n,.int .i64 q,.slice bo bn bc] 24)).alloc (.cells #[.int .i64 0,.int .i64 0,.slice none 0 0] 24)).heap.size (((w.alloc (.cells #[.int .i64 n,.int .i64 n,.slice tq tn tc] 24)).alloc (.cells #[.int .i64 n,.int .i64 q,.slice bo bn bc] 24)).alloc (.cells #[.int .i64 0,.int .i64 0,.slice none 0 0] 24));simpa only [size_alloc9] using this)
 have K1:=hide (CC _ b0)
 have HB:=hide b0;have HX:=hide x0;have HY:=hide x1;have HR:=hide x2
 have HT:=hide hT;have HBB:=hide hB
 have KZ:=hide (fun w'=>rzeros_any n q w' n6 q6)
 have KFI:=hide CF
 have hO:=ord_first n
 obtain ⟨o,ho⟩:∃ o:Nat→Nat,(fun m=>m) = o:=⟨_,rfl⟩
 have EO:=hide (show ∀ m,o m = (fun m=>m) m from fun m=>by rw [← ho])
 rw [ho] at hO
 obtain ⟨XJ,hXJ⟩:∃ XJ:Nat→Nat→List Nat,trJ n q (elM n T) (elM q B) o dnL = XJ:=⟨_,rfl⟩
 obtain ⟨NN,hNN⟩:∃ NN:Nat→Nat→Nat,(fun c m=>trN n (elM n T) (fun p=>elM q B p c) o dnL m) = NN:=⟨_,rfl⟩
 obtain ⟨XX,hXX⟩:∃ XX:Nat→Nat→Nat→Nat,(fun c m k=>trX n (elM n T) (fun p=>elM q B p c) o dnL m k) = XX:=⟨_,rfl⟩
 obtain ⟨SG,hSG⟩:∃ SG:Nat→Nat→Nat→Nat,(fun c m k=>trS (elM n T) (trX n (elM n T) (fun p=>elM q B p c) o dnL m) dnL (o m) (elM q B (o m) c) k) = SG:=⟨_,rfl⟩
 have EM:=hide (show XJ q 0 = loM n q T B from by rw [← hXJ,← ho];exact trJ_end _ _ _ _ _ _)
 have E0:=hide (show List.replicate (n * q) 0 = XJ 0 0 from by rw [← hXJ,← trJ_start];exact mkM_noughts n q)
 have EC:=hide (show ∀ c,XJ c n = XJ (c+1) 0 from fun c=>by rw [← hXJ];exact trJ_col _ _ _ _ _ _ c)
 have ES:=hide (show ∀ c m,m < n→c < q→(XJ c m).set (o m * q+c) (NN c m) = XJ c (m+1) from fun c m hm hc=>by rw [← hXJ,← hNN];exact trJ_set _ _ _ hO hm hc)
 have EL:=hide (show ∀ c m,(XJ c m).length = L from fun c m=>by rw [← hXJ,trJ_len,hL])
 have EA:=hide (show ∀ c m k,k < n→c < q→elM q (XJ c m) k c = XX c m k from fun c m k hk hc=>by rw [← hXJ,← hXX];exact trJ_at _ _ _ _ hk hc)
 have SY:=hide (show ∀ c m k,dnL (o m) k = true→SG c m (k+1) = aV (SG c m k) (fN (mV (elM n T (o m) k) (XX c m k))) from fun c m k hd=>by rw [← hSG,← hXX];exact if_pos hd)
 have S0:=hide (show ∀ c m,SG c m 0 = elM q B (o m) c from fun c m=>by rw [← hSG];rfl)
 have SN:=hide (show ∀ c m,m < n→SG c m (o m) = SG c m n from fun c m hm=>by rw [← hSG];exact (trS_stop _ _ _ _ _ (o m) n (Nat.le_of_lt (hO.lt m hm)) (fun p h1 _=>decide_eq_false (by omega))).symm)
 have SE:=hide (show ∀ c m,NN c m = dV (SG c m n) (elM n T (o m) (o m)) from fun c m=>by rw [← hSG,← hNN];rfl)
 have SL:=hide (show ∀ c m k,SG c m k < 18446744073709551616 from fun c m k=>by rw [← hSG];exact trS_lt _ _ _ _ _ (hB.el_lt _ _) k)
 have XL:=hide (show ∀ c m k,XX c m k < 18446744073709551616 from fun c m k=>by rw [← hXX];exact trX_lt _ _ _ _ _ m k)
 have NL:=hide (show ∀ c m,NN c m < 18446744073709551616 from fun c m=>by rw [← hNN];exact dV_lt _ _)
 have TL:=hide (show ∀ i k,elM n T i k < 18446744073709551616 from fun i k=>hT.el_lt i k)
 have OL:=hide (show ∀ m,m < n→o m < n from hO.lt)
 have HL:=hide hL;have LT:=hide ltn;have LB:=hide lbn
 have y0:=x0.c0;have y1:=x0.c1;have y2:=x0.c2;have u0:=x1.c0;have u1:=x1.c1;have u2:=x1.c2
 generalize loM n q T B = TRM at *
 clear CC CF KB b0 x0 x1 x2 hT hB ltn lbn hL hO ho hXJ hNN hXX hSG
 go_enter Tryz.func17,Tryz.ntmps17
 go_wp2_with fail
 clear y0 y1 y2 u0 u1 u2
 refine (uH K1).mono ?_
 rintro e w1 ⟨rfl,hb⟩
 replace HX:=hide ((uH HX).all hb);replace HY:=hide ((uH HY).all hb);replace HR:=hide ((uH HR).all hb)
 replace HB:=hide ((uH HB).trans (hb.mono (uH HB).size))
 have HS1:=hide hb.size
 clear hb K1
 have u0:=(uH HY).c0;have u1:=(uH HY).c1
 go_wp2_with fail
 clear u0 u1
 refine (uH KZ _).mono ?_
 rintro e w2 ⟨v,rfl,⟨xo,xc,rfl,hn,hq⟩,hb⟩
 have ST:Hid (RxSt w (w2.alloc (.cells #[.int .i64 n,.int .i64 q,.slice xo L xc] 24)) w2.heap.size n q tn tc bn bc L xc tq bo xo (XJ 0 0)):=hide (by
  have ba:=below_alloc9 w2 (.cells #[.int .i64 n,.int .i64 q,.slice xo L xc] 24)
  have bb:=(uH HB).trans (hb.mono (uH HB).size)
  have e0:=uH E0
  rw [e0] at hn hq
  exact ⟨bb.trans (ba.mono bb.size),by have:=(uH HR).lt;have:=hb.size;omega,((uH HX).all hb).all ba,((uH HY).all hb).all ba,((uH HR).all hb).all ba,BoxM.new w2 _ _ _,hq.below ba,hn.least (uH HB).size,uH EL 0 0⟩)
 have hrep:(List.replicate (n * q) 0:List Nat).length = L:=by rw [List.length_replicate];exact uH HL
 rw [hrep]
 clear hrep KZ hn hq hb HB HX HY HR E0 HS1
 go_wp2_with fail
 generalize w2.heap.size = h at *
 go_loopg [7] q (fun g a wr=>∃ (c:Nat) (xo:Option Addr) (xc:Nat),c+g = q∧a = .int .i64 c∧Hid (RxSt w wr h n q tn tc bn bc L xc tq bo xo (XJ c 0)))
 case atStart=>exact ⟨0,xo,xc,by omega,rfl,ST⟩
 case round =>
  clear ST
  obtain ⟨c,xo,xc,hcg,rfl,hS⟩:=hrel
  cases gk with
  | zero =>
   have hlt:¬ ((c:Int) < (q:Int)):=by omega
   have e1:XJ c 0 = TRM:=by rw [show c = q by omega];exact uH EM
   rw [e1] at hS
   clear e1
   have y1:=(uH hS).b.c1
   have q0:=(uH hS).x.c0;have q1:=(uH hS).x.c1;have q2:=(uH hS).x.c2
   go_wp2_with fail
   clear y1 q0 q1 q2
   refine (uH KFI _ xo xc (uH hS).bel (uH hS).bits).mono ?_
   rintro e w3 ⟨hans,hb⟩
   have S3:=(uH hS).all hb
   have HN:=hide S3.new;have HQ:=hide S3.bits;have HB:=hide S3.bel;have HR:=hide S3.res
   clear S3 hb hS KFI
   rcases hans with ⟨rfl,rfl⟩ | ⟨hf,rfl⟩
   ·have X3:=uH HR
    have f0:=X3.free 0;have f1:=X3.free 1;have f2:=X3.free 2
    have s0:=X3.c0;have s1:=X3.c1;have s2:=X3.c2
    have XP:=X3.put (.int .i64 n) (.int .i64 q) (.slice xo L xc)
    have z0:=XP.c0;have z1:=XP.c1;have z2:=XP.c2
    have BP:=hide (below_putM (uH HB) (b:=w.heap.size+1+1) (by omega) (.int .i64 n) (.int .i64 q) (.slice xo L xc))
    have QP:=hide ((uH HQ).putM X3 (.int .i64 n) (.int .i64 q) (.slice xo L xc))
    clear XP X3
    go_wp2_with fail
    exact bodyPost_ret (v:=.tuple #[.agg #[.int .i64 n,.int .i64 q,.slice xo L xc],.int .i64 0]) (by simp [results,Tryz.results17,go_sem,z0,z1,z2]) rfl ⟨xo,xc,.inl ⟨rfl,rfl⟩,uH HN,uH QP,uH BP⟩
   ·have X3:=uH HR
    have f0:=X3.free 0;have f1:=X3.free 1;have f2:=X3.free 2
    have s0:=X3.c0;have s1:=X3.c1;have s2:=X3.c2
    have XP:=X3.put (.int .i64 0) (.int .i64 0) (.slice none 0 0)
    have z0:=XP.c0;have z1:=XP.c1;have z2:=XP.c2
    have BP:=hide (below_putM (uH HB) (b:=w.heap.size+1+1) (by omega) (.int .i64 0) (.int .i64 0) (.slice none 0 0))
    have QP:=hide ((uH HQ).putM X3 (.int .i64 0) (.int .i64 0) (.slice none 0 0))
    have HF:=hide hf
    clear XP X3 hf
    go_wp2_with fail
    exact bodyPost_ret (v:=.tuple #[.agg #[.int .i64 0,.int .i64 0,.slice none 0 0],.int .i64 f]) (by simp [results,Tryz.results17,go_sem,z0,z1,z2]) rfl ⟨xo,xc,.inr ⟨uH HF,rfl⟩,uH HN,uH QP,uH BP⟩
  | succ g =>
   have hcq:(c:Int) < (q:Int):=by omega
   have HCQ:=hide (show c < q by omega)
   have hwn:IntKind.i64.wrap ((n:Int) - 1) = (n:Int) - 1:=wrap_in _ (by omega)
   have hwc:IntKind.i64.wrap ((c:Int)+1) = (c:Int)+1:=wrap_in _ (by omega)
   have y0:=(uH hS).t.c0;have y1:=(uH hS).b.c1
   go_wp2_with fail
   clear y0 y1
   go_loopg [8] n (fun g2 a wr=>∃ (m:Nat) (xo:Option Addr) (xc:Nat),m+g2 = n∧a = .int .i64 m∧Hid (RxSt w wr h n q tn tc bn bc L xc tq bo xo (XJ c m)))
   case atStart=>exact ⟨0,xo,xc,by omega,by simp,hS⟩
   case round =>
    clear hS hwn
    obtain ⟨m,xo,xc,hmg,rfl,hS⟩:=hrel
    cases gk with
    | zero =>
     have hmn:¬ ((m:Int) < (n:Int)):=by omega
     have y0:=(uH hS).t.c0
     go_wp2_with fail
     go_roundg g
     case measure=>omega
     case rel =>
      have hend:Hid (XJ c m = XJ (c+1) 0):=hide (by rw [← uH EC c,show m = n by omega])
      exact ⟨c+1,xo,xc,by omega,by go_num,by rw [← uH hend];exact hS⟩
    | succ g2 =>
     have HMN:=hide (show m < n by omega)
     obtain ⟨i,hi⟩:∃ i,o m = i:=⟨_,rfl⟩
     have HIN:=hide (show i < n by rw [← hi];exact uH OL m (uH HMN))
     have HI:=hide hi
     have him:i = m:=by
      have:=uH EO m
      rw [hi] at this
      exact this
     have hie:(m:Int) = (i:Int):=by omega
     rw [hie]
     have hi0:(i:Int) < (n:Int):=by omega
     have HIE:=hide him
     clear hie hi him
     have SY1:=hide (show ∀ k,dnL i k = true→SG c m (k+1) = aV (SG c m k) (fN (mV (elM n T i k) (XX c m k))) from fun k hd=>by have:=uH SY c m k (by rw [uH HI];exact hd);rwa [uH HI] at this)
     have S01:=hide (uH S0 c m)
     have SN1:=hide (uH SN c m (uH HMN))
     have SE1:=hide (uH SE c m)
     have ES1:=hide (uH ES c m (uH HMN) (uH HCQ))
     rw [uH HI] at SE1 ES1 S01 SN1
     have EA1:=hide (fun k hk=>uH EA c m k hk (uH HCQ))
     have SL1:=hide (uH SL c m);have XL1:=hide (uH XL c m);have NL1:=hide (uH NL c m)
     generalize SG c m = SS at *
     generalize XX c m = XK at *
     have EL1:=hide (uH EL c m);have EL2:=hide (uH EL c (m+1))
     have KB1:=hide (fun w' (hb:Below w.heap.size w w')=>rat_any n q bc i c bo B w' ((uH HBB).below hb) (uH HIN) (uH HCQ))
     rw [uH LB,← uH S01] at KB1
     have KAT:=hide (fun w' k (hb:Below w.heap.size w w') (hk:k < n)=>rat_any n n tc i k tq T w' ((uH HT).below hb) (uH HIN) hk)
     rw [uH LT] at KAT
     have y0:=(uH hS).t.c0;have u0:=(uH hS).b.c0;have u1:=(uH hS).b.c1;have u2:=(uH hS).b.c2
     go_wp2_with fail
     clear y0 u0 u1 u2
     refine (uH KB1 _ (uH hS).bel).mono ?_
     rintro e w3 ⟨rfl,hb⟩
     replace hS:=hide ((uH hS).all hb)
     clear hb KB1
     go_wp2_with fail
     go_loopg [9,10] n (fun g3 sv a wr=>∃ k:Nat,k+g3 = n∧k≤i∧sv = .int .u64 (SS k:Nat)∧a = .int .i64 k∧Hid (RxSt w wr h n q tn tc bn bc L xc tq bo xo (XJ c m)))
     case atStart=>exact ⟨0,by omega,by omega,rfl,rfl,hS⟩
     case round =>
      clear hS
      obtain ⟨k,hkg,hkl,rfl,rfl,hS⟩:=hrel
      by_cases hkb:k < i
      ·have hkI:(k:Int) < (i:Int):=by omega
       have HKN:=hide (show k < n by have:=uH HIN;omega)
       obtain ⟨g3,rfl⟩:∃ g3,gk = g3+1:=⟨gk - 1,by have:=uH HKN;omega⟩
       have E1:=hide (uH SY1 k (decide_eq_true (by omega)))
       have K0:=hide (fun w' (hb:Below wr.heap.size wr w')=>uH KAT w' k ((uH hS).bel.trans (hb.mono (uH hS).bel.size)) (uH HKN))
       have K1:=hide (fun w' (hb:Below wr.heap.size wr w')=>rat_any n q xc k c xo (XJ c m) w' ⟨(uH hS).bits.below hb,by rw [uH EL1];exact (uH HL).symm,n6,q6⟩ (uH HKN) (uH HCQ))
       rw [uH EL1,uH EA1 k (uH HKN)] at K1
       have K2:=hide (fun w' (_:Below wr.heap.size wr w')=>r9mul_any (elM n T i k) (XK k) w' (uH TL i k) (uH XL1 k))
       have K3:=hide (fun w' (_:Below wr.heap.size wr w')=>r9sub_any (SS k) (mV (elM n T i k) (XK k)) w' (uH SL1 k) (mV_lt _ _))
       rw [← uH E1] at K3
       generalize mV (elM n T i k) (XK k) = pv at *
       generalize elM n T i k = tv at *
       generalize XK k = xv at *
       generalize hs2:SS (k+1) = s2 at *
       have HS2:=hide hs2
       clear hs2
       generalize SS k = s1 at *
       have hwk:IntKind.i64.wrap ((k:Int)+1) = (k:Int)+1:=wrap_in _ (by omega)
       have y0:=(uH hS).t.c0;have y1:=(uH hS).t.c1;have y2:=(uH hS).t.c2;have u0:=(uH hS).x.c0;have u1:=(uH hS).x.c1;have u2:=(uH hS).x.c2
       have HK:=hide (fun w' (h':Below wr.heap.size wr w')=>(show Below wr.heap.size wr w'∧w'.cell? ⟨w.heap.size,0,none⟩ = some (.int .i64 (n:Nat))∧w'.cell? ⟨w.heap.size,1,none⟩ = some (.int .i64 (n:Nat))∧w'.cell? ⟨w.heap.size,2,none⟩ = some (.slice tq tn tc)∧w'.cell? ⟨h,0,none⟩ = some (.int .i64 (n:Nat))∧w'.cell? ⟨h,1,none⟩ = some (.int .i64 (q:Nat))∧w'.cell? ⟨h,2,none⟩ = some (.slice xo L xc) from ⟨h',cell_keep y0 h',cell_keep y1 h',cell_keep y2 h',cell_keep u0 h',cell_keep u1 h',cell_keep u2 h'⟩))
       clear y1 y2 u0 u1 u2 E1
       go_wp2_with fail
       clear y0
       go_region_held3 (fun w'=>Below wr.heap.size wr w'∧w'.cell? ⟨w.heap.size,0,none⟩ = some (.int .i64 (n:Nat))∧w'.cell? ⟨w.heap.size,1,none⟩ = some (.int .i64 (n:Nat))∧w'.cell? ⟨w.heap.size,2,none⟩ = some (.slice tq tn tc)∧w'.cell? ⟨h,0,none⟩ = some (.int .i64 (n:Nat))∧w'.cell? ⟨h,1,none⟩ = some (.int .i64 (q:Nat))∧w'.cell? ⟨h,2,none⟩ = some (.slice xo L xc))
        (first | exact uH HK _ (Below.refl _ _).drew | exact uH HK _ (by assumption) | fail "KK")
        (first | (go_at_call 42;with_reducible refine Calls.mono (uH K0 _ (And.left (by assumption))) ?_;rintro e w4 ⟨rfl,hb1⟩;have hB1:Below wr.heap.size wr w4:=Below.trans (And.left (by assumption)) (hb1.mono (Below.size (And.left (by assumption))));clear hb1) | (go_at_call 42;with_reducible refine Calls.mono (uH K1 _ (And.left (by assumption))) ?_;rintro e w4 ⟨rfl,hb1⟩;have hB1:Below wr.heap.size wr w4:=Below.trans (And.left (by assumption)) (hb1.mono (Below.size (And.left (by assumption))));clear hb1) | (go_at_call 50;with_reducible refine Calls.mono (uH K2 _ (And.left (by assumption))) ?_;rintro e w4 ⟨rfl,hb1⟩;have hB1:Below wr.heap.size wr w4:=Below.trans (And.left (by assumption)) (hb1.mono (Below.size (And.left (by assumption))));clear hb1) | (go_at_call 49;with_reducible refine Calls.mono (uH K3 _ (And.left (by assumption))) ?_;rintro e w4 ⟨rfl,hb1⟩;have hB1:Below wr.heap.size wr w4:=Below.trans (And.left (by assumption)) (hb1.mono (Below.size (And.left (by assumption))));clear hb1) | fail "NO ARM")
       go_wp2_with fail
       go_roundg g3
       case measure=>omega
       case rel=>exact ⟨k+1,by omega,by omega,by rw [uH HS2],by go_num,hide ((uH hS).all (And.left (by assumption)))⟩
      ·have hkI:¬ ((k:Int) < (i:Int)):=by omega
       have hkn:SS k = SS n:=by rw [show k = i by omega];exact uH SN1
       rw [hkn]
       clear hkn
       have K0:=hide (fun w' (hb:Below wr.heap.size wr w')=>uH KAT w' i ((uH hS).bel.trans (hb.mono (uH hS).bel.size)) (uH HIN))
       have K1:=hide (fun w' (_:Below wr.heap.size wr w')=>r9div_any (SS n) (elM n T i i) w' (uH SL1 n) (uH TL i i))
       rw [← uH SE1] at K1
       have K2:=hide (fun w' (hb:Below wr.heap.size wr w')=>rwith_any n q xc i c (NN c m) xo (XJ c m) w' ⟨(uH hS).bits.below hb,by rw [uH EL1];exact (uH HL).symm,n6,q6⟩ (uH HIN) (uH HCQ) (uH NL1))
       rw [uH EL1,uH ES1] at K2
       have PUT:=hide (fun w' yo yc (hb:Below wr.heap.size wr w') (h1:NewB wr.heap.size yo (mxL (XJ c (m+1)))) (h2:BitsAt w' yo yc (mxL (XJ c (m+1))))=>((uH hS).all hb).put h2 (h1.least (uH hS).bel.size) (uH EL2))
       generalize NN c m = nv at *
       generalize elM n T i i = tv at *
       generalize SS n = sv at *
       generalize hnx:XJ c (m+1) = NX at *
       have HNX:=hide hnx
       have LNX:=hide (show NX.length = L from uH EL2)
       clear hnx
       have y0:=(uH hS).t.c0
       go_wp2_with fail
       clear y0
       have HK:=hide (fun w' (h':Below wr.heap.size wr w')=>(show Below wr.heap.size wr w'∧w'.cell? ⟨w.heap.size,0,none⟩ = some (.int .i64 (n:Nat))∧w'.cell? ⟨w.heap.size,1,none⟩ = some (.int .i64 (n:Nat))∧w'.cell? ⟨w.heap.size,2,none⟩ = some (.slice tq tn tc)∧w'.cell? ⟨h,0,none⟩ = some (.int .i64 (n:Nat))∧w'.cell? ⟨h,1,none⟩ = some (.int .i64 (q:Nat))∧w'.cell? ⟨h,2,none⟩ = some (.slice xo L xc)∧(∀ j,w'.frozen? ⟨h,j,none⟩ = false) from
        have z:=(uH hS).all h';⟨h',z.t.c0,z.t.c1,z.t.c2,z.x.c0,z.x.c1,z.x.c2,fun j=>z.x.free j⟩))
       obtain ⟨_,c0,c1,c2,d0,d1,d2,d3⟩:=uH HK _ (Below.refl _ _)
       have hB0:=(Below.refl wr.heap.size wr).drew
       go_region_with (first | (go_at_call 42;refine (uH K0 _ (by assumption)).mono ?_;rintro e wn ⟨rfl,hb1⟩;have hB:Below wr.heap.size wr wn:=Below.trans (by assumption) (hb1.mono (Below.size (B:=wr.heap.size) (w:=wr) (by assumption)));clear hb1 c0 c1 c2 d0 d1 d2 d3;obtain ⟨_,c0,c1,c2,d0,d1,d2,d3⟩:=uH HK _ hB) | (go_at_call 52;refine (uH K1 _ (by assumption)).mono ?_;rintro e wn ⟨rfl,hb1⟩;have hB:Below wr.heap.size wr wn:=Below.trans (by assumption) (hb1.mono (Below.size (B:=wr.heap.size) (w:=wr) (by assumption)));clear hb1 c0 c1 c2 d0 d1 d2 d3;obtain ⟨_,c0,c1,c2,d0,d1,d2,d3⟩:=uH HK _ hB) | (go_at_call 51;refine (uH K2 _ (by assumption)).mono ?_;rintro e wn ⟨v,rfl,⟨yo,yc,rfl,hn9,hq9⟩,hb1⟩;have hB9:Below wr.heap.size wr wn:=Below.trans (by assumption) (hb1.mono (Below.size (B:=wr.heap.size) (w:=wr) (by assumption)));have P9:=hide (uH PUT _ yo yc hB9 (hn9.least (Below.size (B:=wr.heap.size) (w:=wr) (by assumption))) hq9);rw [uH LNX];clear hb1 hn9 hq9 c0 c1 c2 d0 d1 d2 d3;obtain ⟨_,c0,c1,c2,d0,d1,d2,d3⟩:=uH HK _ hB9) | fail "NO ARM")
       all_goals
        clear c0 c1 c2 d0 d1 d2 d3
        go_wp2_with fail
        go_roundg g2
        case measure=>omega
        case rel=>exact ⟨m+1,_,_,by omega,by have:=uH HIE;go_num,by rw [uH HNX];assumption⟩
end Go.Proofs.YtlnphkioddknfaaGreatDoor
