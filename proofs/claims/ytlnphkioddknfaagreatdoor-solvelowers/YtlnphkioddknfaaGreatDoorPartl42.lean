/- Part 42 of the texts. -/
import Derived.Test.YtlnphkioddknfaaGreatDoorPartl41
import Derived.Test.YtlnphkioddknfaaGreatDoorPartl28
import Derived.Test.YtlnphkioddknfaaGreatDoorPartl27
import Derived.Test.YtlnphkioddknfaaGreatDoorPartl23
import Derived.Test.YtlnphkioddknfaaGreatDoorPartl40
set_option maxHeartbeats 16000000
set_option maxRecDepth 20000
namespace Go.Proofs.YtlnphkioddknfaaGreatDoor
open Go.RowKit
attribute [local go_sem ↓] Go.wp_at_zero Go.wp_at_succ
theorem trE_cases (r c p q:Int) (I J:List Int):trE17 r c p q I J = 0 ∨ trE17 r c p q I J = 1 ∨ trE17 r c p q I J = 4 ∨ trE17 r c p q I J = 3:=by
 unfold trE17 ck2
 rcases ckE_cases r c I with e | e | e <;> rcases ckE_cases p q J with e2 | e2 | e2 <;> rw [e,e2] <;> (repeat' split) <;> simp_all
theorem rup17_err (r c p q f:Int) (ao bo:Option Addr) (k cap m d:Nat) (w:World) (her:f = 1 ∨ f = 4 ∨ f = 3 ∨ f = 5)
  (C1:∀ w',Below w.heap.size w w'→Calls Tryz.prog 48 #[.agg #[.int .i64 r,.int .i64 c,.slice ao k cap],.agg #[.int .i64 p,.int .i64 q,.slice bo m d]] w' fun e w''=>e = .returned (.int .i64 f)∧Below w'.heap.size w' w'') :
  Calls Tryz.prog 13 #[.agg #[.int .i64 r,.int .i64 c,.slice ao k cap],.agg #[.int .i64 p,.int .i64 q,.slice bo m d]] w fun e w'=>e = .returned (.tuple #[.agg #[.int .i64 0,.int .i64 0,.slice none 0 0],.int .i64 f])∧Below w.heap.size w w':=by
 have KB:=hide (boxes3_17 w (.int .i64 r) (.int .i64 c) (.slice ao k cap) (.int .i64 p) (.int .i64 q) (.slice bo m d) (.int .i64 0) (.int .i64 0) (.slice none 0 0))
 obtain ⟨b0,x0,x1,x2⟩:=uH KB _ (by have:=Below.refl (((w.alloc (.cells #[.int .i64 r,.int .i64 c,.slice ao k cap] 24)).alloc (.cells #[.int .i64 p,.int .i64 q,.slice bo m d] 24)).alloc (.cells #[.int .i64 0,.int .i64 0,.slice none 0 0] 24)).heap.size (((w.alloc (.cells #[.int .i64 r,.int .i64 c,.slice ao k cap] 24)).alloc (.cells #[.int .i64 p,.int .i64 q,.slice bo m d] 24)).alloc (.cells #[.int .i64 0,.int .i64 0,.slice none 0 0] 24));simpa only [size_alloc9] using this)
 have HB:=hide b0;have HX:=hide x0;have HY:=hide x1;have HR:=hide x2
 have K1:=hide C1
 clear C1 KB b0 x0 x1 x2
 rcases her with rfl | rfl | rfl | rfl
 all_goals
  have y0:=(uH HX).c0;have y1:=(uH HX).c1;have y2:=(uH HX).c2;have u0:=(uH HY).c0;have u1:=(uH HY).c1;have u2:=(uH HY).c2
  go_enter Tryz.func13,Tryz.ntmps13
  go_wp2_with fail
  clear y0 y1 y2 u0 u1 u2
  refine (uH K1 _ (uH HB)).mono ?_
  rintro e wn ⟨rfl,hb⟩
  replace HX:=hide ((uH HX).all hb);replace HY:=hide ((uH HY).all hb);replace HR:=hide ((uH HR).all hb)
  replace HB:=hide ((uH HB).trans (hb.mono (uH HB).size))
  clear hb
  have y0:=(uH HX).c0;have y1:=(uH HX).c1;have y2:=(uH HX).c2;have u0:=(uH HY).c0;have u1:=(uH HY).c1;have u2:=(uH HY).c2
  go_wp2_with fail
  clear y0 y1 y2 u0 u1 u2
  refine (uH K1 _ (uH HB)).mono ?_
  rintro e wn ⟨rfl,hb⟩
  have X3:=(uH HR).all hb
  replace HB:=hide ((uH HB).trans (hb.mono (uH HB).size))
  clear hb K1 HX HY HR
  have f0:=X3.free 0;have f1:=X3.free 1;have f2:=X3.free 2
  have s0:=X3.c0;have s1:=X3.c1;have s2:=X3.c2
  have XP:=X3.put (.int .i64 0) (.int .i64 0) (.slice none 0 0)
  have z0:=XP.c0;have z1:=XP.c1;have z2:=XP.c2
  have BP:=hide (below_putM (uH HB) (b:=w.heap.size+1+1) (by omega) (.int .i64 0) (.int .i64 0) (.slice none 0 0))
  clear XP X3
  go_wp2_with fail
  exact bodyPost_ret (v:=.tuple #[.agg #[.int .i64 0,.int .i64 0,.slice none 0 0],.int .i64 _]) (by simp [results,Tryz.results13,go_sem,z0,z1,z2]) rfl ⟨rfl,uH BP⟩
theorem rlo17_err (r c p q f:Int) (ao bo:Option Addr) (k cap m d:Nat) (w:World) (her:f = 1 ∨ f = 4 ∨ f = 3 ∨ f = 5)
  (C1:∀ w',Below w.heap.size w w'→Calls Tryz.prog 48 #[.agg #[.int .i64 r,.int .i64 c,.slice ao k cap],.agg #[.int .i64 p,.int .i64 q,.slice bo m d]] w' fun e w''=>e = .returned (.int .i64 f)∧Below w'.heap.size w' w'') :
  Calls Tryz.prog 17 #[.agg #[.int .i64 r,.int .i64 c,.slice ao k cap],.agg #[.int .i64 p,.int .i64 q,.slice bo m d]] w fun e w'=>e = .returned (.tuple #[.agg #[.int .i64 0,.int .i64 0,.slice none 0 0],.int .i64 f])∧Below w.heap.size w w':=by
 have KB:=hide (boxes3_17 w (.int .i64 r) (.int .i64 c) (.slice ao k cap) (.int .i64 p) (.int .i64 q) (.slice bo m d) (.int .i64 0) (.int .i64 0) (.slice none 0 0))
 obtain ⟨b0,x0,x1,x2⟩:=uH KB _ (by have:=Below.refl (((w.alloc (.cells #[.int .i64 r,.int .i64 c,.slice ao k cap] 24)).alloc (.cells #[.int .i64 p,.int .i64 q,.slice bo m d] 24)).alloc (.cells #[.int .i64 0,.int .i64 0,.slice none 0 0] 24)).heap.size (((w.alloc (.cells #[.int .i64 r,.int .i64 c,.slice ao k cap] 24)).alloc (.cells #[.int .i64 p,.int .i64 q,.slice bo m d] 24)).alloc (.cells #[.int .i64 0,.int .i64 0,.slice none 0 0] 24));simpa only [size_alloc9] using this)
 have HB:=hide b0;have HX:=hide x0;have HY:=hide x1;have HR:=hide x2
 have K1:=hide C1
 clear C1 KB b0 x0 x1 x2
 rcases her with rfl | rfl | rfl | rfl
 all_goals
  have y0:=(uH HX).c0;have y1:=(uH HX).c1;have y2:=(uH HX).c2;have u0:=(uH HY).c0;have u1:=(uH HY).c1;have u2:=(uH HY).c2
  go_enter Tryz.func17,Tryz.ntmps17
  go_wp2_with fail
  clear y0 y1 y2 u0 u1 u2
  refine (uH K1 _ (uH HB)).mono ?_
  rintro e wn ⟨rfl,hb⟩
  replace HX:=hide ((uH HX).all hb);replace HY:=hide ((uH HY).all hb);replace HR:=hide ((uH HR).all hb)
  replace HB:=hide ((uH HB).trans (hb.mono (uH HB).size))
  clear hb
  have y0:=(uH HX).c0;have y1:=(uH HX).c1;have y2:=(uH HX).c2;have u0:=(uH HY).c0;have u1:=(uH HY).c1;have u2:=(uH HY).c2
  go_wp2_with fail
  clear y0 y1 y2 u0 u1 u2
  refine (uH K1 _ (uH HB)).mono ?_
  rintro e wn ⟨rfl,hb⟩
  have X3:=(uH HR).all hb
  replace HB:=hide ((uH HB).trans (hb.mono (uH HB).size))
  clear hb K1 HX HY HR
  have f0:=X3.free 0;have f1:=X3.free 1;have f2:=X3.free 2
  have s0:=X3.c0;have s1:=X3.c1;have s2:=X3.c2
  have XP:=X3.put (.int .i64 0) (.int .i64 0) (.slice none 0 0)
  have z0:=XP.c0;have z1:=XP.c1;have z2:=XP.c2
  have BP:=hide (below_putM (uH HB) (b:=w.heap.size+1+1) (by omega) (.int .i64 0) (.int .i64 0) (.slice none 0 0))
  clear XP X3
  go_wp2_with fail
  exact bodyPost_ret (v:=.tuple #[.agg #[.int .i64 0,.int .i64 0,.slice none 0 0],.int .i64 _]) (by simp [results,Tryz.results17,go_sem,z0,z1,z2]) rfl ⟨rfl,uH BP⟩
theorem rck17_no (r c p q:Int) (ao bo:Option Addr) (cap d:Nat) (I J:List Int) (w:World) (hI:BitsAt w ao cap I) (hJ:BitsAt w bo d J) (hi:I.length≤35184372088830) (hj:J.length≤35184372088830) (h:trE17 r c p q I J ≠ 0) :
  Calls Tryz.prog 48 #[.agg #[.int .i64 r,.int .i64 c,.slice ao I.length cap],.agg #[.int .i64 p,.int .i64 q,.slice bo J.length d]] w fun e w'=>e = .returned (.int .i64 (trE17 r c p q I J))∧Below w.heap.size w w':=by
 have C1:=fun w' (hb:Below w.heap.size w w')=>r11check_any r c ao cap I w' (hI.below hb) hi
 have C2:=fun w' (hb:Below w.heap.size w w')=>r11check_any p q bo d J w' (hJ.below hb) hj
 unfold trE17 ck2 at h ⊢
 by_cases h1:ckE r c I = 0
 ·rw [h1] at C1
  rw [if_pos h1] at h ⊢
  by_cases h2:ckE p q J = 0
  ·rw [h2] at C2
   rw [if_pos h2] at h ⊢
   by_cases hs:r = c∧r = p
   ·rw [if_pos hs] at h;exact absurd rfl h
   ·rw [if_neg hs]
    refine rck17_shape r c p q ao bo I.length cap J.length d w ?_ C1 C2
    by_cases e:r = c
    ·exact .inr ⟨e,fun e2=>hs ⟨e,e2⟩⟩
    ·exact .inl e
  ·rw [if_neg h2]
   exact rck17_two r c p q (ckE p q J) ao bo I.length cap J.length d w ((ckE_cases p q J).resolve_left h2) C1 C2
 ·rw [if_neg h1] at h ⊢
  rw [if_neg h1]
  exact rck17_one r c p q (ckE r c I) ao bo I.length cap J.length d w ((ckE_cases r c I).resolve_left h1) C1
theorem rck17_mx (n q tc bc:Nat) (tq bo:Option Addr) (T B:List Nat) (w:World) (hT:Mx w tq tc n n T) (hB:Mx w bo bc n q B) (fT:finL T = true) (fB:finL B = true) :
  Calls Tryz.prog 48 #[.agg #[.int .i64 n,.int .i64 n,.slice tq T.length tc],.agg #[.int .i64 n,.int .i64 q,.slice bo B.length bc]] w fun e w'=>e = .returned (.int .i64 (if zdB (dgL n n T) = true then 5 else 0))∧Below w.heap.size w w':=by
 have hT36:=hT.small;have hB36:=hB.small
 refine rck17_ok n q tc bc T.length B.length tq bo T w hT rfl (fun w' hb=>?_) (fun w' hb=>?_)
 ·have:=r11check_any n n tq tc (mxL T) w' (hT.1.below hb) (by rw [mxL_len];omega)
  rwa [mxL_len,ck_mx hT fT] at this
 ·have:=r11check_any n q bo bc (mxL B) w' (hB.1.below hb) (by rw [mxL_len];omega)
  rwa [mxL_len,ck_mx hB fB] at this
theorem rlower17_no (r c p q:Int) (ao bo:Option Addr) (cap d:Nat) (I J:List Int) (w:World) (hI:BitsAt w ao cap I) (hJ:BitsAt w bo d J) (hi:I.length≤35184372088830) (hj:J.length≤35184372088830) (h:trE17 r c p q I J ≠ 0) :
  Calls Tryz.prog 17 #[.agg #[.int .i64 r,.int .i64 c,.slice ao I.length cap],.agg #[.int .i64 p,.int .i64 q,.slice bo J.length d]] w fun e w'=>SvAns w w' (trE17 r c p q I J) 0 0 [] e∧Below w.heap.size w w':=by
 refine (rlo17_err r c p q (trE17 r c p q I J) ao bo I.length cap J.length d w (by rcases trE_cases r c p q I J with e | e | e | e <;> simp_all) (fun w' hb=>rck17_no r c p q ao bo cap d I J w' (hI.below hb) (hJ.below hb) hi hj h)).mono ?_
 rintro e w' ⟨rfl,hb⟩
 exact ⟨.inr ⟨h,rfl⟩,hb⟩
theorem rlower17_mx (n q tc bc:Nat) (tq bo:Option Addr) (T B:List Nat) (w:World) (hT:Mx w tq tc n n T) (hB:Mx w bo bc n q B) (fT:finL T = true) (fB:finL B = true) :
  Calls Tryz.prog 17 #[.agg #[.int .i64 n,.int .i64 n,.slice tq T.length tc],.agg #[.int .i64 n,.int .i64 q,.slice bo B.length bc]] w fun e w'=>SvAns w w' (usE n T (loM n q T B)) n q (loM n q T B) e∧Below w.heap.size w w':=by
 have CK:=fun w' (hb:Below w.heap.size w w')=>rck17_mx n q tc bc tq bo T B w' (hT.below hb) (hB.below hb) fT fB
 have lM:(loM n q T B).length = n * q:=trM_len _ _ _ _ _ _
 unfold usE
 cases hz:zdB (dgL n n T) with
 | true =>
  rw [hz,if_pos rfl] at CK
  rw [if_pos rfl]
  refine (rlo17_err n n n q 5 tq bo T.length tc B.length bc w (by simp) CK).mono ?_
  rintro e w' ⟨rfl,hb⟩
  exact ⟨.inr ⟨by decide,rfl⟩,hb⟩
 | false =>
  rw [hz,if_neg (by decide)] at CK
  rw [if_neg (by decide)]
  refine (rlo17_of n q tc bc T.length B.length (n * q) (if finL (loM n q T B) = true then 0 else 2) tq bo T B w hT hB rfl rfl rfl CK (fun w' xo xc hb hx=>rfin17_any n q (n * q) xc xo _ w' hx lM (Nat.mul_le_mul hT.2.2.1 hB.2.2.2))).mono ?_
  rintro e w' ⟨xo,xc,hans,h1,h2,hb⟩
  refine ⟨?_,hb⟩
  rcases hans with ⟨e1,rfl⟩ | ⟨e1,rfl⟩
  ·have hf:finL (loM n q T B) = true:=by
    cases hq:finL (loM n q T B)
    ·rw [hq,if_neg (by decide)] at e1;cases e1
    ·rfl
   exact .inl ⟨e1,xo,xc,rfl,h1,h2,lM,hf⟩
  ·exact .inr ⟨e1,rfl⟩
theorem SvAns.one {w w':World} {f:Int} {n q:Nat} {M:List Nat} {e:Ending} (h:SvAns w w' f n q M e):∃ xo xc,e = .returned (.tuple #[.agg #[.int .i64 ((if f = 0 then n else 0:Nat):Int),.int .i64 ((if f = 0 then q else 0:Nat):Int),.slice xo (if f = 0 then M else []).length xc],.int .i64 f])∧BitsAt w' xo xc (mxL (if f = 0 then M else [])):=by
 rcases h with ⟨rfl,xo,xc,rfl,_,h2,h3,_⟩ | ⟨hf,rfl⟩
 ·refine ⟨xo,xc,?_,?_⟩
  ·rw [if_pos rfl,if_pos rfl,if_pos rfl,h3]
  ·rw [if_pos rfl];exact h2
 ·refine ⟨none,0,?_,?_⟩
  ·rw [if_neg hf,if_neg hf,if_neg hf];rfl
  ·rw [if_neg hf];exact BitsAt.none w' 0
end Go.Proofs.YtlnphkioddknfaaGreatDoor
namespace Go.Proofs.YtlnphkioddknfaaGreatDoor
open Go.RowKit
attribute [local go_sem ↓] Go.wp_at_zero Go.wp_at_succ
theorem one_bits17 (w:World) (a:Nat) (ha:a < 18446744073709551616):BitsAt (w.alloc (.cells #[.int .u64 (a:Nat)] 37)) (some ⟨w.heap.size,0,none⟩) 1 [(a:Int)]:=by
 have h:RowB (w.alloc (.cells #[.int .u64 (a:Nat)] 37)) w.heap.size [a]:=heap_alloc_new w _
 exact h.bits (fun x hx=>by simp at hx;subst hx;exact ha)
theorem pa_fin17 {S:List Nat} {r n:Nat} (hl:S.length = r * n) (h:finL S = true) {i k p q:Nat} (hp:i+p≤r) (hq:k+q≤n):finL (paM n S i k p q) = true:=by
 rw [finL_all] at h ⊢
 rw [show (paM n S i k p q).length = p * q from mkM_len _ _ _]
 intro x hx
 obtain ⟨h1,h2,h3⟩:=place_in hx
 unfold paM
 rw [← h3,mkM_atD _ _ _ h1 h2]
 exact h _ (by rw [hl];exact place_lt (show i+x / q < r by omega) (show k+x % q < n by omega))
def lqQ (r c:Nat) (S:List Nat):List Nat:=paM r (facQ r c S) 0 0 r c
def lqT (r c:Nat) (S:List Nat):List Nat:=paM c (facR r c S) 0 0 c c
def lqY (r c q:Nat) (S B:List Nat):List Nat:=muM c r q (tuM r c (lqQ r c S)) B
def lqU (r c q:Nat) (S B:List Nat):List Nat:=upM c q (lqT r c S) (lqY r c q S B)
def lqE (r c q:Nat) (S B:List Nat):Int:=if facK r c S = true then (if ftB c c (lqT r c S) = true then 5 else if finL (lqY r c q S B) = true then usE c (lqT r c S) (lqU r c q S B) else 4) else 2
theorem lqT_fin {r c:Nat} {S:List Nat} (hl:S.length = r * c) (hcr:c≤r) (hk:facK r c S = true):finL (lqT r c S) = true:=by
 unfold facK at hk
 rw [Bool.and_eq_true,Bool.and_eq_true] at hk
 exact pa_fin17 (r:=r) (qrR_len r c S hl _) hk.2.2 (by omega) (by omega)
theorem chk17 {r c p q cap d:Nat} {ao bo:Option Addr} {S B:List Nat} {w:World} (h:Mx w ao cap r c S) (h2:Mx w bo d p q B) (fS:finL S = true) (fB:finL B = true) :
  Calls Tryz.prog 70 #[.agg #[.int .i64 r,.int .i64 c,.slice ao S.length cap],.agg #[.int .i64 p,.int .i64 q,.slice bo B.length d]] w fun e w'=>e = .returned (.int .i64 0)∧Below w.heap.size w w':=by
 have s1:=h.small;have s2:=h2.small
 have:=checked_any r c p q ao bo cap d (mxL S) (mxL B) w h.1 h2.1 (by rw [mxL_len];omega) (by rw [mxL_len];omega)
 rw [mxL_len,mxL_len] at this
 unfold ck2 at this
 rwa [if_pos (ck_mx h fS),ck_mx h2 fB] at this
theorem least_mx (r c q tc bc:Nat) (tq bo:Option Addr) (S B:List Nat) (w:World) (hS:Mx w tq tc r c S) (hB:Mx w bo bc r q B) (fS:finL S = true) (fB:finL B = true) (hcr:c≤r) (hT:Tab w) :
  Calls Tryz.prog 22 #[.agg #[.int .i64 r,.int .i64 c,.slice tq S.length tc],.agg #[.int .i64 r,.int .i64 q,.slice bo B.length bc]] w fun e w'=>SvAns w w' (lqE r c q S B) c q (lqU r c q S B) e∧Below w.heap.size w w':=by
 have r6:=hS.2.2.1;have c6:=hS.2.2.2;have q6:=hB.2.2.2
 have hsh:¬ (r:Int) < (c:Int):=by omega
 have hm:min r c = c:=by omega
 have C1:=fun w' (hb:Below w.heap.size w w')=>chk17 (hS.below hb) (hB.below hb) fS fB
 unfold lqE
 cases hk:facK r c S with
 | false =>
  rw [if_neg (by decide)]
  refine (least_range r c q S.length tc B.length bc tq bo w hsh C1 (fun w' hb=>(qThin_no r c tc tq S w' (hS.below hb) fS hk (hT.all hb)).mono ?_)).mono ?_
  ·rintro e w'' ⟨v,u,rfl,⟨ao,cap,rfl,_,_⟩,⟨bo',cap',rfl,_,_⟩,hb2⟩
   exact ⟨0,0,0,0,ao,bo',0,cap,0,cap',rfl,hb2⟩
  ·rintro e w' ⟨rfl,hb⟩
   exact ⟨.inr ⟨by decide,rfl⟩,hb⟩
 | true =>
  rw [if_pos rfl]
  have fT:=lqT_fin hS.2.1 hcr hk
  have lT:(lqT r c S).length = c * c:=by unfold lqT paM;exact mkM_len _ _ _
  have lQ:(lqQ r c S).length = r * c:=by unfold lqQ paM;exact mkM_len _ _ _
  have lY:(lqY r c q S B).length = c * q:=by unfold lqY muM;exact mkM_len _ _ _
  have C2:∀ w',Below w.heap.size w w'→Calls Tryz.prog 71 #[.agg #[.int .i64 r,.int .i64 c,.slice tq S.length tc]] w' fun e w''=>∃ so sd vo vd,e = .returned (.tuple #[.agg #[.int .i64 r,.int .i64 c,.slice so (lqQ r c S).length sd],.agg #[.int .i64 c,.int .i64 c,.slice vo (lqT r c S).length vd],.int .i64 0])∧BitsAt w'' so sd (mxL (lqQ r c S))∧BitsAt w'' vo vd (mxL (lqT r c S))∧Below w'.heap.size w' w'':=fun w' hb=>by
   have:=qThin_yes r c tc tq S w' (hS.below hb) fS hk (hT.all hb)
   rw [hm] at this
   refine this.mono ?_
   rintro e w'' ⟨v,u,rfl,⟨ao,cap,rfl,_,h1⟩,⟨bo',cap',rfl,_,h2⟩,hb2⟩
   exact ⟨ao,cap,bo',cap',rfl,h1,h2,hb2⟩
  have C3:∀ w' vo vd,Below w.heap.size w w'→BitsAt w' vo vd (mxL (lqT r c S))→Calls Tryz.prog 18 #[.agg #[.int .i64 c,.int .i64 c,.slice vo (lqT r c S).length vd]] w' fun e w''=>e = .returned (.tuple #[.bool (ftB c c (lqT r c S)),.int .i64 0])∧Below w'.heap.size w' w'':=fun w' vo vd hb hv =>
   flat_any c c vd vo (lqT r c S) w' ⟨hv,lT,c6,c6⟩ fT (hT.all hb)
  cases hf:ftB c c (lqT r c S) with
  | true =>
   rw [hf] at C3
   rw [if_pos rfl]
   refine (least_rank r c q S.length tc B.length bc (lqQ r c S).length (lqT r c S).length (lqQ r c S) (lqT r c S) tq bo w hsh C1 C2 C3).mono ?_
   rintro e w' ⟨rfl,hb⟩
   exact ⟨.inr ⟨by decide,rfl⟩,hb⟩
  | false =>
   rw [hf] at C3
   rw [if_neg (by decide)]
   refine least_of r c q (if finL (lqY r c q S B) = true then usE c (lqT r c S) (lqU r c q S B) else 4) S.length tc B.length bc (lqQ r c S).length (lqT r c S).length (lqY r c q S B).length c q (lqQ r c S) (lqT r c S) (lqY r c q S B) (lqU r c q S B) tq bo w hsh C1 C2 C3 (fun w' so sd hb hs=>?_) (fun w' vo vd yo yd hb hv hy=>?_)
   ·refine (qTurned_yes r c q sd bc so bo (lqQ r c S) B w' ⟨hs,lQ,r6,c6⟩ (hB.below hb) (hT.all hb)).mono ?_
    rintro e w'' ⟨v,rfl,⟨ao,cap,rfl,_,h1⟩,hb2⟩
    exact ⟨ao,cap,rfl,h1,hb2⟩
   ·cases hy2:finL (lqY r c q S B) with
    | true =>
     rw [if_pos rfl]
     exact upper_mx c q vd yd vo yo (lqT r c S) (lqY r c q S B) w' ⟨hv,lT,c6,c6⟩ ⟨hy,lY,c6,q6⟩ fT hy2 (hT.all hb)
    | false =>
     rw [if_neg (by decide)]
     have e4:trE17 c c c q (mxL (lqT r c S)) (mxL (lqY r c q S B)) = 4:=by
      have h1:ckE (c:Int) (c:Int) (mxL (lqT r c S)) = 0:=ck_mx (w:=w') (ao:=vo) (cap:=vd) ⟨hv,lT,c6,c6⟩ fT
      have h2:ckE (c:Int) (q:Int) (mxL (lqY r c q S B)) = 4:=by
       unfold ckE
       have hm2:Mx w' yo yd c q (lqY r c q S B):=⟨hy,lY,c6,q6⟩
       rw [mxL_len,mx_ok hm2]
       have:fnK (mxL (lqY r c q S B)) (lqY r c q S B).length = false:=hy2
       rw [this]
       rfl
      unfold trE17 ck2
      rw [h1,h2]
      rfl
     have t36:c * c≤36:=Nat.mul_le_mul c6 c6
     have y36:c * q≤36:=Nat.mul_le_mul c6 q6
     have:=upper_no c c c q vo yo vd yd (mxL (lqT r c S)) (mxL (lqY r c q S B)) w' hv hy (by rw [mxL_len,lT];omega) (by rw [mxL_len,lY];omega) (by rw [e4];decide)
     rw [e4,mxL_len,mxL_len] at this
     refine this.mono ?_
     rintro e w'' ⟨hans,hb2⟩
     rcases hans with ⟨h0,_⟩ | ⟨_,rfl⟩
     ·cases h0
     ·exact ⟨.inr ⟨by decide,rfl⟩,hb2⟩
theorem awake17_of (w:World)
  (C1:∀ w' ao bo,Below w.heap.size w w'→BitsAt w' ao 1 [((4611686018427387904:Nat):Int)]→BitsAt w' bo 1 [((4616189618054758400:Nat):Int)]→Calls Tryz.prog 22 #[.agg #[.int .i64 1,.int .i64 1,.slice ao 1 1],.agg #[.int .i64 1,.int .i64 1,.slice bo 1 1]] w' fun e w''=>∃ xo xc,e = .returned (.tuple #[.agg #[.int .i64 1,.int .i64 1,.slice xo 1 xc],.int .i64 0])∧BitsAt w'' xo xc [((4611686018427387904:Nat):Int)]∧Below w'.heap.size w' w'') :
  Calls Tryz.prog 15 #[] w fun e w'=>e = .returned (.bool true)∧Below w.heap.size w w':=by
 have K1:=hide C1
 have b1:=below_alloc9 w (.cells #[.int .u64 ((4611686018427387904:Nat):Int)] 37)
 have t1:=one_bits17 w 4611686018427387904 (by decide)
 have b2:=below_alloc9 (w.alloc (.cells #[.int .u64 ((4611686018427387904:Nat):Int)] 37)) (.cells #[.int .u64 ((4616189618054758400:Nat):Int)] 37)
 have t2:=one_bits17 (w.alloc (.cells #[.int .u64 ((4611686018427387904:Nat):Int)] 37)) 4616189618054758400 (by decide)
 rw [size_alloc9] at t2
 have TB:=hide (t1.below b2);have TC:=hide t2
 have BB:=hide (b1.trans (b2.mono b1.size))
 clear C1 b1 t1 b2 t2
 go_enter Tryz.func15,Tryz.ntmps15
 go_wp2_with fail
 refine (uH K1 _ _ _ (uH BB) (uH TB) (uH TC)).mono ?_
 rintro e w1 ⟨xo,xc,rfl,bv,hb⟩
 obtain ⟨b,off,rfl,_,hc⟩:=bv.ne (by decide)
 have c0:w1.cell? ⟨b,off+0,none⟩ = some (.int .u64 4611686018427387904):=hc 0 (by decide)
 rw [Nat.add_zero] at c0
 replace BB:=hide ((uH BB).trans (hb.mono (uH BB).size))
 clear hb K1 TB TC bv hc
 have ba:=below_alloc9 w1 (.cells #[.int .i64 1,.int .i64 1,.slice (some ⟨b,off,none⟩) 1 xc] 24)
 have BC:=hide ((uH BB).trans (ba.mono (uH BB).size))
 clear ba BB
 go_wp2
 go_ret
 exact ⟨rfl,uH BC⟩
theorem same17_of (r c f:Int) (n cap d:Nat) (ao bo:Option Addr) (w:World)
  (C1:∀ w',Below w.heap.size w w'→Calls Tryz.prog 23 #[.agg #[.int .i64 r,.int .i64 c,.slice ao n cap],.agg #[.int .i64 r,.int .i64 c,.slice bo n d]] w' fun e w''=>e = .returned (.bool true)∧Below w'.heap.size w' w'') :
  Calls Tryz.prog 14 #[.agg #[.int .i64 r,.int .i64 c,.slice ao n cap],.int .i64 f,.agg #[.int .i64 r,.int .i64 c,.slice bo n d],.int .i64 f] w fun e w'=>e = .returned (.bool true)∧Below w.heap.size w w':=by
 have KB:=hide (boxes2 w (.int .i64 r) (.int .i64 c) (.slice ao n cap) (.int .i64 r) (.int .i64 c) (.slice bo n d))
 obtain ⟨b0,x0,x1⟩:=uH KB ((w.alloc (.cells #[.int .i64 r,.int .i64 c,.slice ao n cap] 24)).alloc (.cells #[.int .i64 r,.int .i64 c,.slice bo n d] 24)) (by have:=Below.refl ((w.alloc (.cells #[.int .i64 r,.int .i64 c,.slice ao n cap] 24)).alloc (.cells #[.int .i64 r,.int .i64 c,.slice bo n d] 24)).heap.size ((w.alloc (.cells #[.int .i64 r,.int .i64 c,.slice ao n cap] 24)).alloc (.cells #[.int .i64 r,.int .i64 c,.slice bo n d] 24));simpa only [size_alloc9] using this)
 have K1:=hide (C1 _ b0)
 have HB:=hide b0
 have y0:=x0.c0;have y1:=x0.c1;have y2:=x0.c2;have u0:=x1.c0;have u1:=x1.c1;have u2:=x1.c2
 clear C1 KB b0 x0 x1
 go_enter Tryz.func14,Tryz.ntmps14
 go_wp2_with fail
 refine (uH K1).mono ?_
 rintro e w1 ⟨rfl,hb⟩
 replace HB:=hide ((uH HB).trans (hb.mono (uH HB).size))
 clear hb K1 y0 y1 y2 u0 u1 u2
 go_wp2
 go_ret
 exact ⟨rfl,uH HB⟩
theorem same17_yes (r c f:Int) (cap d:Nat) (ao bo:Option Addr) (S:List Nat) (w:World) (h:BitsAt w ao cap (mxL S)) (h2:BitsAt w bo d (mxL S)) (hl:S.length≤1000000) :
  Calls Tryz.prog 14 #[.agg #[.int .i64 r,.int .i64 c,.slice ao S.length cap],.int .i64 f,.agg #[.int .i64 r,.int .i64 c,.slice bo S.length d],.int .i64 f] w fun e w'=>e = .returned (.bool true)∧Below w.heap.size w w' :=
 same17_of r c f S.length cap d ao bo w (fun w' hb=>rsame_any r c ao bo cap d S w' (h.below hb) (h2.below hb) hl)
end Go.Proofs.YtlnphkioddknfaaGreatDoor
namespace Go.Proofs.YtlnphkioddknfaaGreatDoor
open Go.RowKit
theorem a17_k:facK 1 1 [4611686018427387904] = true:=by decide +kernel
theorem a17_t:lqT 1 1 [4611686018427387904] = [4611686018427387904]:=by decide +kernel
theorem a17_q:lqQ 1 1 [4611686018427387904] = [4607182418800017408]:=by decide +kernel
theorem a17_y:lqY 1 1 1 [4611686018427387904] [4616189618054758400] = [4616189618054758400]:=by
 unfold lqY
 rw [a17_q]
 decide +kernel
theorem a17_f:ftB 1 1 [4611686018427387904] = false:=by decide +kernel
theorem a17_u:upM 1 1 [4611686018427387904] [4616189618054758400] = [4611686018427387904]:=by decide +kernel
theorem awake17_facts:lqE 1 1 1 [4611686018427387904] [4616189618054758400] = 0∧lqU 1 1 1 [4611686018427387904] [4616189618054758400] = [4611686018427387904]:=by
 have hu:lqU 1 1 1 [4611686018427387904] [4616189618054758400] = [4611686018427387904]:=by
  unfold lqU
  rw [a17_t,a17_y]
  exact a17_u
 refine ⟨?_,hu⟩
 unfold lqE
 rw [hu,a17_k,a17_t,a17_y,a17_f]
 decide +kernel
theorem awake17_any (w:World) (hT:Tab w):∀ w',Below w.heap.size w w'→Calls Tryz.prog 15 #[] w' fun e w''=>e = .returned (.bool true)∧Below w'.heap.size w' w'':=fun w0 hb0 =>
 awake17_of w0 (fun w' ao bo hb h1 h2=>by
  have:=least_mx 1 1 1 1 1 ao bo [4611686018427387904] [4616189618054758400] w' ⟨h1,rfl,by decide,by decide⟩ ⟨h2,rfl,by decide,by decide⟩ (by decide +kernel) (by decide +kernel) (Nat.le_refl 1) ((hT.all hb0).all hb)
  rw [awake17_facts.1,awake17_facts.2] at this
  refine this.mono ?_
  rintro e w'' ⟨hans,hb2⟩
  rcases hans with ⟨_,xo,xc,rfl,_,h3,_,_⟩ | ⟨h0,_⟩
  ·exact ⟨xo,xc,rfl,h3,hb2⟩
  ·exact absurd rfl h0)
end Go.Proofs.YtlnphkioddknfaaGreatDoor
namespace Go.Proofs.YtlnphkioddknfaaGreatDoor
open Go.RowKit
attribute [local go_sem ↓] Go.wp_at_zero Go.wp_at_succ
theorem rflat17_of (r c n cap m s:Nat) (ao:Option Addr) (D A G:Nat→Nat) (O:Nat→Int) (o:Bool) (w:World) (hr:r≤6) (_hc:c≤6) (hm:min r c = m) (hG0:G 0 = 0)
  (C1:∀ w' k,Below w.heap.size w w'→k < m→Calls Tryz.prog 42 #[.agg #[.int .i64 r,.int .i64 c,.slice ao n cap],.int .i64 (k:Nat),.int .i64 (k:Nat)] w' fun e w''=>e = .returned (.int .u64 (D k:Nat))∧Below w'.heap.size w' w'')
  (C2:∀ w' k,k < m→Calls Tryz.prog 67 #[.int .u64 (D k:Nat)] w' fun e w''=>e = .returned (.int .u64 (A k:Nat))∧Below w'.heap.size w' w'')
  (C3:∀ w' k,k < m→Calls Tryz.prog 66 #[.int .u64 (G k:Nat),.int .u64 (A k:Nat)] w' fun e w''=>e = .returned (.int .u64 (G (k+1):Nat))∧Below w'.heap.size w' w'')
  (C4:∀ w',Calls Tryz.prog 69 #[.int .u64 (G m:Nat),.int .i64 (-40)] w' fun e w''=>e = .returned (.int .u64 (s:Nat))∧Below w'.heap.size w' w'')
  (C5:∀ w' k,k < m→Calls Tryz.prog 68 #[.int .u64 s,.int .u64 (A k:Nat)] w' fun e w''=>(∃ b:Bool,e = .returned (.tuple #[.int .i64 (O k),.bool b]))∧Below w'.heap.size w' w'')
  (hy:∀ k,k < m→0≤O k→o = true) (hn:(∀ k,k < m→O k < 0)→o = false) :
  Calls Tryz.prog 20 #[.agg #[.int .i64 r,.int .i64 c,.slice ao n cap]] w fun e w'=>e = .returned (.bool o)∧Below w.heap.size w w':=by
 have HB:=hide (below_alloc9 w (.cells #[.int .i64 r,.int .i64 c,.slice ao n cap] 24))
 have HX:=hide (BoxM.new w (.int .i64 r) (.int .i64 c) (.slice ao n cap))
 have K1:=hide C1;have K2:=hide C2;have K3:=hide C3;have K4:=hide C4;have K5:=hide C5;have HY:=hide hy;have HN:=hide hn
 have HM:=hide hm
 have G0:=hide hG0
 have hG0':((G 0:Nat):Int) = 0:=by rw [hG0];rfl
 clear C1 C2 C3 C4 C5 hy hn hm hG0
 go_enter Tryz.func20,Tryz.ntmps20
 go_wp2_with fail
 go_loopw [3,4] (fun g a wr=>∃ k:Nat,k≤m∧g = .int .u64 (G k:Nat)∧a = .int .i64 k∧Hid (BoxM wr w.heap.size (.int .i64 r) (.int .i64 c) (.slice ao n cap))∧Hid (Below w.heap.size w wr)) (fun _ a _=>m - (intOf a).toNat)
 case atStart=>exact ⟨0,Nat.zero_le _,by rw [hG0'],rfl,HX,HB⟩
 case round =>
  clear HX HB hG0'
  obtain ⟨k,hk,rfl,rfl,hX,hB⟩:=hrel
  by_cases hlt:k < m
  ·have hkr:(k:Int) < (r:Int):=by have:=uH HM;omega
   have hkc:(k:Int) < (c:Int):=by have:=uH HM;omega
   have D1:=hide (fun w' hb=>uH K1 w' k hb hlt);have D2:=hide (fun w'=>uH K2 w' k hlt);have D3:=hide (fun w'=>uH K3 w' k hlt)
   generalize D k = dk at *
   generalize A k = ak at *
   generalize hgk:G k = gk at *
   generalize hg1:G (k+1) = g1 at *
   have HG1:=hide hg1
   clear hgk hg1
   have hw1:IntKind.i64.wrap ((k:Int)+1) = (k:Int)+1:=wrap_in _ (by omega)
   have y0:=(uH hX).c0;have y1:=(uH hX).c1;have y2:=(uH hX).c2
   go_wp2_with fail
   clear y0 y1 y2
   refine (uH D1 _ (uH hB)).mono ?_
   rintro e w1 ⟨rfl,hb⟩
   replace hX:=hide ((uH hX).all hb)
   replace hB:=hide ((uH hB).trans (hb.mono (uH hB).size))
   clear hb D1
   go_wp2_with fail
   refine (uH D2 _).mono ?_
   rintro e w2 ⟨rfl,hb⟩
   replace hX:=hide ((uH hX).all hb)
   replace hB:=hide ((uH hB).trans (hb.mono (uH hB).size))
   clear hb D2
   go_wp2_with fail
   refine (uH D3 _).mono ?_
   rintro e w3 ⟨rfl,hb⟩
   replace hX:=hide ((uH hX).all hb)
   replace hB:=hide ((uH hB).trans (hb.mono (uH hB).size))
   clear hb D3
   go_wp2_with fail
   go_round
   case rel=>exact ⟨k+1,by omega,by rw [uH HG1],by go_num,hX,hB⟩
   case measure=>first | (simp [intOf];done) | (simp [intOf];omega)
  ·have hkm:k = m:=by omega
   rw [hkm]
   have hex:(¬ (m:Int) < (r:Int)) ∨ ((m:Int) < (r:Int)∧¬ (m:Int) < (c:Int)):=by have:=uH HM;omega
   clear hlt hk hkm
   generalize hgm:G m = gm at *
   have y0:=(uH hX).c0;have y1:=(uH hX).c1
   rcases hex with hex | ⟨hex,hex2⟩
   all_goals
    go_wp2_with fail
    clear y0 y1
    go_loopw [5] (fun a wr=>∃ k:Nat,k≤m∧a = .int .i64 k∧Hid (∀ j,j < k→O j < 0)∧Hid (BoxM wr w.heap.size (.int .i64 r) (.int .i64 c) (.slice ao n cap))∧Hid (Below w.heap.size w wr)) (fun a _=>m - (intOf a).toNat)
    case atStart=>exact ⟨0,Nat.zero_le _,rfl,fun j hj=>absurd hj (Nat.not_lt_zero j),hX,hB⟩
    case round =>
     clear hX hB
     obtain ⟨k,hk,rfl,hF,hX,hB⟩:=hrel
     by_cases hlt:k < m
     ·have hkr:(k:Int) < (r:Int):=by have:=uH HM;omega
      have hkc:(k:Int) < (c:Int):=by have:=uH HM;omega
      have D1:=hide (fun w' (hb:Below wr.heap.size wr w')=>uH K1 w' k ((uH hB).trans (hb.mono (uH hB).size)) hlt)
      have D2:=hide (fun w' (_:Below wr.heap.size wr w')=>uH K2 w' k hlt)
      have D4:=hide (fun w' (_:Below wr.heap.size wr w')=>uH K4 w')
      have D5:=hide (fun w' (_:Below wr.heap.size wr w')=>uH K5 w' k hlt)
      have YY:=hide (uH HY k hlt)
      have GF:=hide (fun (e:O k < 0)=>(show ∀ j,j < k+1→O j < 0 from fun j hj=>by
       rcases Nat.lt_or_ge j k with g | g
       ·exact uH hF j g
       ·rw [show j = k by omega];exact e))
      generalize D k = dk at *
      generalize A k = ak at *
      generalize O k = ok at *
      have hw1:IntKind.i64.wrap ((k:Int)+1) = (k:Int)+1:=wrap_in _ (by omega)
      have y0:=(uH hX).c0;have y1:=(uH hX).c1;have y2:=(uH hX).c2
      have HK:=hide (fun w' (h':Below wr.heap.size wr w')=>(show Below wr.heap.size wr w'∧w'.cell? ⟨w.heap.size,0,none⟩ = some (.int .i64 (r:Nat))∧w'.cell? ⟨w.heap.size,1,none⟩ = some (.int .i64 (c:Nat))∧w'.cell? ⟨w.heap.size,2,none⟩ = some (.slice ao n cap) from ⟨h',cell_keep y0 h',cell_keep y1 h',cell_keep y2 h'⟩))
      clear y2
      go_wp2_with fail
      clear y0 y1
      go_region_held3 (fun w'=>Below wr.heap.size wr w'∧w'.cell? ⟨w.heap.size,0,none⟩ = some (.int .i64 (r:Nat))∧w'.cell? ⟨w.heap.size,1,none⟩ = some (.int .i64 (c:Nat))∧w'.cell? ⟨w.heap.size,2,none⟩ = some (.slice ao n cap))
       (first | exact uH HK _ (Below.refl _ _).drew | exact uH HK _ (by assumption) | fail "KK")
       (first | (go_at_call 42;with_reducible refine Calls.mono (uH D1 _ (And.left (by assumption))) ?_;rintro e w4 ⟨rfl,hb1⟩;have hB1:Below wr.heap.size wr w4:=Below.trans (And.left (by assumption)) (hb1.mono (Below.size (And.left (by assumption))));clear hb1) | (go_at_call 67;with_reducible refine Calls.mono (uH D2 _ (And.left (by assumption))) ?_;rintro e w4 ⟨rfl,hb1⟩;have hB1:Below wr.heap.size wr w4:=Below.trans (And.left (by assumption)) (hb1.mono (Below.size (And.left (by assumption))));clear hb1) | (go_at_call 69;with_reducible refine Calls.mono (uH D4 _ (And.left (by assumption))) ?_;rintro e w4 ⟨rfl,hb1⟩;have hB1:Below wr.heap.size wr w4:=Below.trans (And.left (by assumption)) (hb1.mono (Below.size (And.left (by assumption))));clear hb1) | (go_at_call 68;with_reducible refine Calls.mono (uH D5 _ (And.left (by assumption))) ?_;rintro e w4 ⟨⟨b,rfl⟩,hb1⟩;have hB1:Below wr.heap.size wr w4:=Below.trans (And.left (by assumption)) (hb1.mono (Below.size (And.left (by assumption))));clear hb1) | fail "NO ARM")
      all_goals
       by_cases hok:0≤ok
       ·have hy:=hide (uH YY hok)
        go_wp2_with fail
        exact bodyPost_ret (v:=.bool true) (by simp [results,Tryz.results20,go_sem]) rfl ⟨by rw [uH hy],(uH hB).trans (Below.mono (And.left (by assumption)) (uH hB).size)⟩
       ·have hF2:=hide (uH GF (by omega))
        go_wp2_with fail
        go_round
        case rel=>exact ⟨k+1,by omega,by go_num,hF2,hide ((uH hX).all (And.left (by assumption))),hide ((uH hB).trans (Below.mono (And.left (by assumption)) (uH hB).size))⟩
        case measure=>first | (simp [intOf];done) | (simp [intOf];omega)
     ·have hkm:k = m:=by omega
      have hno:=hide (uH HN (fun j hj=>uH hF j (by omega)))
      have y0:=(uH hX).c0;have y1:=(uH hX).c1
      rw [hkm]
      clear hlt hk hkm
      go_wp2_with fail
      exact bodyPost_ret (v:=.bool false) (by simp [results,Tryz.results20,go_sem]) rfl ⟨by rw [uH hno],uH hB⟩
theorem rflat17_any (r c cap:Nat) (ao:Option Addr) (S:List Nat) (w:World) (h:Mx w ao cap r c S) :
  Calls Tryz.prog 20 #[.agg #[.int .i64 r,.int .i64 c,.slice ao S.length cap]] w fun e w'=>e = .returned (.bool (ftB r c S))∧Below w.heap.size w w':=by
 have hl:=dgL_len r c S
 have hD:∀ k,elM c S k k < 18446744073709551616:=fun k=>h.el_lt k k
 have hA:∀ a,fR a < 18446744073709551616:=fun a=>by unfold fR;omega
 have hGl:∀ xs:List Nat,bgF 0 xs < 18446744073709551616:=fun xs=>by
  have e:=bgK_all (mxL xs)
  rw [toN_mxL] at e
  rw [← e]
  exact bgK_lt _ _
 have tk:∀ k,k < min r c→(dgL r c S).take (k+1) = (dgL r c S).take k ++ [elM c S k k]:=fun k hk=>by
  rw [List.take_add_one]
  congr 1
  unfold dgL
  rw [List.getElem?_map,List.getElem?_range hk]
  rfl
 have tf:(dgL r c S).take (min r c) = dgL r c S:=List.take_of_length_le (by rw [hl];exact Nat.le_refl _)
 refine rflat17_of r c S.length cap (min r c) (xV (bgF 0 (dgL r c S)) (-40)) ao (fun k=>elM c S k k) (fun k=>fR (elM c S k k)) (fun k=>bgF 0 ((dgL r c S).take k)) (fun k=>cO (xV (bgF 0 (dgL r c S)) (-40)) (fR (elM c S k k))) (ftB r c S) w h.2.2.1 h.2.2.2 rfl rfl (fun w' k hb hk=>rat_any r c cap k k ao S w' (h.below hb) (by omega) (by omega)) (fun w' k hk=>(r8abs_any _ w' (hD k)).mono ?_) (fun w' k hk=>?_) (fun w'=>?_) (fun w' k hk=>(rorder_any _ _ w' (xV_lt _ _ (hGl _)) (hA _)).mono ?_) (fun k hk h0=>?_) (fun h0=>?_)
 ·rintro e w'' ⟨rfl,rfl⟩
  exact ⟨rfl,Below.refl _ _⟩
 ·have:=r8max_any (bgF 0 ((dgL r c S).take k)) (fR (elM c S k k)) w' (hGl _) (hA _)
  rwa [← bgF_snoc,← tk k hk] at this
 ·have:=r9shift_any (bgF 0 (dgL r c S)) (-40) w' (hGl _) (by omega)
  show Calls _ _ #[.int .u64 (bgF 0 ((dgL r c S).take (min r c)):Nat),_] _ _
  rwa [tf]
 ·rintro e w'' ⟨rfl,hb⟩
  exact ⟨⟨_,rfl⟩,hb⟩
 ·unfold ftB
  rw [List.any_eq_true]
  refine ⟨elM c S k k,List.mem_map.2 ⟨k,List.mem_range.2 hk,rfl⟩,?_⟩
  unfold ltB
  rw [decide_eq_false (by omega)]
  rfl
 ·unfold ftB
  rw [List.any_eq_false]
  intro x hx
  obtain ⟨k,hk,rfl⟩:=List.mem_map.1 hx
  have:=h0 k (List.mem_range.1 hk)
  unfold ltB
  rw [decide_eq_true (by omega)]
  decide
end Go.Proofs.YtlnphkioddknfaaGreatDoor
namespace Go.Proofs.YtlnphkioddknfaaGreatDoor
open Go.RowKit
attribute [local go_sem ↓] Go.wp_at_zero Go.wp_at_succ
theorem solveLowers_of (r c p q f:Int) (ao bo:Option Addr) (k cap m d n u:Nat) (M:List Nat) (w:World)
  (C1:∀ w',Below w.heap.size w w'→Calls Tryz.prog 16 #[.agg #[.int .i64 r,.int .i64 c,.slice ao k cap],.agg #[.int .i64 p,.int .i64 q,.slice bo m d]] w' fun e w''=>(∃ xo xc,e = .returned (.tuple #[.agg #[.int .i64 n,.int .i64 u,.slice xo M.length xc],.int .i64 f])∧BitsAt w'' xo xc (mxL M))∧Below w'.heap.size w' w'')
  (C2:∀ w',Below w.heap.size w w'→Calls Tryz.prog 17 #[.agg #[.int .i64 r,.int .i64 c,.slice ao k cap],.agg #[.int .i64 p,.int .i64 q,.slice bo m d]] w' fun e w''=>(∃ xo xc,e = .returned (.tuple #[.agg #[.int .i64 n,.int .i64 u,.slice xo M.length xc],.int .i64 f])∧BitsAt w'' xo xc (mxL M))∧Below w'.heap.size w' w'')
  (z:Bool) (g:Int) (hz:(g = 0) ∨ ((g = 1 ∨ g = 4)∧z = false))
  (C3:∀ w',Below w.heap.size w w'→Calls Tryz.prog 18 #[.agg #[.int .i64 r,.int .i64 c,.slice ao k cap]] w' fun e w''=>e = .returned (.tuple #[.bool z,.int .i64 g])∧Below w'.heap.size w' w'')
  (C4:∀ w',Below w.heap.size w w'→Calls Tryz.prog 19 #[.agg #[.int .i64 r,.int .i64 c,.slice ao k cap]] w' fun e w''=>e = .returned (.int .i64 g)∧Below w'.heap.size w' w'')
  (C5:g = 0→∀ w',Below w.heap.size w w'→Calls Tryz.prog 20 #[.agg #[.int .i64 r,.int .i64 c,.slice ao k cap]] w' fun e w''=>e = .returned (.bool z)∧Below w'.heap.size w' w'')
  (CS:∀ w' xo xc yo yc,BitsAt w' xo xc (mxL M)→BitsAt w' yo yc (mxL M)→Calls Tryz.prog 14 #[.agg #[.int .i64 n,.int .i64 u,.slice xo M.length xc],.int .i64 f,.agg #[.int .i64 n,.int .i64 u,.slice yo M.length yc],.int .i64 f] w' fun e w''=>e = .returned (.bool true)∧Below w'.heap.size w' w'')
  (CA:∀ w',Below w.heap.size w w'→Calls Tryz.prog 15 #[] w' fun e w''=>e = .returned (.bool true)∧Below w'.heap.size w' w'') :
  Calls Tryz.prog 4 #[.agg #[.int .i64 r,.int .i64 c,.slice ao k cap],.agg #[.int .i64 p,.int .i64 q,.slice bo m d]] w fun e w'=>e = .returned (.bool true)∧Below w.heap.size w w':=by
 have KB:=hide (boxes2 w (.int .i64 r) (.int .i64 c) (.slice ao k cap) (.int .i64 p) (.int .i64 q) (.slice bo m d))
 obtain ⟨b0,x0,x1⟩:=uH KB ((w.alloc (.cells #[.int .i64 r,.int .i64 c,.slice ao k cap] 24)).alloc (.cells #[.int .i64 p,.int .i64 q,.slice bo m d] 24)) (by have:=Below.refl ((w.alloc (.cells #[.int .i64 r,.int .i64 c,.slice ao k cap] 24)).alloc (.cells #[.int .i64 p,.int .i64 q,.slice bo m d] 24)).heap.size ((w.alloc (.cells #[.int .i64 r,.int .i64 c,.slice ao k cap] 24)).alloc (.cells #[.int .i64 p,.int .i64 q,.slice bo m d] 24));simpa only [size_alloc9] using this)
 have HB:=hide b0;have HX:=hide x0;have HY:=hide x1
 have K1:=hide C1;have K2:=hide C2;have KS:=hide CS;have KA:=hide CA
 have K3:=hide C3;have K4:=hide C4;have K5:=hide C5
 clear C1 C2 C3 C4 C5 CS CA KB b0 x0 x1
 rcases hz with rfl | ⟨rfl | rfl,rfl⟩
 ·replace K5:=hide (uH K5 rfl)
  go_enter Tryz.func4,Tryz.ntmps4
  have y0:=(uH HX).c0;have y1:=(uH HX).c1;have y2:=(uH HX).c2;have u0:=(uH HY).c0;have u1:=(uH HY).c1;have u2:=(uH HY).c2
  go_wp2_with fail
  clear y0 y1 y2 u0 u1 u2
  refine (uH K1 _ (uH HB)).mono ?_
  rintro e w1 ⟨⟨xo,xc,rfl,hx⟩,hb⟩
  have ba:=below_alloc9 w1 (.cells #[.int .i64 n,.int .i64 u,.slice xo M.length xc] 24)
  have HC:=hide (BoxM.new w1 (.int .i64 n) (.int .i64 u) (.slice xo M.length xc))
  have HQ:=hide (hx.below ba)
  replace HX:=hide (((uH HX).all hb).all ba);replace HY:=hide (((uH HY).all hb).all ba)
  replace HB:=hide (((uH HB).trans (hb.mono (uH HB).size)).trans (ba.mono ((uH HB).trans (hb.mono (uH HB).size)).size))
  clear hb ba hx K1
  have y0:=(uH HX).c0;have y1:=(uH HX).c1;have y2:=(uH HX).c2;have u0:=(uH HY).c0;have u1:=(uH HY).c1;have u2:=(uH HY).c2
  go_wp2_with fail
  clear y0 y1 y2 u0 u1 u2
  refine (uH K2 _ (uH HB)).mono ?_
  rintro e w2 ⟨⟨yo,yc,rfl,hx⟩,hb⟩
  have ba:=below_alloc9 w2 (.cells #[.int .i64 n,.int .i64 u,.slice yo M.length yc] 24)
  have HD:=hide (BoxM.new w2 (.int .i64 n) (.int .i64 u) (.slice yo M.length yc))
  have HR:=hide (hx.below ba)
  replace HC:=hide (((uH HC).all hb).all ba)
  replace HQ:=hide (((uH HQ).below hb).below ba)
  replace HX:=hide (((uH HX).all hb).all ba)
  replace HB:=hide (((uH HB).trans (hb.mono (uH HB).size)).trans (ba.mono ((uH HB).trans (hb.mono (uH HB).size)).size))
  clear hb ba hx K2 HY
  have y0:=(uH HX).c0;have y1:=(uH HX).c1;have y2:=(uH HX).c2
  go_wp2_with fail
  clear y0 y1 y2
  refine (uH K3 _ (uH HB)).mono ?_
  rintro e w3 ⟨rfl,hb⟩
  replace HC:=hide ((uH HC).all hb);replace HD:=hide ((uH HD).all hb);replace HX:=hide ((uH HX).all hb)
  replace HQ:=hide ((uH HQ).below hb);replace HR:=hide ((uH HR).below hb)
  replace HB:=hide ((uH HB).trans (hb.mono (uH HB).size))
  clear hb
  clear K3
  have y0:=(uH HX).c0;have y1:=(uH HX).c1;have y2:=(uH HX).c2
  go_wp2_with fail
  clear y0 y1 y2
  refine (uH K4 _ (uH HB)).mono ?_
  rintro e w4 ⟨rfl,hb⟩
  replace HC:=hide ((uH HC).all hb);replace HD:=hide ((uH HD).all hb);replace HX:=hide ((uH HX).all hb)
  replace HQ:=hide ((uH HQ).below hb);replace HR:=hide ((uH HR).below hb)
  replace HB:=hide ((uH HB).trans (hb.mono (uH HB).size))
  clear hb
  clear K4
  cases z
  all_goals
   have y0:=(uH HX).c0;have y1:=(uH HX).c1;have y2:=(uH HX).c2
   go_wp2_with fail
   clear y0 y1 y2
   refine (uH K5 _ (uH HB)).mono ?_
   rintro e w5 ⟨rfl,hb⟩
   replace HC:=hide ((uH HC).all hb);replace HD:=hide ((uH HD).all hb);replace HX:=hide ((uH HX).all hb)
   replace HQ:=hide ((uH HQ).below hb);replace HR:=hide ((uH HR).below hb)
   replace HB:=hide ((uH HB).trans (hb.mono (uH HB).size))
   clear hb
   clear K5
   have y0:=(uH HC).c0;have y1:=(uH HC).c1;have y2:=(uH HC).c2;have u0:=(uH HD).c0;have u1:=(uH HD).c1;have u2:=(uH HD).c2
   go_wp2_with fail
   clear y0 y1 y2 u0 u1 u2
   refine (uH KS _ xo xc yo yc (uH HQ) (uH HR)).mono ?_
   rintro e w9 ⟨rfl,hb⟩
   replace HB:=hide ((uH HB).trans (hb.mono (uH HB).size))
   clear hb KS HC HD HQ HR
   go_wp2_with fail
   refine (uH KA _ (uH HB)).mono ?_
   rintro e wz ⟨rfl,hb⟩
   replace HB:=hide ((uH HB).trans (hb.mono (uH HB).size))
   clear hb KA
   go_wp2
   go_ret
   exact ⟨rfl,uH HB⟩
 all_goals
  clear K5
  go_enter Tryz.func4,Tryz.ntmps4
  have y0:=(uH HX).c0;have y1:=(uH HX).c1;have y2:=(uH HX).c2;have u0:=(uH HY).c0;have u1:=(uH HY).c1;have u2:=(uH HY).c2
  go_wp2_with fail
  clear y0 y1 y2 u0 u1 u2
  refine (uH K1 _ (uH HB)).mono ?_
  rintro e w1 ⟨⟨xo,xc,rfl,hx⟩,hb⟩
  have ba:=below_alloc9 w1 (.cells #[.int .i64 n,.int .i64 u,.slice xo M.length xc] 24)
  have HC:=hide (BoxM.new w1 (.int .i64 n) (.int .i64 u) (.slice xo M.length xc))
  have HQ:=hide (hx.below ba)
  replace HX:=hide (((uH HX).all hb).all ba);replace HY:=hide (((uH HY).all hb).all ba)
  replace HB:=hide (((uH HB).trans (hb.mono (uH HB).size)).trans (ba.mono ((uH HB).trans (hb.mono (uH HB).size)).size))
  clear hb ba hx K1
  have y0:=(uH HX).c0;have y1:=(uH HX).c1;have y2:=(uH HX).c2;have u0:=(uH HY).c0;have u1:=(uH HY).c1;have u2:=(uH HY).c2
  go_wp2_with fail
  clear y0 y1 y2 u0 u1 u2
  refine (uH K2 _ (uH HB)).mono ?_
  rintro e w2 ⟨⟨yo,yc,rfl,hx⟩,hb⟩
  have ba:=below_alloc9 w2 (.cells #[.int .i64 n,.int .i64 u,.slice yo M.length yc] 24)
  have HD:=hide (BoxM.new w2 (.int .i64 n) (.int .i64 u) (.slice yo M.length yc))
  have HR:=hide (hx.below ba)
  replace HC:=hide (((uH HC).all hb).all ba)
  replace HQ:=hide (((uH HQ).below hb).below ba)
  replace HX:=hide (((uH HX).all hb).all ba)
  replace HB:=hide (((uH HB).trans (hb.mono (uH HB).size)).trans (ba.mono ((uH HB).trans (hb.mono (uH HB).size)).size))
  clear hb ba hx K2 HY
  have y0:=(uH HX).c0;have y1:=(uH HX).c1;have y2:=(uH HX).c2
  go_wp2_with fail
  clear y0 y1 y2
  refine (uH K3 _ (uH HB)).mono ?_
  rintro e w3 ⟨rfl,hb⟩
  replace HC:=hide ((uH HC).all hb);replace HD:=hide ((uH HD).all hb);replace HX:=hide ((uH HX).all hb)
  replace HQ:=hide ((uH HQ).below hb);replace HR:=hide ((uH HR).below hb)
  replace HB:=hide ((uH HB).trans (hb.mono (uH HB).size))
  clear hb
  clear K3
  have y0:=(uH HX).c0;have y1:=(uH HX).c1;have y2:=(uH HX).c2
  go_wp2_with fail
  clear y0 y1 y2
  refine (uH K4 _ (uH HB)).mono ?_
  rintro e w4 ⟨rfl,hb⟩
  replace HC:=hide ((uH HC).all hb);replace HD:=hide ((uH HD).all hb);replace HX:=hide ((uH HX).all hb)
  replace HQ:=hide ((uH HQ).below hb);replace HR:=hide ((uH HR).below hb)
  replace HB:=hide ((uH HB).trans (hb.mono (uH HB).size))
  clear hb
  clear K4
  have y0:=(uH HC).c0;have y1:=(uH HC).c1;have y2:=(uH HC).c2;have u0:=(uH HD).c0;have u1:=(uH HD).c1;have u2:=(uH HD).c2
  go_wp2_with fail
  clear y0 y1 y2 u0 u1 u2
  refine (uH KS _ xo xc yo yc (uH HQ) (uH HR)).mono ?_
  rintro e w9 ⟨rfl,hb⟩
  replace HB:=hide ((uH HB).trans (hb.mono (uH HB).size))
  clear hb KS HC HD HQ HR
  go_wp2_with fail
  refine (uH KA _ (uH HB)).mono ?_
  rintro e wz ⟨rfl,hb⟩
  replace HB:=hide ((uH HB).trans (hb.mono (uH HB).size))
  clear hb KA
  go_wp2
  go_ret
  exact ⟨rfl,uH HB⟩
theorem solveLowers_walk (r c:Int) (ao:Option Addr) (cap:Nat) (I:List Int) (p s:Int) (bo:Option Addr) (d:Nat) (J:List Int) (w:World) (hI:BitsAt w ao cap I) (hl:I.length≤17592186043904) (_hr:-9223372036854775808≤r∧r≤9223372036854775807) (_hc:-9223372036854775808≤c∧c≤9223372036854775807) (hJ:BitsAt w bo d J) (hlj:J.length≤17592186043904) (_hp:-9223372036854775808≤p∧p≤9223372036854775807) (_hs:-9223372036854775808≤s∧s≤9223372036854775807) (hT:Tab w) :
  Calls Tryz.prog 4 #[.agg #[.int .i64 r,.int .i64 c,.slice ao I.length cap],.agg #[.int .i64 p,.int .i64 s,.slice bo J.length d]] w fun e w'=>e = .returned (.bool true)∧Below w.heap.size w w':=by
 have KA:=awake17_any w hT
 have C4:=fun w' (hb:Below w.heap.size w w')=>r11check_any r c ao cap I w' (hI.below hb) (by omega)
 have FL:∃ z:Bool,(ckE r c I = 0 ∨ ((ckE r c I = 1 ∨ ckE r c I = 4)∧z = false))∧(∀ w',Below w.heap.size w w'→Calls Tryz.prog 18 #[.agg #[.int .i64 r,.int .i64 c,.slice ao I.length cap]] w' fun e w''=>e = .returned (.tuple #[.bool z,.int .i64 (ckE r c I)])∧Below w'.heap.size w' w'')∧(ckE r c I = 0→∀ w',Below w.heap.size w w'→Calls Tryz.prog 20 #[.agg #[.int .i64 r,.int .i64 c,.slice ao I.length cap]] w' fun e w''=>e = .returned (.bool z)∧Below w'.heap.size w' w''):=by
  by_cases h0:ckE r c I = 0
  ·obtain ⟨n,q,rfl,rfl,hMx,eI,fI⟩:=Mx.asked hI h0
   have lI:(natL I).length = I.length:=by rw [← mxL_len,eI]
   have fI2:finL (natL I) = true:=by
    rw [finL_all]
    intro k hk
    rw [List.getD_eq_getElem?_getD,List.getElem?_eq_getElem hk]
    exact fI _ (List.getElem_mem hk)
   refine ⟨ftB n q (natL I),.inl h0,fun w' hb=>?_,fun _ w' hb=>?_⟩
   ·have:=flat_any n q cap ao (natL I) w' (hMx.below hb) fI2 (hT.all hb)
    rw [h0,lI] at *
    exact this
   ·have:=rflat17_any n q cap ao (natL I) w' (hMx.below hb)
    rwa [lI] at this
  ·exact ⟨false,.inr ⟨(ckE_cases r c I).resolve_left h0,rfl⟩,fun w' hb=>flat_no r c cap ao I w' (hI.below hb) (by omega) h0,fun e=>absurd e h0⟩
 obtain ⟨z,hz,C3,C5⟩:=FL
 by_cases h:trE17 r c p s I J = 0
 ·have h0:ck2 r c I p s J = 0:=by
   unfold trE17 at h
   by_cases e:ck2 r c I p s J = 0
   ·exact e
   ·rw [if_neg e] at h;exact absurd h e
  have hs:r = c∧r = p:=by
   unfold trE17 at h
   rw [if_pos h0] at h
   by_cases e:r = c∧r = p
   ·exact e
   ·rw [if_neg e] at h;cases h
  have hI0:ckE r c I = 0:=by
   unfold ck2 at h0
   by_cases e:ckE r c I = 0
   ·exact e
   ·rw [if_neg e] at h0;exact h0
  have hJ0:ckE p s J = 0:=by
   unfold ck2 at h0
   rwa [if_pos hI0] at h0
  obtain ⟨rfl,rfl⟩:=hs
  obtain ⟨n,n',e1,e2,hMx,eI,fI⟩:=Mx.asked hI hI0
  obtain ⟨n2,q,e3,e4,hMy,eJ,fJ⟩:=Mx.asked hJ hJ0
  have hn':n' = n:=by omega
  have hn2:n2 = n:=by omega
  rw [hn'] at hMx
  rw [hn2] at hMy
  subst e1
  subst e4
  have lI:(natL I).length = I.length:=by rw [← mxL_len,eI]
  have lJ:(natL J).length = J.length:=by rw [← mxL_len,eJ]
  have fI2:finL (natL I) = true:=by
   rw [finL_all]
   intro k hk
   rw [List.getD_eq_getElem?_getD,List.getElem?_eq_getElem hk]
   exact fI _ (List.getElem_mem hk)
  have fJ2:finL (natL J) = true:=by
   rw [finL_all]
   intro k hk
   rw [List.getD_eq_getElem?_getD,List.getElem?_eq_getElem hk]
   exact fJ _ (List.getElem_mem hk)
  have hlm:(loM n q (natL I) (natL J)).length≤1000000:=by
   have e:(loM n q (natL I) (natL J)).length = n * q:=trM_len _ _ _ _ _ _
   have:n * q≤36:=Nat.mul_le_mul hMx.2.2.1 hMy.2.2.2
   omega
  have D1:=fun w' (hb:Below w.heap.size w w')=>lower_mx n q cap d ao bo (natL I) (natL J) w' (hMx.below hb) (hMy.below hb) fI2 fJ2 (hT.all hb)
  have D2:=fun w' (hb:Below w.heap.size w w')=>rlower17_mx n q cap d ao bo (natL I) (natL J) w' (hMx.below hb) (hMy.below hb) fI2 fJ2
  rw [lI,lJ] at D1 D2
  refine solveLowers_of n n n q (usE n (natL I) (loM n q (natL I) (natL J))) ao bo I.length cap J.length d (if usE n (natL I) (loM n q (natL I) (natL J)) = 0 then n else 0) (if usE n (natL I) (loM n q (natL I) (natL J)) = 0 then q else 0) (if usE n (natL I) (loM n q (natL I) (natL J)) = 0 then loM n q (natL I) (natL J) else []) w (fun w' hb=>(D1 w' hb).mono ?_) (fun w' hb=>(D2 w' hb).mono ?_) z _ hz C3 C4 C5 (fun w' xo xc yo yc h1 h2=>same17_yes _ _ _ xc yc xo yo _ w' h1 h2 ?_) KA
  ·rintro e w'' ⟨hans,hb2⟩
   exact ⟨hans.one,hb2⟩
  ·rintro e w'' ⟨hans,hb2⟩
   exact ⟨hans.one,hb2⟩
  ·split
   ·exact hlm
   ·exact Nat.zero_le _
 ·have D1:=fun w' (hb:Below w.heap.size w w')=>lower_no r c p s ao bo cap d I J w' (hI.below hb) (hJ.below hb) (by omega) (by omega) h
  have D2:=fun w' (hb:Below w.heap.size w w')=>rlower17_no r c p s ao bo cap d I J w' (hI.below hb) (hJ.below hb) (by omega) (by omega) h
  refine solveLowers_of r c p s (trE17 r c p s I J) ao bo I.length cap J.length d (if trE17 r c p s I J = 0 then 0 else 0) (if trE17 r c p s I J = 0 then 0 else 0) (if trE17 r c p s I J = 0 then [] else []) w (fun w' hb=>(D1 w' hb).mono ?_) (fun w' hb=>(D2 w' hb).mono ?_) z _ hz C3 C4 C5 (fun w' xo xc yo yc h1 h2=>same17_yes _ _ _ xc yc xo yo _ w' h1 h2 ?_) KA
  ·rintro e w'' ⟨hans,hb2⟩
   exact ⟨hans.one,hb2⟩
  ·rintro e w'' ⟨hans,hb2⟩
   exact ⟨hans.one,hb2⟩
  ·split <;> exact Nat.zero_le _
end Go.Proofs.YtlnphkioddknfaaGreatDoor
