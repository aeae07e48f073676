/- Part 42 of the texts. -/
import Derived.Test.YtlnphkioddknfaaGreatDoorPartu41
import Derived.Test.YtlnphkioddknfaaGreatDoorChecked
import Derived.Test.YtlnphkioddknfaaGreatDoorPartu02
import Derived.ProofKit
import Derived.SizedLaws
import Derived.Lib.SmallJoins
import Derived.Test.YtlnphkioddknfaaGreatDoorRows
import Derived.Test.YtlnphkioddknfaaGreatDoorPartu11
import Derived.Lib.LaidTab
import Derived.OpenShut
import Derived.Deep.DeepHandedRow
set_option maxHeartbeats 8000000
set_option maxRecDepth 20000
namespace Go.Proofs.YtlnphkioddknfaaGreatDoor
open Go.RowKit
theorem a17_k:facK 1 1 [4611686018427387904] = true:=by decide +kernel
theorem a17_t:lqT 1 1 [4611686018427387904] = [4611686018427387904]:=by decide +kernel
theorem a17_q:lqQ 1 1 [4611686018427387904] = [4607182418800017408]:=by decide +kernel
theorem a17_y:lqY 1 1 1 [4611686018427387904] [4616189618054758400] = [4616189618054758400]:=by
 unfold lqY
 rw [a17_q]
 decide +kernel
theorem a17_f:ftB 1 1 [4611686018427387904] = false:=by decide +kernel
theorem a17_u:upM 1 1 [4611686018427387904] [4616189618054758400] = [4611686018427387904]:=by decide +kernel
theorem awake17_facts:lqE 1 1 1 [4611686018427387904] [4616189618054758400] = 0∧lqU 1 1 1 [4611686018427387904] [4616189618054758400] = [4611686018427387904]:=by
 have hu:lqU 1 1 1 [4611686018427387904] [4616189618054758400] = [4611686018427387904]:=by
  unfold lqU
  rw [a17_t,a17_y]
  exact a17_u
 refine ⟨?_,hu⟩
 unfold lqE
 rw [hu,a17_k,a17_t,a17_y,a17_f]
 decide +kernel
theorem awake17_any (w:World) (hT:Tab w):∀ w',Below w.heap.size w w'→Calls Tryz.prog 15 #[] w' fun e w''=>e = .returned (.bool true)∧Below w'.heap.size w' w'':=fun w0 hb0 =>
 awake17_of w0 (fun w' ao bo hb h1 h2=>by
  have:=least_mx 1 1 1 1 1 ao bo [4611686018427387904] [4616189618054758400] w' ⟨h1,rfl,by decide,by decide⟩ ⟨h2,rfl,by decide,by decide⟩ (by decide +kernel) (by decide +kernel) (Nat.le_refl 1) ((hT.all hb0).all hb)
  rw [awake17_facts.1,awake17_facts.2] at this
  refine this.mono ?_
  rintro e w'' ⟨hans,hb2⟩
  rcases hans with ⟨_,xo,xc,rfl,_,h3,_,_⟩ | ⟨h0,_⟩
  ·exact ⟨xo,xc,rfl,h3,hb2⟩
  ·exact absurd rfl h0)
end Go.Proofs.YtlnphkioddknfaaGreatDoor
namespace Go.Proofs.YtlnphkioddknfaaGreatDoor
open Go.RowKit
attribute [local go_sem ↓] Go.wp_at_zero Go.wp_at_succ
theorem solveUppers_of (r c p q f:Int) (ao bo:Option Addr) (k cap m d n u:Nat) (M:List Nat) (w:World)
  (C1:∀ w',Below w.heap.size w w'→Calls Tryz.prog 12 #[.agg #[.int .i64 r,.int .i64 c,.slice ao k cap],.agg #[.int .i64 p,.int .i64 q,.slice bo m d]] w' fun e w''=>(∃ xo xc,e = .returned (.tuple #[.agg #[.int .i64 n,.int .i64 u,.slice xo M.length xc],.int .i64 f])∧BitsAt w'' xo xc (mxL M))∧Below w'.heap.size w' w'')
  (C2:∀ w',Below w.heap.size w w'→Calls Tryz.prog 13 #[.agg #[.int .i64 r,.int .i64 c,.slice ao k cap],.agg #[.int .i64 p,.int .i64 q,.slice bo m d]] w' fun e w''=>(∃ xo xc,e = .returned (.tuple #[.agg #[.int .i64 n,.int .i64 u,.slice xo M.length xc],.int .i64 f])∧BitsAt w'' xo xc (mxL M))∧Below w'.heap.size w' w'')
  (CS:∀ w' xo xc yo yc,BitsAt w' xo xc (mxL M)→BitsAt w' yo yc (mxL M)→Calls Tryz.prog 14 #[.agg #[.int .i64 n,.int .i64 u,.slice xo M.length xc],.int .i64 f,.agg #[.int .i64 n,.int .i64 u,.slice yo M.length yc],.int .i64 f] w' fun e w''=>e = .returned (.bool true)∧Below w'.heap.size w' w'')
  (CA:∀ w',Below w.heap.size w w'→Calls Tryz.prog 15 #[] w' fun e w''=>e = .returned (.bool true)∧Below w'.heap.size w' w'') :
  Calls Tryz.prog 3 #[.agg #[.int .i64 r,.int .i64 c,.slice ao k cap],.agg #[.int .i64 p,.int .i64 q,.slice bo m d]] w fun e w'=>e = .returned (.bool true)∧Below w.heap.size w w':=by
 have KB:=hide (boxes2 w (.int .i64 r) (.int .i64 c) (.slice ao k cap) (.int .i64 p) (.int .i64 q) (.slice bo m d))
 obtain ⟨b0,x0,x1⟩:=uH KB ((w.alloc (.cells #[.int .i64 r,.int .i64 c,.slice ao k cap] 24)).alloc (.cells #[.int .i64 p,.int .i64 q,.slice bo m d] 24)) (by have:=Below.refl ((w.alloc (.cells #[.int .i64 r,.int .i64 c,.slice ao k cap] 24)).alloc (.cells #[.int .i64 p,.int .i64 q,.slice bo m d] 24)).heap.size ((w.alloc (.cells #[.int .i64 r,.int .i64 c,.slice ao k cap] 24)).alloc (.cells #[.int .i64 p,.int .i64 q,.slice bo m d] 24));simpa only [size_alloc9] using this)
 have HB:=hide b0;have HX:=hide x0;have HY:=hide x1
 have K1:=hide C1;have K2:=hide C2;have KS:=hide CS;have KA:=hide CA
 clear C1 C2 CS CA KB b0 x0 x1
 go_enter Tryz.func3,Tryz.ntmps3
 have y0:=(uH HX).c0;have y1:=(uH HX).c1;have y2:=(uH HX).c2;have u0:=(uH HY).c0;have u1:=(uH HY).c1;have u2:=(uH HY).c2
 go_wp2_with fail
 clear y0 y1 y2 u0 u1 u2
 refine (uH K1 _ (uH HB)).mono ?_
 rintro e w1 ⟨⟨xo,xc,rfl,hx⟩,hb⟩
 have ba:=below_alloc9 w1 (.cells #[.int .i64 n,.int .i64 u,.slice xo M.length xc] 24)
 have HC:=hide (BoxM.new w1 (.int .i64 n) (.int .i64 u) (.slice xo M.length xc))
 have HQ:=hide (hx.below ba)
 replace HX:=hide (((uH HX).all hb).all ba);replace HY:=hide (((uH HY).all hb).all ba)
 replace HB:=hide (((uH HB).trans (hb.mono (uH HB).size)).trans (ba.mono ((uH HB).trans (hb.mono (uH HB).size)).size))
 clear hb ba hx K1
 have y0:=(uH HX).c0;have y1:=(uH HX).c1;have y2:=(uH HX).c2;have u0:=(uH HY).c0;have u1:=(uH HY).c1;have u2:=(uH HY).c2
 go_wp2_with fail
 clear y0 y1 y2 u0 u1 u2
 refine (uH K2 _ (uH HB)).mono ?_
 rintro e w2 ⟨⟨yo,yc,rfl,hx⟩,hb⟩
 have ba:=below_alloc9 w2 (.cells #[.int .i64 n,.int .i64 u,.slice yo M.length yc] 24)
 have HD:=hide (BoxM.new w2 (.int .i64 n) (.int .i64 u) (.slice yo M.length yc))
 have HR:=hide (hx.below ba)
 replace HC:=hide (((uH HC).all hb).all ba)
 replace HQ:=hide (((uH HQ).below hb).below ba)
 replace HB:=hide (((uH HB).trans (hb.mono (uH HB).size)).trans (ba.mono ((uH HB).trans (hb.mono (uH HB).size)).size))
 clear hb ba hx K2 HX HY
 have y0:=(uH HC).c0;have y1:=(uH HC).c1;have y2:=(uH HC).c2;have u0:=(uH HD).c0;have u1:=(uH HD).c1;have u2:=(uH HD).c2
 go_wp2_with fail
 clear y0 y1 y2 u0 u1 u2
 refine (uH KS _ xo xc yo yc (uH HQ) (uH HR)).mono ?_
 rintro e w9 ⟨rfl,hb⟩
 replace HB:=hide ((uH HB).trans (hb.mono (uH HB).size))
 clear hb KS HC HD HQ HR
 go_wp2_with fail
 refine (uH KA _ (uH HB)).mono ?_
 rintro e wz ⟨rfl,hb⟩
 replace HB:=hide ((uH HB).trans (hb.mono (uH HB).size))
 clear hb KA
 go_wp2
 go_ret
 exact ⟨rfl,uH HB⟩
theorem solveUppers_walk (r c:Int) (ao:Option Addr) (cap:Nat) (I:List Int) (p s:Int) (bo:Option Addr) (d:Nat) (J:List Int) (w:World) (hI:BitsAt w ao cap I) (hl:I.length≤17592186043904) (_hr:-9223372036854775808≤r∧r≤9223372036854775807) (_hc:-9223372036854775808≤c∧c≤9223372036854775807) (hJ:BitsAt w bo d J) (hlj:J.length≤17592186043904) (_hp:-9223372036854775808≤p∧p≤9223372036854775807) (_hs:-9223372036854775808≤s∧s≤9223372036854775807) (hT:Tab w) :
  Calls Tryz.prog 3 #[.agg #[.int .i64 r,.int .i64 c,.slice ao I.length cap],.agg #[.int .i64 p,.int .i64 s,.slice bo J.length d]] w fun e w'=>e = .returned (.bool true)∧Below w.heap.size w w':=by
 have KA:=awake17_any w hT
 by_cases h:trE17 r c p s I J = 0
 ·have h0:ck2 r c I p s J = 0:=by
   unfold trE17 at h
   by_cases e:ck2 r c I p s J = 0
   ·exact e
   ·rw [if_neg e] at h;exact absurd h e
  have hs:r = c∧r = p:=by
   unfold trE17 at h
   rw [if_pos h0] at h
   by_cases e:r = c∧r = p
   ·exact e
   ·rw [if_neg e] at h;cases h
  have hI0:ckE r c I = 0:=by
   unfold ck2 at h0
   by_cases e:ckE r c I = 0
   ·exact e
   ·rw [if_neg e] at h0;exact h0
  have hJ0:ckE p s J = 0:=by
   unfold ck2 at h0
   rwa [if_pos hI0] at h0
  obtain ⟨rfl,rfl⟩:=hs
  obtain ⟨n,n',e1,e2,hMx,eI,fI⟩:=Mx.asked hI hI0
  obtain ⟨n2,q,e3,e4,hMy,eJ,fJ⟩:=Mx.asked hJ hJ0
  have hn':n' = n:=by omega
  have hn2:n2 = n:=by omega
  rw [hn'] at hMx
  rw [hn2] at hMy
  subst e1
  subst e4
  have lI:(natL I).length = I.length:=by rw [← mxL_len,eI]
  have lJ:(natL J).length = J.length:=by rw [← mxL_len,eJ]
  have fI2:finL (natL I) = true:=by
   rw [finL_all]
   intro k hk
   rw [List.getD_eq_getElem?_getD,List.getElem?_eq_getElem hk]
   exact fI _ (List.getElem_mem hk)
  have fJ2:finL (natL J) = true:=by
   rw [finL_all]
   intro k hk
   rw [List.getD_eq_getElem?_getD,List.getElem?_eq_getElem hk]
   exact fJ _ (List.getElem_mem hk)
  have hlm:(upM n q (natL I) (natL J)).length≤1000000:=by
   have e:(upM n q (natL I) (natL J)).length = n * q:=trM_len _ _ _ _ _ _
   have:n * q≤36:=Nat.mul_le_mul hMx.2.2.1 hMy.2.2.2
   omega
  have D1:=fun w' (hb:Below w.heap.size w w')=>upper_mx n q cap d ao bo (natL I) (natL J) w' (hMx.below hb) (hMy.below hb) fI2 fJ2 (hT.all hb)
  have D2:=fun w' (hb:Below w.heap.size w w')=>rupper17_mx n q cap d ao bo (natL I) (natL J) w' (hMx.below hb) (hMy.below hb) fI2 fJ2
  rw [lI,lJ] at D1 D2
  refine solveUppers_of n n n q (usE n (natL I) (upM n q (natL I) (natL J))) ao bo I.length cap J.length d (if usE n (natL I) (upM n q (natL I) (natL J)) = 0 then n else 0) (if usE n (natL I) (upM n q (natL I) (natL J)) = 0 then q else 0) (if usE n (natL I) (upM n q (natL I) (natL J)) = 0 then upM n q (natL I) (natL J) else []) w (fun w' hb=>(D1 w' hb).mono ?_) (fun w' hb=>(D2 w' hb).mono ?_) (fun w' xo xc yo yc h1 h2=>same17_yes _ _ _ xc yc xo yo _ w' h1 h2 ?_) KA
  ·rintro e w'' ⟨hans,hb2⟩
   exact ⟨hans.one,hb2⟩
  ·rintro e w'' ⟨hans,hb2⟩
   exact ⟨hans.one,hb2⟩
  ·split
   ·exact hlm
   ·exact Nat.zero_le _
 ·have D1:=fun w' (hb:Below w.heap.size w w')=>upper_no r c p s ao bo cap d I J w' (hI.below hb) (hJ.below hb) (by omega) (by omega) h
  have D2:=fun w' (hb:Below w.heap.size w w')=>rupper17_no r c p s ao bo cap d I J w' (hI.below hb) (hJ.below hb) (by omega) (by omega) h
  refine solveUppers_of r c p s (trE17 r c p s I J) ao bo I.length cap J.length d (if trE17 r c p s I J = 0 then 0 else 0) (if trE17 r c p s I J = 0 then 0 else 0) (if trE17 r c p s I J = 0 then [] else []) w (fun w' hb=>(D1 w' hb).mono ?_) (fun w' hb=>(D2 w' hb).mono ?_) (fun w' xo xc yo yc h1 h2=>same17_yes _ _ _ xc yc xo yo _ w' h1 h2 ?_) KA
  ·rintro e w'' ⟨hans,hb2⟩
   exact ⟨hans.one,hb2⟩
  ·rintro e w'' ⟨hans,hb2⟩
   exact ⟨hans.one,hb2⟩
  ·split <;> exact Nat.zero_le _
end Go.Proofs.YtlnphkioddknfaaGreatDoor
namespace Go.Proofs.YtlnphkioddknfaaGreatDoor
open Go.ChangeShapes Go.WideShapes Go.ChangeAt Go.RowKit Go.Joins
theorem Tryz.own:ownKnob Tryz.prog.godebug = none:=by kernel_rfl
theorem Tryz.laidOut:laidOutB Tryz.prog = true:=by kernel_rfl
end Go.Proofs.YtlnphkioddknfaaGreatDoor
namespace Go.Proofs.YtlnphkioddknfaaGreatDoor
theorem bounds_of_i64 {x:Int} (h:(Lit.int .i64 x).wf = true):-9223372036854775808≤x∧x≤9223372036854775807:=by
 simp [Lit.wf,IntKind.min,IntKind.max,IntKind.signed,IntKind.bits] at h
 omega
end Go.Proofs.YtlnphkioddknfaaGreatDoor
namespace Go.Proofs.YtlnphkioddknfaaGreatDoor
open Go.ChangeShapes Go.WideShapes Go.ChangeAt Go.RowKit Go.Joins
theorem Tryz.tabName:Tryz.prog.globalNamed "math/bits.deBruijn32tab" = some 1:=by kernel_rfl
theorem Tryz.tabType:(Tryz.prog.globals[1]?).map (·.type) = some 245:=by kernel_rfl
theorem Tryz.tabCells:Tryz.prog.cellsOf 245 = 32:=by kernel_rfl
theorem Tryz.byteCells:Tryz.prog.cellsOf 5 = 1:=by kernel_rfl
theorem tab_getD:∀ j,j < Lib.deBruijn32tab.length→(List.map Int.ofNat Lib.deBruijn32tab).getD j 0 = ((Lib.deBruijn32tab.getD j 0:Nat):Int):=by decide
theorem tab_of_laid {W:World} (h:laidMetH Tryz.prog [("math/bits.deBruijn32tab",Rows.laid_math_bits_deBruijn32tab)] W):Tab W:=by
 have ht:=Lib.tabIs_of_head (zs:=Lib.deBruijn32tab.map Int.ofNat) (rest:=[]) Tryz.tabName Tryz.tabType Tryz.underlying245 Tryz.underlying5 Tryz.byteCells Tryz.tabCells h
 intro j hj
 have:=ht.cell Tryz.tabName j (by simpa using hj)
 rw [this]
 congr 2
 exact tab_getD j hj
end Go.Proofs.YtlnphkioddknfaaGreatDoor
