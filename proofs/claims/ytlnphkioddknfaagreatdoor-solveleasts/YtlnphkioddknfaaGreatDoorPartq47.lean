/- Part 47 of the texts. -/
import Derived.Test.YtlnphkioddknfaaGreatDoorPartq45
import Derived.Test.YtlnphkioddknfaaGreatDoorPartq46
import Derived.Test.YtlnphkioddknfaaGreatDoorPartq34
import Derived.Test.YtlnphkioddknfaaGreatDoorPartq41
import Derived.Test.YtlnphkioddknfaaGreatDoorChecked
import Derived.Test.YtlnphkioddknfaaGreatDoorPartq02
import Derived.ProofKit
import Derived.SizedLaws
import Derived.Lib.SmallJoins
set_option maxHeartbeats 32000000
set_option maxRecDepth 20000
namespace Go.Proofs.YtlnphkioddknfaaGreatDoor
open Go.RowKit
attribute [local go_sem ↓] Go.wp_at_zero Go.wp_at_succ
theorem rleast_one (r c p q er:Int) (ao bo:Option Addr) (k cap m d:Nat) (w:World) (her:er = 1 ∨ er = 4)
  (C1:∀ w',Below w.heap.size w w'→Calls Tryz.prog 19 #[.agg #[.int .i64 r,.int .i64 c,.slice ao k cap]] w' fun e w''=>e = .returned (.int .i64 er)∧Below w'.heap.size w' w'') :
  Calls Tryz.prog 24 #[.agg #[.int .i64 r,.int .i64 c,.slice ao k cap],.agg #[.int .i64 p,.int .i64 q,.slice bo m d]] w fun e w'=>e = .returned (.tuple #[.agg #[.int .i64 0,.int .i64 0,.slice none 0 0],.int .i64 er])∧Below w.heap.size w w':=by
 have KB:=hide (boxes3_17 w (.int .i64 r) (.int .i64 c) (.slice ao k cap) (.int .i64 p) (.int .i64 q) (.slice bo m d) (.int .i64 0) (.int .i64 0) (.slice none 0 0))
 obtain ⟨b0,x0,x1,x2⟩:=uH KB _ (by have:=Below.refl (((w.alloc (.cells #[.int .i64 r,.int .i64 c,.slice ao k cap] 24)).alloc (.cells #[.int .i64 p,.int .i64 q,.slice bo m d] 24)).alloc (.cells #[.int .i64 0,.int .i64 0,.slice none 0 0] 24)).heap.size (((w.alloc (.cells #[.int .i64 r,.int .i64 c,.slice ao k cap] 24)).alloc (.cells #[.int .i64 p,.int .i64 q,.slice bo m d] 24)).alloc (.cells #[.int .i64 0,.int .i64 0,.slice none 0 0] 24));simpa only [size_alloc9] using this)
 have HB:=hide b0;have HX:=hide x0;have HY:=hide x1;have HR:=hide x2
 have K1:=hide C1
 clear C1 KB b0 x0 x1 x2
 rcases her with rfl | rfl
 all_goals
  go_enter Tryz.func24,Tryz.ntmps24
  have y0:=(uH HX).c0;have y1:=(uH HX).c1;have y2:=(uH HX).c2;have u0:=(uH HY).c0;have u1:=(uH HY).c1;have u2:=(uH HY).c2
  go_wp2_with fail
  clear y0 y1 y2 u0 u1 u2
  refine (uH K1 _ (uH HB)).mono ?_
  rintro e wn ⟨rfl,hb⟩
  replace HX:=hide ((uH HX).all hb);replace HY:=hide ((uH HY).all hb);replace HR:=hide ((uH HR).all hb)
  replace HB:=hide ((uH HB).trans (hb.mono (uH HB).size))
  clear hb
  have y0:=(uH HX).c0;have y1:=(uH HX).c1;have y2:=(uH HX).c2;have u0:=(uH HY).c0;have u1:=(uH HY).c1;have u2:=(uH HY).c2
  go_wp2_with fail
  clear y0 y1 y2 u0 u1 u2
  refine (uH K1 _ (uH HB)).mono ?_
  rintro e wn ⟨rfl,hb⟩
  replace HX:=hide ((uH HX).all hb);replace HY:=hide ((uH HY).all hb);replace HR:=hide ((uH HR).all hb)
  replace HB:=hide ((uH HB).trans (hb.mono (uH HB).size))
  clear hb
  have X3:=uH HR
  have f0:=X3.free 0;have f1:=X3.free 1;have f2:=X3.free 2
  have s0:=X3.c0;have s1:=X3.c1;have s2:=X3.c2
  have XP:=X3.put (.int .i64 0) (.int .i64 0) (.slice none 0 0)
  have z0:=XP.c0;have z1:=XP.c1;have z2:=XP.c2
  have BP:=hide (below_putM (uH HB) (b:=w.heap.size+1+1) (by omega) (.int .i64 0) (.int .i64 0) (.slice none 0 0))
  clear XP X3
  go_wp2_with fail
  exact bodyPost_ret (v:=.tuple #[.agg #[.int .i64 0,.int .i64 0,.slice none 0 0],.int .i64 _]) (by simp [results,Tryz.results24,go_sem,z0,z1,z2]) rfl ⟨rfl,uH BP⟩
theorem rleast_two (r c p q er:Int) (ao bo:Option Addr) (k cap m d:Nat) (w:World) (her:er = 1 ∨ er = 4)
  (C1:∀ w',Below w.heap.size w w'→Calls Tryz.prog 19 #[.agg #[.int .i64 r,.int .i64 c,.slice ao k cap]] w' fun e w''=>e = .returned (.int .i64 0)∧Below w'.heap.size w' w'')
  (C2:∀ w',Below w.heap.size w w'→Calls Tryz.prog 19 #[.agg #[.int .i64 p,.int .i64 q,.slice bo m d]] w' fun e w''=>e = .returned (.int .i64 er)∧Below w'.heap.size w' w'') :
  Calls Tryz.prog 24 #[.agg #[.int .i64 r,.int .i64 c,.slice ao k cap],.agg #[.int .i64 p,.int .i64 q,.slice bo m d]] w fun e w'=>e = .returned (.tuple #[.agg #[.int .i64 0,.int .i64 0,.slice none 0 0],.int .i64 er])∧Below w.heap.size w w':=by
 have KB:=hide (boxes3_17 w (.int .i64 r) (.int .i64 c) (.slice ao k cap) (.int .i64 p) (.int .i64 q) (.slice bo m d) (.int .i64 0) (.int .i64 0) (.slice none 0 0))
 obtain ⟨b0,x0,x1,x2⟩:=uH KB _ (by have:=Below.refl (((w.alloc (.cells #[.int .i64 r,.int .i64 c,.slice ao k cap] 24)).alloc (.cells #[.int .i64 p,.int .i64 q,.slice bo m d] 24)).alloc (.cells #[.int .i64 0,.int .i64 0,.slice none 0 0] 24)).heap.size (((w.alloc (.cells #[.int .i64 r,.int .i64 c,.slice ao k cap] 24)).alloc (.cells #[.int .i64 p,.int .i64 q,.slice bo m d] 24)).alloc (.cells #[.int .i64 0,.int .i64 0,.slice none 0 0] 24));simpa only [size_alloc9] using this)
 have HB:=hide b0;have HX:=hide x0;have HY:=hide x1;have HR:=hide x2
 have K1:=hide C1;have K2:=hide C2
 clear C1 C2 KB b0 x0 x1 x2
 rcases her with rfl | rfl
 all_goals
  go_enter Tryz.func24,Tryz.ntmps24
  have y0:=(uH HX).c0;have y1:=(uH HX).c1;have y2:=(uH HX).c2;have u0:=(uH HY).c0;have u1:=(uH HY).c1;have u2:=(uH HY).c2
  go_wp2_with fail
  clear y0 y1 y2 u0 u1 u2
  refine (uH K1 _ (uH HB)).mono ?_
  rintro e wn ⟨rfl,hb⟩
  replace HX:=hide ((uH HX).all hb);replace HY:=hide ((uH HY).all hb);replace HR:=hide ((uH HR).all hb)
  replace HB:=hide ((uH HB).trans (hb.mono (uH HB).size))
  clear hb
  have y0:=(uH HX).c0;have y1:=(uH HX).c1;have y2:=(uH HX).c2;have u0:=(uH HY).c0;have u1:=(uH HY).c1;have u2:=(uH HY).c2
  go_wp2_with fail
  clear y0 y1 y2 u0 u1 u2
  refine (uH K2 _ (uH HB)).mono ?_
  rintro e wn ⟨rfl,hb⟩
  replace HX:=hide ((uH HX).all hb);replace HY:=hide ((uH HY).all hb);replace HR:=hide ((uH HR).all hb)
  replace HB:=hide ((uH HB).trans (hb.mono (uH HB).size))
  clear hb
  have y0:=(uH HX).c0;have y1:=(uH HX).c1;have y2:=(uH HX).c2;have u0:=(uH HY).c0;have u1:=(uH HY).c1;have u2:=(uH HY).c2
  go_wp2_with fail
  clear y0 y1 y2 u0 u1 u2
  refine (uH K2 _ (uH HB)).mono ?_
  rintro e wn ⟨rfl,hb⟩
  replace HX:=hide ((uH HX).all hb);replace HY:=hide ((uH HY).all hb);replace HR:=hide ((uH HR).all hb)
  replace HB:=hide ((uH HB).trans (hb.mono (uH HB).size))
  clear hb
  have X3:=uH HR
  have f0:=X3.free 0;have f1:=X3.free 1;have f2:=X3.free 2
  have s0:=X3.c0;have s1:=X3.c1;have s2:=X3.c2
  have XP:=X3.put (.int .i64 0) (.int .i64 0) (.slice none 0 0)
  have z0:=XP.c0;have z1:=XP.c1;have z2:=XP.c2
  have BP:=hide (below_putM (uH HB) (b:=w.heap.size+1+1) (by omega) (.int .i64 0) (.int .i64 0) (.slice none 0 0))
  clear XP X3
  go_wp2_with fail
  exact bodyPost_ret (v:=.tuple #[.agg #[.int .i64 0,.int .i64 0,.slice none 0 0],.int .i64 _]) (by simp [results,Tryz.results24,go_sem,z0,z1,z2]) rfl ⟨rfl,uH BP⟩
theorem rleast_shape (r c p q:Int) (ao bo:Option Addr) (k cap m d:Nat) (w:World) (hsh:r < c ∨ (¬ r < c∧¬ r = p))
  (C1:∀ w',Below w.heap.size w w'→Calls Tryz.prog 19 #[.agg #[.int .i64 r,.int .i64 c,.slice ao k cap]] w' fun e w''=>e = .returned (.int .i64 0)∧Below w'.heap.size w' w'')
  (C2:∀ w',Below w.heap.size w w'→Calls Tryz.prog 19 #[.agg #[.int .i64 p,.int .i64 q,.slice bo m d]] w' fun e w''=>e = .returned (.int .i64 0)∧Below w'.heap.size w' w'') :
  Calls Tryz.prog 24 #[.agg #[.int .i64 r,.int .i64 c,.slice ao k cap],.agg #[.int .i64 p,.int .i64 q,.slice bo m d]] w fun e w'=>e = .returned (.tuple #[.agg #[.int .i64 0,.int .i64 0,.slice none 0 0],.int .i64 3])∧Below w.heap.size w w':=by
 have KB:=hide (boxes3_17 w (.int .i64 r) (.int .i64 c) (.slice ao k cap) (.int .i64 p) (.int .i64 q) (.slice bo m d) (.int .i64 0) (.int .i64 0) (.slice none 0 0))
 obtain ⟨b0,x0,x1,x2⟩:=uH KB _ (by have:=Below.refl (((w.alloc (.cells #[.int .i64 r,.int .i64 c,.slice ao k cap] 24)).alloc (.cells #[.int .i64 p,.int .i64 q,.slice bo m d] 24)).alloc (.cells #[.int .i64 0,.int .i64 0,.slice none 0 0] 24)).heap.size (((w.alloc (.cells #[.int .i64 r,.int .i64 c,.slice ao k cap] 24)).alloc (.cells #[.int .i64 p,.int .i64 q,.slice bo m d] 24)).alloc (.cells #[.int .i64 0,.int .i64 0,.slice none 0 0] 24));simpa only [size_alloc9] using this)
 have HB:=hide b0;have HX:=hide x0;have HY:=hide x1;have HR:=hide x2
 have K1:=hide C1;have K2:=hide C2
 clear C1 C2 KB b0 x0 x1 x2
 have hne:¬ r < c→¬ r = p→(r != p) = true:=fun _ e=>bne_iff_ne.2 e
 rcases hsh with hsh | ⟨hsh,hsh2⟩
 ·clear hne
  go_enter Tryz.func24,Tryz.ntmps24
  have y0:=(uH HX).c0;have y1:=(uH HX).c1;have y2:=(uH HX).c2;have u0:=(uH HY).c0;have u1:=(uH HY).c1;have u2:=(uH HY).c2
  go_wp2_with fail
  clear y0 y1 y2 u0 u1 u2
  refine (uH K1 _ (uH HB)).mono ?_
  rintro e wn ⟨rfl,hb⟩
  replace HX:=hide ((uH HX).all hb);replace HY:=hide ((uH HY).all hb);replace HR:=hide ((uH HR).all hb)
  replace HB:=hide ((uH HB).trans (hb.mono (uH HB).size))
  clear hb
  have y0:=(uH HX).c0;have y1:=(uH HX).c1;have y2:=(uH HX).c2;have u0:=(uH HY).c0;have u1:=(uH HY).c1;have u2:=(uH HY).c2
  go_wp2_with fail
  clear y0 y1 y2 u0 u1 u2
  refine (uH K2 _ (uH HB)).mono ?_
  rintro e wn ⟨rfl,hb⟩
  replace HX:=hide ((uH HX).all hb);replace HY:=hide ((uH HY).all hb);replace HR:=hide ((uH HR).all hb)
  replace HB:=hide ((uH HB).trans (hb.mono (uH HB).size))
  clear hb
  have y0:=(uH HX).c0;have y1:=(uH HX).c1;have y2:=(uH HX).c2;have u0:=(uH HY).c0;have u1:=(uH HY).c1;have u2:=(uH HY).c2
  have X3:=uH HR
  have f0:=X3.free 0;have f1:=X3.free 1;have f2:=X3.free 2
  have s0:=X3.c0;have s1:=X3.c1;have s2:=X3.c2
  have XP:=X3.put (.int .i64 0) (.int .i64 0) (.slice none 0 0)
  have z0:=XP.c0;have z1:=XP.c1;have z2:=XP.c2
  have BP:=hide (below_putM (uH HB) (b:=w.heap.size+1+1) (by omega) (.int .i64 0) (.int .i64 0) (.slice none 0 0))
  clear XP X3
  go_wp2_with fail
  exact bodyPost_ret (v:=.tuple #[.agg #[.int .i64 0,.int .i64 0,.slice none 0 0],.int .i64 3]) (by simp [results,Tryz.results24,go_sem,z0,z1,z2]) rfl ⟨rfl,uH BP⟩
 ·replace hne:=hne hsh hsh2
  go_enter Tryz.func24,Tryz.ntmps24
  have y0:=(uH HX).c0;have y1:=(uH HX).c1;have y2:=(uH HX).c2;have u0:=(uH HY).c0;have u1:=(uH HY).c1;have u2:=(uH HY).c2
  go_wp2_with fail
  clear y0 y1 y2 u0 u1 u2
  refine (uH K1 _ (uH HB)).mono ?_
  rintro e wn ⟨rfl,hb⟩
  replace HX:=hide ((uH HX).all hb);replace HY:=hide ((uH HY).all hb);replace HR:=hide ((uH HR).all hb)
  replace HB:=hide ((uH HB).trans (hb.mono (uH HB).size))
  clear hb
  have y0:=(uH HX).c0;have y1:=(uH HX).c1;have y2:=(uH HX).c2;have u0:=(uH HY).c0;have u1:=(uH HY).c1;have u2:=(uH HY).c2
  go_wp2_with fail
  clear y0 y1 y2 u0 u1 u2
  refine (uH K2 _ (uH HB)).mono ?_
  rintro e wn ⟨rfl,hb⟩
  replace HX:=hide ((uH HX).all hb);replace HY:=hide ((uH HY).all hb);replace HR:=hide ((uH HR).all hb)
  replace HB:=hide ((uH HB).trans (hb.mono (uH HB).size))
  clear hb
  have y0:=(uH HX).c0;have y1:=(uH HX).c1;have y2:=(uH HX).c2;have u0:=(uH HY).c0;have u1:=(uH HY).c1;have u2:=(uH HY).c2
  have X3:=uH HR
  have f0:=X3.free 0;have f1:=X3.free 1;have f2:=X3.free 2
  have s0:=X3.c0;have s1:=X3.c1;have s2:=X3.c2
  have XP:=X3.put (.int .i64 0) (.int .i64 0) (.slice none 0 0)
  have z0:=XP.c0;have z1:=XP.c1;have z2:=XP.c2
  have BP:=hide (below_putM (uH HB) (b:=w.heap.size+1+1) (by omega) (.int .i64 0) (.int .i64 0) (.slice none 0 0))
  clear XP X3
  go_wp2_with fail
  exact bodyPost_ret (v:=.tuple #[.agg #[.int .i64 0,.int .i64 0,.slice none 0 0],.int .i64 3]) (by simp [results,Tryz.results24,go_sem,z0,z1,z2]) rfl ⟨rfl,uH BP⟩
theorem rleast_range (r c q:Nat) (ao bo:Option Addr) (k cap m d:Nat) (Q R:List Nat) (w:World) (hsh:c≤r)
  (C1:∀ w',Below w.heap.size w w'→Calls Tryz.prog 19 #[.agg #[.int .i64 r,.int .i64 c,.slice ao k cap]] w' fun e w''=>e = .returned (.int .i64 0)∧Below w'.heap.size w' w'')
  (C2:∀ w',Below w.heap.size w w'→Calls Tryz.prog 19 #[.agg #[.int .i64 r,.int .i64 q,.slice bo m d]] w' fun e w''=>e = .returned (.int .i64 0)∧Below w'.heap.size w' w'')
  (C3:∀ w',Below w.heap.size w w'→Calls Tryz.prog 74 #[.agg #[.int .i64 r,.int .i64 c,.slice ao k cap]] w' fun e w''=>ThAns w'' false r c c Q R e∧Below w'.heap.size w' w'') :
  Calls Tryz.prog 24 #[.agg #[.int .i64 r,.int .i64 c,.slice ao k cap],.agg #[.int .i64 r,.int .i64 q,.slice bo m d]] w fun e w'=>e = .returned (.tuple #[.agg #[.int .i64 0,.int .i64 0,.slice none 0 0],.int .i64 2])∧Below w.heap.size w w':=by
 have KB:=hide (boxes3_17 w (.int .i64 r) (.int .i64 c) (.slice ao k cap) (.int .i64 r) (.int .i64 q) (.slice bo m d) (.int .i64 0) (.int .i64 0) (.slice none 0 0))
 obtain ⟨b0,x0,x1,x2⟩:=uH KB _ (by have:=Below.refl (((w.alloc (.cells #[.int .i64 r,.int .i64 c,.slice ao k cap] 24)).alloc (.cells #[.int .i64 r,.int .i64 q,.slice bo m d] 24)).alloc (.cells #[.int .i64 0,.int .i64 0,.slice none 0 0] 24)).heap.size (((w.alloc (.cells #[.int .i64 r,.int .i64 c,.slice ao k cap] 24)).alloc (.cells #[.int .i64 r,.int .i64 q,.slice bo m d] 24)).alloc (.cells #[.int .i64 0,.int .i64 0,.slice none 0 0] 24));simpa only [size_alloc9] using this)
 have HB:=hide b0;have HX:=hide x0;have HY:=hide x1;have HR:=hide x2
 have K1:=hide C1;have K2:=hide C2;have K3:=hide C3
 clear C1 C2 C3 KB b0 x0 x1 x2
 have hlt:¬ (r:Int) < (c:Int):=by omega
 have heq:((r:Int) != (r:Int)) = false:=by simp
 clear hsh
 go_enter Tryz.func24,Tryz.ntmps24
 have y0:=(uH HX).c0;have y1:=(uH HX).c1;have y2:=(uH HX).c2;have u0:=(uH HY).c0;have u1:=(uH HY).c1;have u2:=(uH HY).c2
 go_wp2_with fail
 clear y0 y1 y2 u0 u1 u2
 refine (uH K1 _ (uH HB)).mono ?_
 rintro e wn ⟨rfl,hb⟩
 replace HX:=hide ((uH HX).all hb);replace HY:=hide ((uH HY).all hb);replace HR:=hide ((uH HR).all hb)
 replace HB:=hide ((uH HB).trans (hb.mono (uH HB).size))
 clear hb
 have y0:=(uH HX).c0;have y1:=(uH HX).c1;have y2:=(uH HX).c2;have u0:=(uH HY).c0;have u1:=(uH HY).c1;have u2:=(uH HY).c2
 go_wp2_with fail
 clear y0 y1 y2 u0 u1 u2
 refine (uH K2 _ (uH HB)).mono ?_
 rintro e wn ⟨rfl,hb⟩
 replace HX:=hide ((uH HX).all hb);replace HY:=hide ((uH HY).all hb);replace HR:=hide ((uH HR).all hb)
 replace HB:=hide ((uH HB).trans (hb.mono (uH HB).size))
 clear hb
 have y0:=(uH HX).c0;have y1:=(uH HX).c1;have y2:=(uH HX).c2;have u0:=(uH HY).c0;have u1:=(uH HY).c1;have u2:=(uH HY).c2
 go_wp2_with fail
 clear y0 y1 y2 u0 u1 u2
 refine (uH K3 _ (uH HB)).mono ?_
 rintro e w3 ⟨hans,hb⟩
 replace HX:=hide ((uH HX).all hb);replace HY:=hide ((uH HY).all hb);replace HR:=hide ((uH HR).all hb)
 replace HB:=hide ((uH HB).trans (hb.mono (uH HB).size))
 clear hb K3
 rcases hans with ⟨e0,_⟩ | ⟨_,rfl⟩
 ·cases e0
 have ba:=below_alloc9 w3 (.cells #[.int .i64 0,.int .i64 0,.slice none 0 0,.int .i64 0,.int .i64 0,.slice none 0 0,.bool false] 89)
 have HW:=hide (BoxW.new w3 (.int .i64 0) (.int .i64 0) (.slice none 0 0) (.int .i64 0) (.int .i64 0) (.slice none 0 0) (.bool false))
 replace HR:=hide ((uH HR).all ba)
 replace HB:=hide ((uH HB).trans (ba.mono (uH HB).size))
 clear ba HX HY
 have v6:=(uH HW).c6
 have X3:=uH HR
 have f0:=X3.free 0;have f1:=X3.free 1;have f2:=X3.free 2
 have s0:=X3.c0;have s1:=X3.c1;have s2:=X3.c2
 have XP:=X3.put (.int .i64 0) (.int .i64 0) (.slice none 0 0)
 have z0:=XP.c0;have z1:=XP.c1;have z2:=XP.c2
 have BP:=hide (below_putM (uH HB) (b:=w.heap.size+1+1) (by omega) (.int .i64 0) (.int .i64 0) (.slice none 0 0))
 clear XP X3
 go_wp2_with fail
 exact bodyPost_ret (v:=.tuple #[.agg #[.int .i64 0,.int .i64 0,.slice none 0 0],.int .i64 2]) (by simp [results,Tryz.results24,go_sem,z0,z1,z2]) rfl ⟨rfl,uH BP⟩
theorem rleast_rank (r c q:Nat) (ao bo:Option Addr) (k cap m d:Nat) (Q R:List Nat) (w:World) (hsh:c≤r)
  (C1:∀ w',Below w.heap.size w w'→Calls Tryz.prog 19 #[.agg #[.int .i64 r,.int .i64 c,.slice ao k cap]] w' fun e w''=>e = .returned (.int .i64 0)∧Below w'.heap.size w' w'')
  (C2:∀ w',Below w.heap.size w w'→Calls Tryz.prog 19 #[.agg #[.int .i64 r,.int .i64 q,.slice bo m d]] w' fun e w''=>e = .returned (.int .i64 0)∧Below w'.heap.size w' w'')
  (C3:∀ w',Below w.heap.size w w'→Calls Tryz.prog 74 #[.agg #[.int .i64 r,.int .i64 c,.slice ao k cap]] w' fun e w''=>ThAns w'' true r c c Q R e∧Below w'.heap.size w' w'')
  (C4:∀ w' ro rc,Below w.heap.size w w'→BitsAt w' ro rc (mxL R)→Calls Tryz.prog 20 #[.agg #[.int .i64 c,.int .i64 c,.slice ro R.length rc]] w' fun e w''=>e = .returned (.bool true)∧Below w'.heap.size w' w'') :
  Calls Tryz.prog 24 #[.agg #[.int .i64 r,.int .i64 c,.slice ao k cap],.agg #[.int .i64 r,.int .i64 q,.slice bo m d]] w fun e w'=>e = .returned (.tuple #[.agg #[.int .i64 0,.int .i64 0,.slice none 0 0],.int .i64 5])∧Below w.heap.size w w':=by
 have KB:=hide (boxes3_17 w (.int .i64 r) (.int .i64 c) (.slice ao k cap) (.int .i64 r) (.int .i64 q) (.slice bo m d) (.int .i64 0) (.int .i64 0) (.slice none 0 0))
 obtain ⟨b0,x0,x1,x2⟩:=uH KB _ (by have:=Below.refl (((w.alloc (.cells #[.int .i64 r,.int .i64 c,.slice ao k cap] 24)).alloc (.cells #[.int .i64 r,.int .i64 q,.slice bo m d] 24)).alloc (.cells #[.int .i64 0,.int .i64 0,.slice none 0 0] 24)).heap.size (((w.alloc (.cells #[.int .i64 r,.int .i64 c,.slice ao k cap] 24)).alloc (.cells #[.int .i64 r,.int .i64 q,.slice bo m d] 24)).alloc (.cells #[.int .i64 0,.int .i64 0,.slice none 0 0] 24));simpa only [size_alloc9] using this)
 have HB:=hide b0;have HX:=hide x0;have HY:=hide x1;have HR:=hide x2
 have K1:=hide C1;have K2:=hide C2;have K3:=hide C3;have K4:=hide C4
 clear C1 C2 C3 C4 KB b0 x0 x1 x2
 have hlt:¬ (r:Int) < (c:Int):=by omega
 have heq:((r:Int) != (r:Int)) = false:=by simp
 clear hsh
 go_enter Tryz.func24,Tryz.ntmps24
 have y0:=(uH HX).c0;have y1:=(uH HX).c1;have y2:=(uH HX).c2;have u0:=(uH HY).c0;have u1:=(uH HY).c1;have u2:=(uH HY).c2
 go_wp2_with fail
 clear y0 y1 y2 u0 u1 u2
 refine (uH K1 _ (uH HB)).mono ?_
 rintro e wn ⟨rfl,hb⟩
 replace HX:=hide ((uH HX).all hb);replace HY:=hide ((uH HY).all hb);replace HR:=hide ((uH HR).all hb)
 replace HB:=hide ((uH HB).trans (hb.mono (uH HB).size))
 clear hb
 have y0:=(uH HX).c0;have y1:=(uH HX).c1;have y2:=(uH HX).c2;have u0:=(uH HY).c0;have u1:=(uH HY).c1;have u2:=(uH HY).c2
 go_wp2_with fail
 clear y0 y1 y2 u0 u1 u2
 refine (uH K2 _ (uH HB)).mono ?_
 rintro e wn ⟨rfl,hb⟩
 replace HX:=hide ((uH HX).all hb);replace HY:=hide ((uH HY).all hb);replace HR:=hide ((uH HR).all hb)
 replace HB:=hide ((uH HB).trans (hb.mono (uH HB).size))
 clear hb
 have y0:=(uH HX).c0;have y1:=(uH HX).c1;have y2:=(uH HX).c2;have u0:=(uH HY).c0;have u1:=(uH HY).c1;have u2:=(uH HY).c2
 go_wp2_with fail
 clear y0 y1 y2 u0 u1 u2
 refine (uH K3 _ (uH HB)).mono ?_
 rintro e w3 ⟨hans,hb⟩
 replace HX:=hide ((uH HX).all hb);replace HY:=hide ((uH HY).all hb);replace HR:=hide ((uH HR).all hb)
 replace HB:=hide ((uH HB).trans (hb.mono (uH HB).size))
 clear hb K3
 rcases hans with ⟨_,qo,qc,ro,rc,rfl,hq,hr⟩ | ⟨e0,_⟩
 rotate_left
 ·cases e0
 have ba:=below_alloc9 w3 (.cells #[.int .i64 r,.int .i64 c,.slice qo Q.length qc,.int .i64 c,.int .i64 c,.slice ro R.length rc,.bool true] 89)
 have HW:=hide (BoxW.new w3 (.int .i64 r) (.int .i64 c) (.slice qo Q.length qc) (.int .i64 c) (.int .i64 c) (.slice ro R.length rc) (.bool true))
 have HQ:=hide (hq.below ba);have HT:=hide (hr.below ba)
 replace HX:=hide ((uH HX).all ba);replace HY:=hide ((uH HY).all ba);replace HR:=hide ((uH HR).all ba)
 replace HB:=hide ((uH HB).trans (ba.mono (uH HB).size))
 clear ba hq hr
 have v3:=(uH HW).c3;have v4:=(uH HW).c4;have v5:=(uH HW).c5;have v6:=(uH HW).c6
 go_wp2_with fail
 clear v3 v4 v5 v6
 refine (uH K4 _ ro rc (uH HB) (uH HT)).mono ?_
 rintro e w4 ⟨rfl,hb⟩
 replace HW:=hide ((uH HW).all hb);replace HQ:=hide ((uH HQ).below hb);replace HT:=hide ((uH HT).below hb)
 replace HX:=hide ((uH HX).all hb);replace HY:=hide ((uH HY).all hb);replace HR:=hide ((uH HR).all hb)
 replace HB:=hide ((uH HB).trans (hb.mono (uH HB).size))
 clear hb K4
 have X3:=uH HR
 have f0:=X3.free 0;have f1:=X3.free 1;have f2:=X3.free 2
 have s0:=X3.c0;have s1:=X3.c1;have s2:=X3.c2
 have XP:=X3.put (.int .i64 0) (.int .i64 0) (.slice none 0 0)
 have z0:=XP.c0;have z1:=XP.c1;have z2:=XP.c2
 have BP:=hide (below_putM (uH HB) (b:=w.heap.size+1+1) (by omega) (.int .i64 0) (.int .i64 0) (.slice none 0 0))
 clear XP X3
 go_wp2_with fail
 exact bodyPost_ret (v:=.tuple #[.agg #[.int .i64 0,.int .i64 0,.slice none 0 0],.int .i64 5]) (by simp [results,Tryz.results24,go_sem,z0,z1,z2]) rfl ⟨rfl,uH BP⟩
theorem rleast_of (r c q:Nat) (ao bo:Option Addr) (k cap m d:Nat) (Q R U Y M:List Nat) (n u:Nat) (f:Int) (w:World) (hsh:c≤r)
  (C1:∀ w',Below w.heap.size w w'→Calls Tryz.prog 19 #[.agg #[.int .i64 r,.int .i64 c,.slice ao k cap]] w' fun e w''=>e = .returned (.int .i64 0)∧Below w'.heap.size w' w'')
  (C2:∀ w',Below w.heap.size w w'→Calls Tryz.prog 19 #[.agg #[.int .i64 r,.int .i64 q,.slice bo m d]] w' fun e w''=>e = .returned (.int .i64 0)∧Below w'.heap.size w' w'')
  (C3:∀ w',Below w.heap.size w w'→Calls Tryz.prog 74 #[.agg #[.int .i64 r,.int .i64 c,.slice ao k cap]] w' fun e w''=>ThAns w'' true r c c Q R e∧Below w'.heap.size w' w'')
  (C4:∀ w' ro rc,Below w.heap.size w w'→BitsAt w' ro rc (mxL R)→Calls Tryz.prog 20 #[.agg #[.int .i64 c,.int .i64 c,.slice ro R.length rc]] w' fun e w''=>e = .returned (.bool false)∧Below w'.heap.size w' w'')
  (C5:∀ w' qo qc,Below w.heap.size w w'→BitsAt w' qo qc (mxL Q)→Calls Tryz.prog 28 #[.agg #[.int .i64 r,.int .i64 c,.slice qo Q.length qc]] w' fun e w''=>∃ uo tc,e = .returned (.agg #[.int .i64 c,.int .i64 r,.slice uo U.length tc])∧BitsAt w'' uo tc (mxL U)∧Below w'.heap.size w' w'')
  (C6:∀ w' uo tc,Below w.heap.size w w'→BitsAt w' uo tc (mxL U)→Calls Tryz.prog 36 #[.agg #[.int .i64 c,.int .i64 r,.slice uo U.length tc],.agg #[.int .i64 r,.int .i64 q,.slice bo m d]] w' fun e w''=>∃ yo yc,e = .returned (.agg #[.int .i64 c,.int .i64 q,.slice yo Y.length yc])∧BitsAt w'' yo yc (mxL Y)∧Below w'.heap.size w' w'')
  (C7:∀ w' ro rc yo yc,Below w.heap.size w w'→BitsAt w' ro rc (mxL R)→BitsAt w' yo yc (mxL Y)→Calls Tryz.prog 13 #[.agg #[.int .i64 c,.int .i64 c,.slice ro R.length rc],.agg #[.int .i64 c,.int .i64 q,.slice yo Y.length yc]] w' fun e w''=>(∃ xo xc,e = .returned (.tuple #[.agg #[.int .i64 n,.int .i64 u,.slice xo M.length xc],.int .i64 f])∧BitsAt w'' xo xc (mxL M))∧Below w'.heap.size w' w'') :
  Calls Tryz.prog 24 #[.agg #[.int .i64 r,.int .i64 c,.slice ao k cap],.agg #[.int .i64 r,.int .i64 q,.slice bo m d]] w fun e w'=>(∃ xo xc,e = .returned (.tuple #[.agg #[.int .i64 n,.int .i64 u,.slice xo M.length xc],.int .i64 f])∧BitsAt w' xo xc (mxL M))∧Below w.heap.size w w':=by
 have KB:=hide (boxes3_17 w (.int .i64 r) (.int .i64 c) (.slice ao k cap) (.int .i64 r) (.int .i64 q) (.slice bo m d) (.int .i64 0) (.int .i64 0) (.slice none 0 0))
 obtain ⟨b0,x0,x1,x2⟩:=uH KB _ (by have:=Below.refl (((w.alloc (.cells #[.int .i64 r,.int .i64 c,.slice ao k cap] 24)).alloc (.cells #[.int .i64 r,.int .i64 q,.slice bo m d] 24)).alloc (.cells #[.int .i64 0,.int .i64 0,.slice none 0 0] 24)).heap.size (((w.alloc (.cells #[.int .i64 r,.int .i64 c,.slice ao k cap] 24)).alloc (.cells #[.int .i64 r,.int .i64 q,.slice bo m d] 24)).alloc (.cells #[.int .i64 0,.int .i64 0,.slice none 0 0] 24));simpa only [size_alloc9] using this)
 have HB:=hide b0;have HX:=hide x0;have HY:=hide x1;have HR:=hide x2
 have K1:=hide C1;have K2:=hide C2;have K3:=hide C3;have K4:=hide C4;have K5:=hide C5;have K6:=hide C6;have K7:=hide C7
 clear C1 C2 C3 C4 C5 C6 C7 KB b0 x0 x1 x2
 have hlt:¬ (r:Int) < (c:Int):=by omega
 have heq:((r:Int) != (r:Int)) = false:=by simp
 clear hsh
 go_enter Tryz.func24,Tryz.ntmps24
 have y0:=(uH HX).c0;have y1:=(uH HX).c1;have y2:=(uH HX).c2;have u0:=(uH HY).c0;have u1:=(uH HY).c1;have u2:=(uH HY).c2
 go_wp2_with fail
 clear y0 y1 y2 u0 u1 u2
 refine (uH K1 _ (uH HB)).mono ?_
 rintro e wn ⟨rfl,hb⟩
 replace HX:=hide ((uH HX).all hb);replace HY:=hide ((uH HY).all hb);replace HR:=hide ((uH HR).all hb)
 replace HB:=hide ((uH HB).trans (hb.mono (uH HB).size))
 clear hb
 have y0:=(uH HX).c0;have y1:=(uH HX).c1;have y2:=(uH HX).c2;have u0:=(uH HY).c0;have u1:=(uH HY).c1;have u2:=(uH HY).c2
 go_wp2_with fail
 clear y0 y1 y2 u0 u1 u2
 refine (uH K2 _ (uH HB)).mono ?_
 rintro e wn ⟨rfl,hb⟩
 replace HX:=hide ((uH HX).all hb);replace HY:=hide ((uH HY).all hb);replace HR:=hide ((uH HR).all hb)
 replace HB:=hide ((uH HB).trans (hb.mono (uH HB).size))
 clear hb
 have y0:=(uH HX).c0;have y1:=(uH HX).c1;have y2:=(uH HX).c2;have u0:=(uH HY).c0;have u1:=(uH HY).c1;have u2:=(uH HY).c2
 go_wp2_with fail
 clear y0 y1 y2 u0 u1 u2
 refine (uH K3 _ (uH HB)).mono ?_
 rintro e w3 ⟨hans,hb⟩
 replace HX:=hide ((uH HX).all hb);replace HY:=hide ((uH HY).all hb);replace HR:=hide ((uH HR).all hb)
 replace HB:=hide ((uH HB).trans (hb.mono (uH HB).size))
 clear hb K3
 rcases hans with ⟨_,qo,qc,ro,rc,rfl,hq,hr⟩ | ⟨e0,_⟩
 rotate_left
 ·cases e0
 have ba:=below_alloc9 w3 (.cells #[.int .i64 r,.int .i64 c,.slice qo Q.length qc,.int .i64 c,.int .i64 c,.slice ro R.length rc,.bool true] 89)
 have HLT:=hide (uH HR).lt
 have HW:=hide (BoxW.new w3 (.int .i64 r) (.int .i64 c) (.slice qo Q.length qc) (.int .i64 c) (.int .i64 c) (.slice ro R.length rc) (.bool true))
 have HQ:=hide (hq.below ba);have HT:=hide (hr.below ba)
 replace HX:=hide ((uH HX).all ba);replace HY:=hide ((uH HY).all ba);replace HR:=hide ((uH HR).all ba)
 replace HB:=hide ((uH HB).trans (ba.mono (uH HB).size))
 clear ba hq hr
 have v3:=(uH HW).c3;have v4:=(uH HW).c4;have v5:=(uH HW).c5;have v6:=(uH HW).c6
 go_wp2_with fail
 clear v3 v4 v5 v6
 refine (uH K4 _ ro rc (uH HB) (uH HT)).mono ?_
 rintro e w4 ⟨rfl,hb⟩
 replace HW:=hide ((uH HW).all hb);replace HQ:=hide ((uH HQ).below hb);replace HT:=hide ((uH HT).below hb)
 replace HX:=hide ((uH HX).all hb);replace HY:=hide ((uH HY).all hb);replace HR:=hide ((uH HR).all hb)
 replace HB:=hide ((uH HB).trans (hb.mono (uH HB).size))
 clear hb K4
 clear HX
 go_wp2_with fail
 have hd:=(Below.refl w4.heap.size w4).drew
 replace HW:=hide ((uH HW).all hd);replace HY:=hide ((uH HY).all hd);replace HR:=hide ((uH HR).all hd);replace HT:=hide ((uH HT).below hd);replace HB:=hide ((uH HB).trans (hd.mono (uH HB).size))
 replace HQ:=hide ((uH HQ).below hd)
 clear hd
 refine wp_region_held_drew (S:=fun w'=>(w'.cell? ⟨w3.heap.size,0,none⟩ = some (.int .i64 (r:Nat))∧w'.cell? ⟨w3.heap.size,1,none⟩ = some (.int .i64 (c:Nat))∧w'.cell? ⟨w3.heap.size,2,none⟩ = some (.slice qo Q.length qc)∧w'.cell? ⟨w3.heap.size,3,none⟩ = some (.int .i64 (c:Nat))∧w'.cell? ⟨w3.heap.size,4,none⟩ = some (.int .i64 (c:Nat))∧w'.cell? ⟨w3.heap.size,5,none⟩ = some (.slice ro R.length rc))∧w'.cell? ⟨w.heap.size+1,0,none⟩ = some (.int .i64 (r:Nat))∧w'.cell? ⟨w.heap.size+1,1,none⟩ = some (.int .i64 (q:Nat))∧w'.cell? ⟨w.heap.size+1,2,none⟩ = some (.slice bo m d)) (by kernel_rfl) ?_ (fun hHeld=>?_)
 ·exact ⟨⟨(uH HW).c0,(uH HW).c1,(uH HW).c2,(uH HW).c3,(uH HW).c4,(uH HW).c5⟩,(uH HY).c0,(uH HY).c1,(uH HY).c2⟩
 refine wpAnyH_take (i:=0) (oi:={ dst:=some 42,op:=Op.fieldAddr 89 (Operand.tmp 6) 1,type:=0,pos := "ref.go:110",after:=#[],guard:=none }) (v:=(Value.pointer (some ⟨w3.heap.size,3,none⟩))) rfl (by kernel_rfl) (by kernel_rfl) (by kernel_rfl) (fun _ _ _ h=>h) (Or.inl ⟨by rfl,?_⟩) (by assumption) ?_
 ·(intro w hSw;(try dsimp only at hSw);go_simp)
 simp only [Act.put,List.setIfInBounds_toArray,List.set_cons_zero,List.set_cons_succ]
 refine wpAnyH_take (i:=1) (oi:={ dst:=some 43,op:=Op.load 24 (Operand.tmp 42),type:=24,pos := "ref.go:110",after:=#[{ on:=0,ground:=Ground.data }],guard:=none }) (v:=Value.agg #[.int .i64 (c:Nat),.int .i64 (c:Nat),.slice ro R.length rc]) rfl (by kernel_rfl) (by kernel_rfl) (by kernel_rfl) (fun _ _ _ h=>h) (Or.inl ⟨by rfl,?_⟩) (by assumption) ?_
 ·(intro w hSw;(try dsimp only at hSw);go_simp)
 simp only [Act.put,List.setIfInBounds_toArray,List.set_cons_zero,List.set_cons_succ]
 refine wpAnyH_take (i:=2) (oi:={ dst:=some 44,op:=Op.fieldAddr 89 (Operand.tmp 6) 0,type:=0,pos := "ref.go:110",after:=#[],guard:=none }) (v:=(Value.pointer (some ⟨w3.heap.size,0,none⟩))) rfl (by kernel_rfl) (by kernel_rfl) (by kernel_rfl) (fun _ _ _ h=>h) (Or.inl ⟨by rfl,?_⟩) (by assumption) ?_
 ·(intro w hSw;(try dsimp only at hSw);go_simp)
 simp only [Act.put,List.setIfInBounds_toArray,List.set_cons_zero,List.set_cons_succ]
 refine wpAnyH_take (i:=3) (oi:={ dst:=some 45,op:=Op.load 24 (Operand.tmp 44),type:=24,pos := "ref.go:110",after:=#[{ on:=2,ground:=Ground.data }],guard:=none }) (v:=Value.agg #[.int .i64 (r:Nat),.int .i64 (c:Nat),.slice qo Q.length qc]) rfl (by kernel_rfl) (by kernel_rfl) (by kernel_rfl) (fun _ _ _ h=>h) (Or.inl ⟨by rfl,?_⟩) (by assumption) ?_
 ·(intro w hSw;(try dsimp only at hSw);go_simp)
 simp only [Act.put,List.setIfInBounds_toArray,List.set_cons_zero,List.set_cons_succ]
 refine wpAnyH_take (i:=5) (oi:={ dst:=some 47,op:=Op.load 24 (Operand.tmp 3),type:=24,pos := "ref.go:110",after:=#[],guard:=none }) (v:=Value.agg #[.int .i64 (r:Nat),.int .i64 (q:Nat),.slice bo m d]) rfl (by kernel_rfl) (by kernel_rfl) (by kernel_rfl) (fun _ _ _ h=>h) (Or.inl ⟨by rfl,?_⟩) (by assumption) ?_
 ·(intro w hSw;(try dsimp only at hSw);go_simp)
 simp only [Act.put,List.setIfInBounds_toArray,List.set_cons_zero,List.set_cons_succ]
 refine wpAnyH_ready (rs:=[4]) (by kernel_rfl) (by simp) ?_
 refine AllReadyH.cons (o:={ dst:=some 46,op:=Op.call { callee:=Callee.value (Operand.func 28),args:=#[Operand.tmp 45],argTypes:=#[24] },type:=24,pos := "ref.go:110",after:=#[{ on:=3,ground:=Ground.data }],guard:=none }) rfl (fun K0 hK0=>?_) AllReadyH.nil
 go_simp
 refine (uH K5 _ qo qc (uH HB) (uH HQ)).mono ?_
 rintro e w5 ⟨to2,tc2,rfl,ht,hb⟩
 replace HW:=hide ((uH HW).all hb);replace HY:=hide ((uH HY).all hb);replace HR:=hide ((uH HR).all hb);replace HT:=hide ((uH HT).below hb);replace HB:=hide ((uH HB).trans (hb.mono (uH HB).size))
 have HU:=hide ht
 clear hb ht K5 HQ
 go_wp2_with fail
 refine hK0.out _ _ ?_ (fun hHeld=>?_)
 ·exact ⟨⟨(uH HW).c0,(uH HW).c1,(uH HW).c2,(uH HW).c3,(uH HW).c4,(uH HW).c5⟩,(uH HY).c0,(uH HY).c1,(uH HY).c2⟩
 clear hK0 K0
 refine wpAnyH_ready (rs:=[6]) (by kernel_rfl) (by simp) ?_
 refine AllReadyH.cons (o:={ dst:=some 48,op:=Op.call { callee:=Callee.value (Operand.func 36),args:=#[Operand.tmp 46,Operand.tmp 47],argTypes:=#[24,24] },type:=24,pos := "ref.go:110",after:=#[{ on:=4,ground:=Ground.data },{ on:=5,ground:=Ground.data },{ on:=4,ground:=Ground.chain }],guard:=none }) rfl (fun K0 hK0=>?_) AllReadyH.nil
 go_simp
 refine (uH K6 _ to2 tc2 (uH HB) (uH HU)).mono ?_
 rintro e w6 ⟨yo,yc,rfl,hy,hb⟩
 replace HW:=hide ((uH HW).all hb);replace HY:=hide ((uH HY).all hb);replace HR:=hide ((uH HR).all hb);replace HT:=hide ((uH HT).below hb);replace HB:=hide ((uH HB).trans (hb.mono (uH HB).size))
 have HYY:=hide hy
 clear hb hy K6 HU
 go_wp2_with fail
 refine hK0.out _ _ ?_ (fun hHeld=>?_)
 ·exact ⟨⟨(uH HW).c0,(uH HW).c1,(uH HW).c2,(uH HW).c3,(uH HW).c4,(uH HW).c5⟩,(uH HY).c0,(uH HY).c1,(uH HY).c2⟩
 clear hK0 K0
 refine wpAnyH_ready (rs:=[7]) (by kernel_rfl) (by simp) ?_
 refine AllReadyH.cons (o:={ dst:=some 49,op:=Op.call { callee:=Callee.value (Operand.func 13),args:=#[Operand.tmp 43,Operand.tmp 48],argTypes:=#[24,24] },type:=26,pos := "ref.go:110",after:=#[{ on:=1,ground:=Ground.data },{ on:=6,ground:=Ground.data },{ on:=6,ground:=Ground.chain }],guard:=none }) rfl (fun K0 hK0=>?_) AllReadyH.nil
 go_simp
 refine (uH K7 _ ro rc yo yc (uH HB) (uH HT) (uH HYY)).mono ?_
 rintro e w7 ⟨⟨xo,xc,rfl,hx⟩,hb⟩
 replace HW:=hide ((uH HW).all hb);replace HY:=hide ((uH HY).all hb);replace HR:=hide ((uH HR).all hb);replace HT:=hide ((uH HT).below hb);replace HB:=hide ((uH HB).trans (hb.mono (uH HB).size))
 have HXX:=hide hx
 clear hb hx K7 HYY
 go_wp2_with fail
 refine hK0.out _ _ ?_ (fun hHeld=>?_)
 ·exact ⟨⟨(uH HW).c0,(uH HW).c1,(uH HW).c2,(uH HW).c3,(uH HW).c4,(uH HW).c5⟩,(uH HY).c0,(uH HY).c1,(uH HY).c2⟩
 clear hK0 K0
 refine wpAnyH_take (i:=8) (oi:={ dst:=some 50,op:=Op.extract (Operand.tmp 49) 0,type:=24,pos := "ref.go:110",after:=#[{ on:=7,ground:=Ground.data }],guard:=none }) (v:=Value.agg #[.int .i64 (n:Nat),.int .i64 (u:Nat),.slice xo M.length xc]) rfl (by kernel_rfl) (by kernel_rfl) (by kernel_rfl) (fun _ _ _ h=>h) (Or.inl ⟨by rfl,?_⟩) (by assumption) ?_
 ·(intro w hSw;(try dsimp only at hSw);go_simp)
 simp only [Act.put,List.setIfInBounds_toArray,List.set_cons_zero,List.set_cons_succ]
 refine wpAnyH_take (i:=9) (oi:={ dst:=some 51,op:=Op.extract (Operand.tmp 49) 1,type:=25,pos := "ref.go:110",after:=#[{ on:=7,ground:=Ground.data }],guard:=none }) (v:=(Value.int .i64 f)) rfl (by kernel_rfl) (by kernel_rfl) (by kernel_rfl) (fun _ _ _ h=>h) (Or.inl ⟨by rfl,?_⟩) (by assumption) ?_
 ·(intro w hSw;(try dsimp only at hSw);go_simp)
 simp only [Act.put,List.setIfInBounds_toArray,List.set_cons_zero,List.set_cons_succ]
 refine wpAnyH_ready (rs:=[10]) (by kernel_rfl) (by simp) ?_
 refine AllReadyH.cons (o:={ dst:=none,op:=Op.store 24 (Operand.tmp 4) (Operand.tmp 50),type:=0,pos := "ref.go:110",after:=#[{ on:=8,ground:=Ground.data },{ on:=7,ground:=Ground.chain },{ on:=0,ground:=Ground.phase },{ on:=1,ground:=Ground.phase },{ on:=2,ground:=Ground.phase },{ on:=3,ground:=Ground.phase },{ on:=4,ground:=Ground.phase },{ on:=5,ground:=Ground.phase },{ on:=6,ground:=Ground.phase },{ on:=7,ground:=Ground.phase },{ on:=8,ground:=Ground.phase },{ on:=9,ground:=Ground.phase }],guard:=none }) rfl (fun K0 hK0=>?_) AllReadyH.nil
 have X3:=uH HR
 have f0:=X3.free 0;have f1:=X3.free 1;have f2:=X3.free 2
 have s0:=X3.c0;have s1:=X3.c1;have s2:=X3.c2
 have XP:=X3.put (.int .i64 n) (.int .i64 u) (.slice xo M.length xc)
 have BP:=hide (below_putM (uH HB) (b:=w.heap.size+1+1) (by omega) (.int .i64 n) (.int .i64 u) (.slice xo M.length xc))
 have QX:=hide ((uH HXX).putM X3 (.int .i64 n) (.int .i64 u) (.slice xo M.length xc))
 have XR:=hide XP
 replace HY:=hide (((uH HY).other (p:=⟨w.heap.size+1+1,0,none⟩) (by show w.heap.size+1 ≠ w.heap.size+1+1;omega) (.int .i64 n)).other (p:=⟨w.heap.size+1+1,1,none⟩) (by show w.heap.size+1 ≠ w.heap.size+1+1;omega) (.int .i64 u))
 replace HY:=hide ((uH HY).other (p:=⟨w.heap.size+1+1,2,none⟩) (by show w.heap.size+1 ≠ w.heap.size+1+1;omega) (.slice xo M.length xc))
 have hne:w3.heap.size ≠ w.heap.size+1+1:=by have:=uH HLT;omega
 replace HW:=hide ((((uH HW).other (p:=⟨w.heap.size+1+1,0,none⟩) hne (.int .i64 n)).other (p:=⟨w.heap.size+1+1,1,none⟩) hne (.int .i64 u)).other (p:=⟨w.heap.size+1+1,2,none⟩) hne (.slice xo M.length xc))
 clear X3 XP HR HB HT HXX hne
 go_simp
 clear f0 f1 f2 s0 s1 s2
 refine hK0.out _ _ ?_ (fun hHeld=>?_)
 ·exact ⟨⟨(uH HW).c0,(uH HW).c1,(uH HW).c2,(uH HW).c3,(uH HW).c4,(uH HW).c5⟩,(uH HY).c0,(uH HY).c1,(uH HY).c2⟩
 clear hK0 K0
 refine wpAnyH_take (i:=11) (oi:={ dst:=some 5,op:=Op.assign (Operand.tmp 51),type:=25,pos := "ref.go:110",after:=#[{ on:=9,ground:=Ground.data },{ on:=10,ground:=Ground.chain },{ on:=0,ground:=Ground.phase },{ on:=1,ground:=Ground.phase },{ on:=2,ground:=Ground.phase },{ on:=3,ground:=Ground.phase },{ on:=4,ground:=Ground.phase },{ on:=5,ground:=Ground.phase },{ on:=6,ground:=Ground.phase },{ on:=7,ground:=Ground.phase },{ on:=8,ground:=Ground.phase },{ on:=9,ground:=Ground.phase },{ on:=10,ground:=Ground.phase }],guard:=none }) (v:=(Value.int .i64 f)) rfl (by kernel_rfl) (by kernel_rfl) (by kernel_rfl) (fun _ _ _ h=>h) (Or.inl ⟨by rfl,?_⟩) (by assumption) ?_
 ·(intro w hSw;(try dsimp only at hSw);go_simp)
 simp only [Act.put,List.setIfInBounds_toArray,List.set_cons_zero,List.set_cons_succ]
 refine wpAnyH_done (by kernel_rfl) ?_ _
 have z0:=(uH XR).c0;have z1:=(uH XR).c1;have z2:=(uH XR).c2
 clear XR HW HY
 go_wp2_with fail
 exact bodyPost_ret (v:=.tuple #[.agg #[.int .i64 n,.int .i64 u,.slice xo M.length xc],.int .i64 f]) (by simp [results,Tryz.results24,go_sem,z0,z1,z2]) rfl ⟨⟨xo,xc,rfl,uH QX⟩,uH BP⟩
end Go.Proofs.YtlnphkioddknfaaGreatDoor
namespace Go.Proofs.YtlnphkioddknfaaGreatDoor
open Go.RowKit
attribute [local go_sem ↓] Go.wp_at_zero Go.wp_at_succ
theorem rsame_long (r c:Int) (ao bo:Option Addr) (cap d:Nat) (I:List Int) (w:World) (h:BitsAt w ao cap I) (h2:BitsAt w bo d I) (hl:I.length≤17592186043904) :
  Calls Tryz.prog 23 #[.agg #[.int .i64 r,.int .i64 c,.slice ao I.length cap],.agg #[.int .i64 r,.int .i64 c,.slice bo I.length d]] w fun e w'=>e = .returned (.bool true)∧Below w.heap.size w w':=by
 have b0:=below_alloc9 w (.cells #[.int .i64 r,.int .i64 c,.slice ao I.length cap] 24)
 have b1:=below_alloc9 (w.alloc (.cells #[.int .i64 r,.int .i64 c,.slice ao I.length cap] 24)) (.cells #[.int .i64 r,.int .i64 c,.slice bo I.length d] 24)
 have bb:=b0.trans (b1.mono b0.size)
 have K:=hide (same_any ao bo cap d I _ (h.below bb) (h2.below bb) (by omega))
 have HB:=hide bb
 clear b0 b1 bb h h2
 generalize I.length = n at *
 go_enter Tryz.func23,Tryz.ntmps23
 go_wp2_with fail
 refine Calls.mono (uH K) ?_
 rintro e w1 ⟨rfl,hb1⟩
 clear K
 go_wp2
 go_ret
 exact ⟨rfl,(uH HB).trans (hb1.mono (uH HB).size)⟩
def Keeps (base H:Nat) (X:World→Prop):Prop:=(∀ w' w'',X w'→Below w'.heap.size w' w''→X w'')∧∀ w' g j z0 z,X w'→w'.cell? ⟨g,j,none⟩ = some (.int .u64 z0)→base≤g→g < H→X (w'.setCell ⟨g,j,none⟩ (.int .u64 z))
structure LlSt (X:World→Prop) (w wr:World) (H g1 g2:Nat) (r c p q:Int) (ao bo:Option Addr) (n cap m d:Nat) (po qo:Option Addr) (pc qc:Nat):Prop where
 bel:Below w.heap.size w wr
 a:BoxM wr w.heap.size (.int .i64 r) (.int .i64 c) (.slice ao n cap)
 b:BoxM wr (w.heap.size+1) (.int .i64 p) (.int .i64 q) (.slice bo m d)
 pb:BoxM wr g1 (.int .i64 r) (.int .i64 c) (.slice po n pc)
 qb:BoxM wr g2 (.int .i64 p) (.int .i64 q) (.slice qo m qc)
 cp:CopyB (w.heap.size+2) H wr po n
 cq:CopyB (w.heap.size+2) H wr qo m
 x:X wr
 k:Keeps (w.heap.size+2) H X
theorem LlSt.all {X:World→Prop} {w wr w':World} {H g1 g2:Nat} {r c p q:Int} {ao bo:Option Addr} {n cap m d:Nat} {po qo:Option Addr} {pc qc:Nat} (h:LlSt X w wr H g1 g2 r c p q ao bo n cap m d po qo pc qc) (hb:Below wr.heap.size wr w'):LlSt X w w' H g1 g2 r c p q ao bo n cap m d po qo pc qc :=
 ⟨h.bel.trans (hb.mono h.bel.size),h.a.all hb,h.b.all hb,h.pb.all hb,h.qb.all hb,h.cp.below hb,h.cq.below hb,h.k.1 _ _ h.x hb,h.k⟩
theorem LlSt.set {X:World→Prop} {w wr:World} {H g1 g2:Nat} {r c p q:Int} {ao bo:Option Addr} {n cap m d:Nat} {po qo:Option Addr} {pc qc:Nat} (h:LlSt X w wr H g1 g2 r c p q ao bo n cap m d po qo pc qc) {g j:Nat} {z0:Int} (cz:wr.cell? ⟨g,j,none⟩ = some (.int .u64 z0)) (e2:w.heap.size+2≤g) (e3:g < H) (z:Int):LlSt X w (wr.setCell ⟨g,j,none⟩ (.int .u64 z)) H g1 g2 r c p q ao bo n cap m d po qo pc qc :=
 ⟨h.bel.setCell (p:=⟨g,j,none⟩) (by show w.heap.size≤g;omega) _,h.a.other (p:=⟨g,j,none⟩) (h.a.away cz) _,h.b.other (p:=⟨g,j,none⟩) (h.b.away cz) _,h.pb.other (p:=⟨g,j,none⟩) (h.pb.away cz) _,h.qb.other (p:=⟨g,j,none⟩) (h.qb.away cz) _,h.cp.set g j z,h.cq.set g j z,h.k.2 _ _ _ _ _ h.x cz e2 e3,h.k⟩
theorem LlSt.putP {X:World→Prop} {w wr:World} {H g1 g2:Nat} {r c p q:Int} {ao bo:Option Addr} {n cap m d:Nat} {po qo:Option Addr} {pc qc:Nat} (h:LlSt X w wr H g1 g2 r c p q ao bo n cap m d po qo pc qc) {j:Nat} (hj:j < n):∃ g z0,po = some ⟨g,0,none⟩∧wr.cell? ⟨g,j,none⟩ = some (.int .u64 z0)∧wr.frozen? ⟨g,j,none⟩ = false∧∀ z,LlSt X w (wr.setCell ⟨g,j,none⟩ (.int .u64 z)) H g1 g2 r c p q ao bo n cap m d po qo pc qc:=by
 obtain ⟨g,e1,e2,e3,e4⟩:=h.cp.resolve_left (by omega)
 obtain ⟨z0,cz⟩:=e4.cell hj
 exact ⟨g,z0,e1,cz,e4.free j,fun z=>h.set cz e2 e3 z⟩
theorem LlSt.putQ {X:World→Prop} {w wr:World} {H g1 g2:Nat} {r c p q:Int} {ao bo:Option Addr} {n cap m d:Nat} {po qo:Option Addr} {pc qc:Nat} (h:LlSt X w wr H g1 g2 r c p q ao bo n cap m d po qo pc qc) {j:Nat} (hj:j < m):∃ g z0,qo = some ⟨g,0,none⟩∧wr.cell? ⟨g,j,none⟩ = some (.int .u64 z0)∧wr.frozen? ⟨g,j,none⟩ = false∧∀ z,LlSt X w (wr.setCell ⟨g,j,none⟩ (.int .u64 z)) H g1 g2 r c p q ao bo n cap m d po qo pc qc:=by
 obtain ⟨g,e1,e2,e3,e4⟩:=h.cq.resolve_left (by omega)
 obtain ⟨z0,cz⟩:=e4.cell hj
 exact ⟨g,z0,e1,cz,e4.free j,fun z=>h.set cz e2 e3 z⟩
theorem Keeps.ans {base H g p1 p2:Nat} {so:Option Addr} {sd:Nat} {S:List Nat}:Keeps base H (fun W=>AnsAt W H g p1 p2 so sd S):=⟨fun _ _ h hb=>h.all hb,fun _ _ _ _ z h cz _ e3=>h.put cz e3 z⟩
theorem solveLeasts_of (r c:Int) (ao:Option Addr) (cap:Nat) (I:List Int) (p q:Int) (bo:Option Addr) (d:Nat) (J:List Int) (p1 p2:Nat) (S:List Nat) (f:Int) (w:World) (hI:BitsAt w ao cap I) (hl:I.length≤17592186043904) (hJ:BitsAt w bo d J) (hlj:J.length≤17592186043904)
  (C2:∀ w' po pc qo qc,Below w.heap.size w w'→BitsAt w' po pc I→BitsAt w' qo qc J→Calls Tryz.prog 22 #[.agg #[.int .i64 r,.int .i64 c,.slice po I.length pc],.agg #[.int .i64 p,.int .i64 q,.slice qo J.length qc]] w' fun e w''=>∃ so sd,e = .returned (.tuple #[.agg #[.int .i64 p1,.int .i64 p2,.slice so S.length sd],.int .i64 f])∧NewB w'.heap.size so (mxL S)∧BitsAt w'' so sd (mxL S)∧Below w'.heap.size w' w'')
  (C3:∀ w',Below w.heap.size w w'→Calls Tryz.prog 24 #[.agg #[.int .i64 r,.int .i64 c,.slice ao I.length cap],.agg #[.int .i64 p,.int .i64 q,.slice bo J.length d]] w' fun e w''=>∃ yo yc,e = .returned (.tuple #[.agg #[.int .i64 p1,.int .i64 p2,.slice yo S.length yc],.int .i64 f])∧BitsAt w'' yo yc (mxL S)∧Below w'.heap.size w' w'')
  (CS:∀ w' xo xc yo yc,BitsAt w' xo xc (mxL S)→BitsAt w' yo yc (mxL S)→Calls Tryz.prog 14 #[.agg #[.int .i64 p1,.int .i64 p2,.slice xo S.length xc],.int .i64 f,.agg #[.int .i64 p1,.int .i64 p2,.slice yo S.length yc],.int .i64 f] w' fun e w''=>e = .returned (.bool true)∧Below w'.heap.size w' w'')
  (CA:∀ w',Below w.heap.size w w'→Calls Tryz.prog 15 #[] w' fun e w''=>e = .returned (.bool true)∧Below w'.heap.size w' w'') :
  Calls Tryz.prog 5 #[.agg #[.int .i64 r,.int .i64 c,.slice ao I.length cap],.agg #[.int .i64 p,.int .i64 q,.slice bo J.length d]] w fun e w'=>e = .returned (.bool true)∧Below w.heap.size w w':=by
 have K2:=hide C2;have K3:=hide C3;have KS:=hide CS;have KA:=hide CA
 clear C2 C3 CS CA
 have KB:=hide (boxes2 w (.int .i64 r) (.int .i64 c) (.slice ao I.length cap) (.int .i64 p) (.int .i64 q) (.slice bo J.length d))
 obtain ⟨b0,x0,x1⟩:=uH KB ((w.alloc (.cells #[.int .i64 r,.int .i64 c,.slice ao I.length cap] 24)).alloc (.cells #[.int .i64 p,.int .i64 q,.slice bo J.length d] 24)) (by have:=Below.refl ((w.alloc (.cells #[.int .i64 r,.int .i64 c,.slice ao I.length cap] 24)).alloc (.cells #[.int .i64 p,.int .i64 q,.slice bo J.length d] 24)).heap.size ((w.alloc (.cells #[.int .i64 r,.int .i64 c,.slice ao I.length cap] 24)).alloc (.cells #[.int .i64 p,.int .i64 q,.slice bo J.length d] 24));simpa only [size_alloc9] using this)
 have HX0:=hide x0;have HX1:=hide x1;have HBB:=hide b0;have HZ2:=hide (show (((w.alloc (.cells #[.int .i64 r,.int .i64 c,.slice ao I.length cap] 24)).alloc (.cells #[.int .i64 p,.int .i64 q,.slice bo J.length d] 24))).heap.size = w.heap.size+1+1 by simp only [size_alloc9])
 have K1:=hide (rcopy_any r c ao cap I _ (hI.below b0) hl)
 have K1b:=hide (fun w' (hb:Below w.heap.size w w')=>rcopy_any p q bo d J w' (hJ.below hb) hlj)
 have SAME:=hide (fun base w' po pc (o:OwnB base w' (.slice po I.length pc) (natL I))=>o.same hI)
 have SAMEJ:=hide (fun base w' po pc (o:OwnB base w' (.slice po J.length pc) (natL J))=>o.same hJ)
 have KSA:=hide (fun w' po pc (hb:Below w.heap.size w w') (h:BitsAt w' po pc I)=>rsame_long r c po ao pc cap I w' h (hI.below hb) hl)
 have KSB:=hide (fun w' po pc (hb:Below w.heap.size w w') (h:BitsAt w' po pc J)=>rsame_long p q po bo pc d J w' h (hJ.below hb) hlj)
 have hl2:=hide (show I.length≤35184372088830 by omega);have hl3:=hide (show J.length≤35184372088830 by omega)
 clear KB b0 x0 x1 hI hl hJ hlj
 generalize hnI:I.length = nI at *
 generalize hnJ:J.length = nJ at *
 have HNI:=hide hnI;have HNJ:=hide hnJ
 clear hnI hnJ
 go_enter Tryz.func5,Tryz.ntmps5
 have y0:=(uH HX0).c0;have y1:=(uH HX0).c1;have y2:=(uH HX0).c2
 go_wp2_with fail
 clear y0 y1 y2
 refine Calls.mono (uH K1) ?_
 rintro e w1 ⟨po,pc,rfl,own1,hb1⟩
 have bel1:=(uH HBB).trans (hb1.mono (uH HBB).size)
 have ba:=below_alloc9 w1 (.cells #[.int .i64 r,.int .i64 c,.slice po nI pc] 24)
 have zz:=size_alloc9 w1 (.cells #[.int .i64 r,.int .i64 c,.slice po nI pc] 24)
 have Q1:=hide ((uH SAME _ _ _ _ own1).below ba)
 have CP:=hide (((by rw [← uH HNI] at own1;have:=own1.copy;rw [uH HNI] at this;exact this:CopyB _ w1.heap.size w1 po nI).base (show w.heap.size+2≤_ from Nat.le_of_eq (uH HZ2).symm)).below ba)
 have BX:=hide (BoxM.new w1 (.int .i64 r) (.int .i64 c) (.slice po nI pc))
 have A1:=hide (((uH HX0).all hb1).all ba);have A2:=hide (((uH HX1).all hb1).all ba)
 have B1:=hide (bel1.trans (ba.mono bel1.size))
 have HS1:=hide (show w.heap.size+2≤w1.heap.size by have:=hb1.size;have:=uH HZ2;omega)
 have ZZ:=hide zz
 clear own1 hb1 bel1 ba zz K1 HX0 HX1 HBB SAME
 have x0:=(uH A2).c0;have x1:=(uH A2).c1;have x2:=(uH A2).c2
 go_wp2_with fail
 clear x0 x1 x2
 refine (uH K1b _ (uH B1)).mono ?_
 rintro e w2 ⟨qo,qc,rfl,own2,hb2⟩
 have bel2:=(uH B1).trans (hb2.mono (uH B1).size)
 have ba:=below_alloc9 w2 (.cells #[.int .i64 p,.int .i64 q,.slice qo nJ qc] 24)
 have zz2:=size_alloc9 w2 (.cells #[.int .i64 p,.int .i64 q,.slice qo nJ qc] 24)
 have Q2:=hide ((uH SAMEJ _ _ _ _ own2).below ba)
 have CQ:=hide (((by rw [← uH HNJ] at own2;have:=own2.copy;rw [uH HNJ] at this;exact this:CopyB _ w2.heap.size w2 qo nJ).base (show w.heap.size+2≤_ by have:=uH HS1;have:=uH ZZ;omega)).below ba)
 replace CP:=hide (((((uH CP).upto (H':=w2.heap.size) (by have:=hb2.size;have:=uH ZZ;omega))).below hb2).below ba)
 replace Q1:=hide (((uH Q1).below hb2).below ba)
 replace BX:=hide (((uH BX).all hb2).all ba)
 have BY:=hide (BoxM.new w2 (.int .i64 p) (.int .i64 q) (.slice qo nJ qc))
 replace A1:=hide (((uH A1).all hb2).all ba);replace A2:=hide (((uH A2).all hb2).all ba)
 have B2:=hide (bel2.trans (ba.mono bel2.size))
 have HS2:=hide (show w2.heap.size≤_ from Nat.le_trans (Nat.le_succ _) (Nat.le_of_eq zz2.symm))
 clear own2 hb2 bel2 ba B1 K1b SAMEJ ZZ zz2 HZ2
 have y0:=(uH BX).c0;have y1:=(uH BX).c1;have y2:=(uH BX).c2
 have x0:=(uH BY).c0;have x1:=(uH BY).c1;have x2:=(uH BY).c2
 go_wp2_with fail
 clear y0 y1 y2 x0 x1 x2
 refine (uH K2 _ po pc qo qc (uH B2) (by exact uH Q1) (by exact uH Q2)).mono ?_
 rintro e w3 ⟨so,sd,rfl,ns,qs,hb⟩
 have ba:=below_alloc9 w3 (.cells #[.int .i64 p1,.int .i64 p2,.slice so S.length sd] 24)
 have bel3:=(uH B2).trans (hb.mono (uH B2).size)
 have ST:=hide (show LlSt (fun W=>AnsAt W w2.heap.size w3.heap.size p1 p2 so sd S) w (w3.alloc (.cells #[.int .i64 p1,.int .i64 p2,.slice so S.length sd] 24)) w2.heap.size w1.heap.size w2.heap.size r c p q ao bo nI cap nJ d po qo pc qc from ⟨bel3.trans (ba.mono bel3.size),((uH A1).all hb).all ba,((uH A2).all hb).all ba,((uH BX).all hb).all ba,((uH BY).all hb).all ba,((uH CP).below hb).below ba,((uH CQ).below hb).below ba,⟨BoxM.new w3 _ _ _,qs.below ba,NewB.least ns (uH HS2)⟩,Keeps.ans⟩)
 replace Q1:=hide (((uH Q1).below hb).below ba);replace Q2:=hide (((uH Q2).below hb).below ba)
 clear ns qs hb ba bel3 A1 A2 BX BY CP CQ B2 K2 HS1 HS2
 have y0:=(uH ST).pb.c0;have y1:=(uH ST).pb.c1;have y2:=(uH ST).pb.c2;have x0:=(uH ST).a.c0;have x1:=(uH ST).a.c1;have x2:=(uH ST).a.c2
 go_wp2_with fail
 clear y0 y1 y2 x0 x1 x2
 refine Calls.mono (uH KSA _ po pc (uH ST).bel (uH Q1)) ?_
 rintro e w5 ⟨rfl,hb⟩
 replace ST:=hide ((uH ST).all hb);replace Q2:=hide ((uH Q2).below hb)
 clear hb KSA Q1
 have y0:=(uH ST).qb.c0;have y1:=(uH ST).qb.c1;have y2:=(uH ST).qb.c2;have x0:=(uH ST).b.c0;have x1:=(uH ST).b.c1;have x2:=(uH ST).b.c2
 go_wp2_with fail
 clear y0 y1 y2 x0 x1 x2
 refine Calls.mono (uH KSB _ qo qc (uH ST).bel (uH Q2)) ?_
 rintro e w6 ⟨rfl,hb⟩
 replace ST:=hide ((uH ST).all hb)
 clear hb KSB Q2
 go_wp2_with fail
 go_loopw [9] (fun a wr=>∃ j:Nat,j≤nI∧a = .int .i64 j∧Hid (LlSt (fun W=>AnsAt W w2.heap.size w3.heap.size p1 p2 so sd S) w wr w2.heap.size w1.heap.size w2.heap.size r c p q ao bo nI cap nJ d po qo pc qc)) (fun a _=>nI - (intOf a).toNat)
 case atStart=>exact ⟨0,Nat.zero_le _,rfl,ST⟩
 case round =>
  clear ST
  obtain ⟨j,hj,rfl,hX⟩:=hrel
  have t2:=(uH hX).pb.c2
  by_cases hlt:j < nI
  ·have hkI:(j:Int) < (nI:Int):=by omega
   have hn2:=uH hl2
   obtain ⟨g,z0,rfl,cz,fz,put⟩:=(uH hX).putP hlt
   have PUT:=hide (fun z=>put z)
   clear put hX
   go_wp2_with fail
   go_region_with fail
   all_goals
    go_wp2_with fail
    go_round
    case rel=>exact ⟨j+1,by omega,by go_num,hide ((uH PUT _).all (Below.refl _ _).drew)⟩
    case measure=>simp [intOf];omega
  ·have hkk:j = nI:=by omega
   have hkI:¬ ((j:Int) < (nI:Int)):=by omega
   have ST:=hX
   clear hX hkk
   go_wp2_with fail
   clear t2 hkI
   go_loopw [10] (fun a wr=>∃ j:Nat,j≤nJ∧a = .int .i64 j∧Hid (LlSt (fun W=>AnsAt W w2.heap.size w3.heap.size p1 p2 so sd S) w wr w2.heap.size w1.heap.size w2.heap.size r c p q ao bo nI cap nJ d po qo pc qc)) (fun a _=>nJ - (intOf a).toNat)
   case atStart=>exact ⟨0,Nat.zero_le _,rfl,ST⟩
   case round =>
    clear ST
    obtain ⟨j,hj,rfl,hX⟩:=hrel
    have t2:=(uH hX).qb.c2
    by_cases hlt:j < nJ
    ·have hkI:(j:Int) < (nJ:Int):=by omega
     have hn2:=uH hl3
     obtain ⟨g,z0,rfl,cz,fz,put⟩:=(uH hX).putQ hlt
     have PUT:=hide (fun z=>put z)
     clear put hX
     go_wp2_with fail
     go_region_with fail
     all_goals
      go_wp2_with fail
      go_round
      case rel=>exact ⟨j+1,by omega,by go_num,hide ((uH PUT _).all (Below.refl _ _).drew)⟩
      case measure=>simp [intOf];omega
    ·have hkk:j = nJ:=by omega
     have hkI:¬ ((j:Int) < (nJ:Int)):=by omega
     have ST:=hX
     clear hX hkk
     have y0:=(uH ST).a.c0;have y1:=(uH ST).a.c1;have y2:=(uH ST).a.c2;have x0:=(uH ST).b.c0;have x1:=(uH ST).b.c1;have x2:=(uH ST).b.c2
     go_wp2_with fail
     clear t2 hkI
     clear y0 y1 y2 x0 x1 x2
     refine (uH K3 _ (uH ST).bel).mono ?_
     rintro e w7 ⟨yo,yc,rfl,hy,hb⟩
     have ba:=below_alloc9 w7 (.cells #[.int .i64 p1,.int .i64 p2,.slice yo S.length yc] 24)
     have XY:=hide (BoxM.new w7 (.int .i64 p1) (.int .i64 p2) (.slice yo S.length yc))
     have HY:=hide (hy.below ba)
     replace ST:=hide (((uH ST).all hb).all ba)
     clear hb ba hy K3
     have y0:=(uH ST).x.box.c0;have y1:=(uH ST).x.box.c1;have y2:=(uH ST).x.box.c2;have x0:=(uH XY).c0;have x1:=(uH XY).c1;have x2:=(uH XY).c2
     go_wp2_with fail
     clear y0 y1 y2 x0 x1 x2
     refine (uH KS _ so sd yo yc (uH ST).x.bits (uH HY)).mono ?_
     rintro e w8 ⟨rfl,hb⟩
     have BE:=hide ((uH ST).bel.trans (hb.mono (uH ST).bel.size))
     clear hb ST XY HY KS
     go_wp2_with fail
     refine (uH KA _ (uH BE)).mono ?_
     rintro e w9 ⟨rfl,hb⟩
     replace BE:=hide ((uH BE).trans (hb.mono (uH BE).size))
     clear hb KA
     go_wp2
     go_ret
     exact ⟨rfl,uH BE⟩
end Go.Proofs.YtlnphkioddknfaaGreatDoor
namespace Go.Proofs.YtlnphkioddknfaaGreatDoor
open Go.RowKit
theorem SvAns.new {w w':World} {f:Int} {n q:Nat} {M:List Nat} {e:Ending} (h:SvAns w w' f n q M e):∃ xo xc,e = .returned (.tuple #[.agg #[.int .i64 ((if f = 0 then n else 0:Nat):Int),.int .i64 ((if f = 0 then q else 0:Nat):Int),.slice xo (if f = 0 then M else []).length xc],.int .i64 f])∧NewB w.heap.size xo (mxL (if f = 0 then M else []))∧BitsAt w' xo xc (mxL (if f = 0 then M else [])):=by
 rcases h with ⟨rfl,xo,xc,rfl,h1,h2,h3,_⟩ | ⟨hf,rfl⟩
 ·refine ⟨xo,xc,?_,?_,?_⟩
  ·rw [if_pos rfl,if_pos rfl,if_pos rfl,h3]
  ·rw [if_pos rfl];exact h1
  ·rw [if_pos rfl];exact h2
 ·refine ⟨none,0,?_,?_,?_⟩
  ·rw [if_neg hf,if_neg hf,if_neg hf];rfl
  ·rw [if_neg hf];exact .inl rfl
  ·rw [if_neg hf];exact BitsAt.none w' 0
theorem rleast_mx (r c q tc bc:Nat) (tq bo:Option Addr) (S B:List Nat) (w:World) (hS:Mx w tq tc r c S) (hB:Mx w bo bc r q B) (fS:finL S = true) (fB:finL B = true) (hcr:c≤r) :
  Calls Tryz.prog 24 #[.agg #[.int .i64 r,.int .i64 c,.slice tq S.length tc],.agg #[.int .i64 r,.int .i64 q,.slice bo B.length bc]] w fun e w'=>(∃ xo xc,e = .returned (.tuple #[.agg #[.int .i64 ((if lqE r c q S B = 0 then c else 0:Nat):Int),.int .i64 ((if lqE r c q S B = 0 then q else 0:Nat):Int),.slice xo (if lqE r c q S B = 0 then lqU r c q S B else []).length xc],.int .i64 (lqE r c q S B)])∧BitsAt w' xo xc (mxL (if lqE r c q S B = 0 then lqU r c q S B else [])))∧Below w.heap.size w w':=by
 have r6:=hS.2.2.1;have c6:=hS.2.2.2;have q6:=hB.2.2.2
 have hm:min r c = c:=by omega
 have sS:=hS.small;have sB:=hB.small
 have C1:∀ w',Below w.heap.size w w'→Calls Tryz.prog 19 #[.agg #[.int .i64 r,.int .i64 c,.slice tq S.length tc]] w' fun e w''=>e = .returned (.int .i64 0)∧Below w'.heap.size w' w'':=fun w' hb=>by
  have:=r11check_any r c tq tc (mxL S) w' (hS.1.below hb) (by rw [mxL_len];omega)
  rw [ck_mx hS fS,mxL_len] at this
  exact this
 have C2:∀ w',Below w.heap.size w w'→Calls Tryz.prog 19 #[.agg #[.int .i64 r,.int .i64 q,.slice bo B.length bc]] w' fun e w''=>e = .returned (.int .i64 0)∧Below w'.heap.size w' w'':=fun w' hb=>by
  have:=r11check_any r q bo bc (mxL B) w' (hB.1.below hb) (by rw [mxL_len];omega)
  rw [ck_mx hB fB,mxL_len] at this
  exact this
 have eQ:thQ r c S = lqQ r c S:=by unfold thQ lqQ;rw [hm]
 have eR:thR r c S = lqT r c S:=by unfold thR lqT;rw [hm]
 have C3:=fun w' (hb:Below w.heap.size w w')=>rthin14_any r c tc tq S w' (hS.below hb)
 rw [eQ,eR,hm] at C3
 cases hk:facK r c S with
 | false =>
  have e2:lqE r c q S B = 2:=by unfold lqE;rw [hk];rfl
  rw [hk] at C3
  rw [e2]
  simp only [if_neg (show ¬ ((2:Int) = 0) by decide)]
  refine (rleast_range r c q tq bo S.length tc B.length bc _ _ w hcr C1 C2 C3).mono ?_
  rintro e w' ⟨rfl,hb⟩
  exact ⟨⟨none,0,rfl,BitsAt.none w' 0⟩,hb⟩
 | true =>
  rw [hk] at C3
  have fT:=lqT_fin hS.2.1 hcr hk
  have lT:(lqT r c S).length = c * c:=by unfold lqT paM;exact mkM_len _ _ _
  have lQ:(lqQ r c S).length = r * c:=by unfold lqQ paM;exact mkM_len _ _ _
  have lY:(lqY r c q S B).length = c * q:=by unfold lqY muM;exact mkM_len _ _ _
  have C4:=fun w' ro rc (hb:Below w.heap.size w w') (hr:BitsAt w' ro rc (mxL (lqT r c S)))=>rflat17_any c c rc ro (lqT r c S) w' ⟨hr,lT,c6,c6⟩
  have C5:∀ w' qo qc,Below w.heap.size w w'→BitsAt w' qo qc (mxL (lqQ r c S))→Calls Tryz.prog 28 #[.agg #[.int .i64 r,.int .i64 c,.slice qo (lqQ r c S).length qc]] w' fun e w''=>∃ uo tc,e = .returned (.agg #[.int .i64 c,.int .i64 r,.slice uo (tuM r c (lqQ r c S)).length tc])∧BitsAt w'' uo tc (mxL (tuM r c (lqQ r c S)))∧Below w'.heap.size w' w'':=fun w' qo qc hb hq=>by
   refine (rturn_any r c qc qo (lqQ r c S) w' ⟨hq,lQ,r6,c6⟩).mono ?_
   rintro e w'' ⟨v,rfl,⟨po,pc,rfl,_,h2⟩,hb2⟩
   exact ⟨po,pc,rfl,h2,hb2⟩
  have C6:∀ w' uo tc,Below w.heap.size w w'→BitsAt w' uo tc (mxL (tuM r c (lqQ r c S)))→Calls Tryz.prog 36 #[.agg #[.int .i64 c,.int .i64 r,.slice uo (tuM r c (lqQ r c S)).length tc],.agg #[.int .i64 r,.int .i64 q,.slice bo B.length bc]] w' fun e w''=>∃ yo yc,e = .returned (.agg #[.int .i64 c,.int .i64 q,.slice yo (lqY r c q S B).length yc])∧BitsAt w'' yo yc (mxL (lqY r c q S B))∧Below w'.heap.size w' w'':=fun w' uo tc hb hu=>by
   refine (rmul10_any c r q tc bc uo bo (tuM r c (lqQ r c S)) B w' ⟨hu,mkM_len _ _ _,c6,r6⟩ (hB.below hb)).mono ?_
   rintro e w'' ⟨v,rfl,⟨po,pc,rfl,_,h2⟩,hb2⟩
   exact ⟨po,pc,rfl,h2,hb2⟩
  cases hf:ftB c c (lqT r c S) with
  | true =>
   have e5:lqE r c q S B = 5:=by unfold lqE;rw [hk,hf];rfl
   rw [hf] at C4
   rw [e5]
   simp only [if_neg (show ¬ ((5:Int) = 0) by decide)]
   refine (rleast_rank r c q tq bo S.length tc B.length bc _ _ w hcr C1 C2 C3 C4).mono ?_
   rintro e w' ⟨rfl,hb⟩
   exact ⟨⟨none,0,rfl,BitsAt.none w' 0⟩,hb⟩
  | false =>
   rw [hf] at C4
   cases hy2:finL (lqY r c q S B) with
   | true =>
    have eU:lqE r c q S B = usE c (lqT r c S) (upM c q (lqT r c S) (lqY r c q S B)):=by unfold lqE;rw [hk,hf,hy2];rfl
    rw [eU,show lqU r c q S B = upM c q (lqT r c S) (lqY r c q S B) from rfl]
    refine rleast_of r c q tq bo S.length tc B.length bc _ _ _ (lqY r c q S B) _ _ _ _ w hcr C1 C2 C3 C4 C5 C6 (fun w' ro rc yo yc hb hr hy=>?_)
    refine (rupper17_mx c q rc yc ro yo (lqT r c S) (lqY r c q S B) w' ⟨hr,lT,c6,c6⟩ ⟨hy,lY,c6,q6⟩ fT hy2).mono ?_
    rintro e w'' ⟨hans,hb2⟩
    exact ⟨hans.one,hb2⟩
   | false =>
    have e4':lqE r c q S B = 4:=by unfold lqE;rw [hk,hf,hy2];rfl
    rw [e4']
    simp only [if_neg (show ¬ ((4:Int) = 0) by decide)]
    refine rleast_of r c q tq bo S.length tc B.length bc _ _ _ (lqY r c q S B) _ _ _ _ w hcr C1 C2 C3 C4 C5 C6 (fun w' ro rc yo yc hb hr hy=>?_)
    have e4:trE17 c c c q (mxL (lqT r c S)) (mxL (lqY r c q S B)) = 4:=by
     have h1:ckE (c:Int) (c:Int) (mxL (lqT r c S)) = 0:=ck_mx (w:=w') (ao:=ro) (cap:=rc) ⟨hr,lT,c6,c6⟩ fT
     have h2:ckE (c:Int) (q:Int) (mxL (lqY r c q S B)) = 4:=by
      unfold ckE
      have hm2:Mx w' yo yc c q (lqY r c q S B):=⟨hy,lY,c6,q6⟩
      rw [mxL_len,mx_ok hm2]
      have:fnK (mxL (lqY r c q S B)) (lqY r c q S B).length = false:=hy2
      rw [this]
      rfl
     unfold trE17 ck2
     rw [h1,h2]
     rfl
    have t36:c * c≤36:=Nat.mul_le_mul c6 c6
    have y36:c * q≤36:=Nat.mul_le_mul c6 q6
    have:=rupper17_no c c c q ro yo rc yc (mxL (lqT r c S)) (mxL (lqY r c q S B)) w' hr hy (by rw [mxL_len,lT];omega) (by rw [mxL_len,lY];omega) (by rw [e4];decide)
    rw [e4,mxL_len,mxL_len] at this
    refine this.mono ?_
    rintro e w'' ⟨hans,hb2⟩
    exact ⟨by have:=hans.one;simpa only [if_neg (show ¬ ((4:Int) = 0) by decide)] using this,hb2⟩
theorem finL_of17 {S:List Nat} (h:∀ x ∈ S,fFin x = true):finL S = true:=by
 rw [finL_all]
 intro k hk
 rw [List.getD_eq_getElem?_getD,List.getElem?_eq_getElem hk]
 exact h _ (List.getElem_mem hk)
theorem er17 {r c p q:Int} {I J:List Int} (h:ck2 r c I p q J ≠ 0):(ckE r c I = 1 ∨ ckE r c I = 4) ∨ (ckE r c I = 0∧(ckE p q J = 1 ∨ ckE p q J = 4)):=by
 unfold ck2 at h
 rcases ckE_cases r c I with e | e | e
 ·rw [if_pos e] at h
  rcases ckE_cases p q J with e' | e' | e'
  ·exact absurd e' h
  ·exact .inr ⟨e,.inl e'⟩
  ·exact .inr ⟨e,.inr e'⟩
 ·exact .inl (.inl e)
 ·exact .inl (.inr e)
theorem solveLeasts_walk (r c:Int) (ao:Option Addr) (cap:Nat) (I:List Int) (p s:Int) (bo:Option Addr) (d:Nat) (J:List Int) (w:World) (hI:BitsAt w ao cap I) (hl:I.length≤17592186043904) (_hr:-9223372036854775808≤r∧r≤9223372036854775807) (_hc:-9223372036854775808≤c∧c≤9223372036854775807) (hJ:BitsAt w bo d J) (hlj:J.length≤17592186043904) (_hp:-9223372036854775808≤p∧p≤9223372036854775807) (_hs:-9223372036854775808≤s∧s≤9223372036854775807) (hT:Tab w) :
  Calls Tryz.prog 5 #[.agg #[.int .i64 r,.int .i64 c,.slice ao I.length cap],.agg #[.int .i64 p,.int .i64 s,.slice bo J.length d]] w fun e w'=>e = .returned (.bool true)∧Below w.heap.size w w':=by
 have KA:=awake17_any w hT
 have NIL:∀ w' xo xc yo yc (f:Int),BitsAt w' xo xc (mxL [])→BitsAt w' yo yc (mxL [])→Calls Tryz.prog 14 #[.agg #[.int .i64 ((0:Nat):Int),.int .i64 ((0:Nat):Int),.slice xo ([]:List Nat).length xc],.int .i64 f,.agg #[.int .i64 ((0:Nat):Int),.int .i64 ((0:Nat):Int),.slice yo ([]:List Nat).length yc],.int .i64 f] w' fun e w''=>e = .returned (.bool true)∧Below w'.heap.size w' w'':=fun w' xo xc yo yc f h1 h2=>same17_yes _ _ _ xc yc xo yo [] w' h1 h2 (Nat.zero_le _)
 have CK:=fun w' po pc qo qc (h1:BitsAt w' po pc I) (h2:BitsAt w' qo qc J)=>fun w'' (hb:Below w'.heap.size w' w'')=>checked_any r c p s po qo pc qc I J w'' (h1.below hb) (h2.below hb) (by omega) (by omega)
 have R1:=fun w' (hb:Below w.heap.size w w')=>r11check_any r c ao cap I w' (hI.below hb) (by omega)
 have R2:=fun w' (hb:Below w.heap.size w w')=>r11check_any p s bo d J w' (hJ.below hb) (by omega)
 by_cases h0:ck2 r c I p s J = 0
 ·have hI0:ckE r c I = 0:=by
   unfold ck2 at h0
   by_cases e:ckE r c I = 0
   ·exact e
   ·rw [if_neg e] at h0;exact h0
  have hJ0:ckE p s J = 0:=by
   unfold ck2 at h0
   rwa [if_pos hI0] at h0
  by_cases hsh:r < c ∨ (¬ r < c∧¬ r = p)
  ·rw [hI0] at R1
   rw [hJ0] at R2
   refine solveLeasts_of r c ao cap I p s bo d J 0 0 [] 3 w hI hl hJ hlj (fun w' po pc qo qc hb h1 h2=>?_) (fun w' hb=>?_) (fun w' xo xc yo yc h1 h2=>NIL w' xo xc yo yc 3 h1 h2) KA
   ·refine (least_shape r c p s I.length pc J.length qc po qo w' hsh (fun w'' hb2=>?_)).mono ?_
    ·have:=CK w' po pc qo qc h1 h2 w'' hb2
     rw [h0] at this
     exact this
    ·rintro e w'' ⟨rfl,hb2⟩
     exact ⟨none,0,rfl,.inl rfl,BitsAt.none w'' 0,hb2⟩
   ·refine (rleast_shape r c p s ao bo I.length cap J.length d w' hsh (fun w'' hb2=>R1 w'' (hb.trans (hb2.mono hb.size))) (fun w'' hb2=>R2 w'' (hb.trans (hb2.mono hb.size)))).mono ?_
    rintro e w'' ⟨rfl,hb2⟩
    exact ⟨none,0,rfl,BitsAt.none w'' 0,hb2⟩
  ·obtain ⟨n,n',e1,e2,hMx,eI,fI⟩:=Mx.asked hI hI0
   obtain ⟨n2,q,e3,e4,hMy,eJ,fJ⟩:=Mx.asked hJ hJ0
   have hn2:n2 = n:=by omega
   have hcr:n'≤n:=by omega
   rw [hn2] at hMy e3
   have lI:(natL I).length = I.length:=by rw [← mxL_len,eI]
   have lJ:(natL J).length = J.length:=by rw [← mxL_len,eJ]
   have fI2:=finL_of17 fI;have fJ2:=finL_of17 fJ
   subst e1 e2 e3 e4
   refine solveLeasts_of n n' ao cap I n q bo d J (if lqE n n' q (natL I) (natL J) = 0 then n' else 0) (if lqE n n' q (natL I) (natL J) = 0 then q else 0) (if lqE n n' q (natL I) (natL J) = 0 then lqU n n' q (natL I) (natL J) else []) (lqE n n' q (natL I) (natL J)) w hI hl hJ hlj (fun w' po pc qo qc hb h1 h2=>?_) (fun w' hb=>?_) (fun w' xo xc yo yc h1 h2=>same17_yes _ _ _ xc yc xo yo _ w' h1 h2 ?_) KA
   ·have m1:Mx w' po pc n n' (natL I):=⟨by rw [eI];exact h1,hMx.2⟩
    have m2:Mx w' qo qc n q (natL J):=⟨by rw [eJ];exact h2,hMy.2⟩
    have:=least_mx n n' q pc qc po qo (natL I) (natL J) w' m1 m2 fI2 fJ2 hcr (hT.all hb)
    rw [lI,lJ] at this
    refine this.mono ?_
    rintro e w'' ⟨hans,hb2⟩
    obtain ⟨xo,xc,rfl,k1,k2⟩:=hans.new
    exact ⟨xo,xc,rfl,k1,k2,hb2⟩
   ·have:=rleast_mx n n' q cap d ao bo (natL I) (natL J) w' (hMx.below hb) (hMy.below hb) fI2 fJ2 hcr
    rw [lI,lJ] at this
    refine this.mono ?_
    rintro e w'' ⟨⟨xo,xc,rfl,k⟩,hb2⟩
    exact ⟨xo,xc,rfl,k,hb2⟩
   ·split
    ·have e:(lqU n n' q (natL I) (natL J)).length = n' * q:=trM_len _ _ _ _ _ _
     have:n' * q≤36:=Nat.mul_le_mul hMx.2.2.2 hMy.2.2.2
     omega
    ·exact Nat.zero_le _
 ·refine solveLeasts_of r c ao cap I p s bo d J 0 0 [] (ck2 r c I p s J) w hI hl hJ hlj (fun w' po pc qo qc hb h1 h2=>?_) (fun w' hb=>?_) (fun w' xo xc yo yc h1 h2=>NIL w' xo xc yo yc _ h1 h2) KA
  ·refine (least_err r c p s (ck2 r c I p s J) I.length pc J.length qc po qo w' ?_ (fun w'' hb2=>CK w' po pc qo qc h1 h2 w'' hb2)).mono ?_
   ·unfold ck2
    rcases er17 h0 with (e | e) | ⟨e,e' | e'⟩
    ·rw [e,if_neg (by decide)];exact .inl rfl
    ·rw [e,if_neg (by decide)];exact .inr rfl
    ·rw [if_pos e];exact .inl e'
    ·rw [if_pos e];exact .inr e'
   ·rintro e w'' ⟨rfl,hb2⟩
    exact ⟨none,0,rfl,.inl rfl,BitsAt.none w'' 0,hb2⟩
  ·rcases er17 h0 with he | ⟨he,he2⟩
   ·have e0:ck2 r c I p s J = ckE r c I:=by
     unfold ck2
     rcases he with e | e <;> rw [e,if_neg (by decide)]
    rw [e0]
    refine (rleast_one r c p s (ckE r c I) ao bo I.length cap J.length d w' he (fun w'' hb2=>R1 w'' (hb.trans (hb2.mono hb.size)))).mono ?_
    rintro e w'' ⟨rfl,hb2⟩
    exact ⟨none,0,rfl,BitsAt.none w'' 0,hb2⟩
   ·have e0:ck2 r c I p s J = ckE p s J:=by
     unfold ck2
     rw [if_pos he]
    rw [e0]
    rw [he] at R1
    refine (rleast_two r c p s (ckE p s J) ao bo I.length cap J.length d w' he2 (fun w'' hb2=>R1 w'' (hb.trans (hb2.mono hb.size))) (fun w'' hb2=>R2 w'' (hb.trans (hb2.mono hb.size)))).mono ?_
    rintro e w'' ⟨rfl,hb2⟩
    exact ⟨none,0,rfl,BitsAt.none w'' 0,hb2⟩
end Go.Proofs.YtlnphkioddknfaaGreatDoor
namespace Go.Proofs.YtlnphkioddknfaaGreatDoor
open Go.ChangeShapes Go.WideShapes Go.ChangeAt Go.RowKit Go.Joins
theorem Tryz.own:ownKnob Tryz.prog.godebug = none:=by kernel_rfl
theorem Tryz.laidOut:laidOutB Tryz.prog = true:=by kernel_rfl
end Go.Proofs.YtlnphkioddknfaaGreatDoor
namespace Go.Proofs.YtlnphkioddknfaaGreatDoor
theorem bounds_of_i64 {x:Int} (h:(Lit.int .i64 x).wf = true):-9223372036854775808≤x∧x≤9223372036854775807:=by
 simp [Lit.wf,IntKind.min,IntKind.max,IntKind.signed,IntKind.bits] at h
 omega
end Go.Proofs.YtlnphkioddknfaaGreatDoor
