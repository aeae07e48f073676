/- Part 39 of the texts. -/
import Derived.Test.YtlnphkioddknfaaGreatDoorPartz38
import Derived.Test.YtlnphkioddknfaaGreatDoorPartz29
import Derived.Deep.RegionWith
import Derived.Deep.RegionLaw
import Derived.Test.YtlnphkioddknfaaGreatDoorChecked
import Derived.Test.YtlnphkioddknfaaGreatDoorPartz02
import Derived.ProofKit
import Derived.SizedLaws
import Derived.Lib.SmallJoins
set_option maxHeartbeats 16000000
set_option maxRecDepth 20000
namespace Go.Proofs.YtlnphkioddknfaaGreatDoor
open Go.RowKit
attribute [local go_sem ↓] Go.wp_at_zero Go.wp_at_succ
theorem bring_err (r c p q:Int) (ao bo:Option Addr) (k cap m d:Nat) (w:World) (er:Int) (her:er = 1 ∨ er = 4)
  (C1:∀ w',Below w.heap.size w w'→Calls Tryz.prog 94 #[.agg #[.int .i64 r,.int .i64 c,.slice ao k cap],.agg #[.int .i64 p,.int .i64 q,.slice bo m d]] w' fun e w''=>e = .returned (.int .i64 er)∧Below w'.heap.size w' w'') :
  Calls Tryz.prog 38 #[.agg #[.int .i64 r,.int .i64 c,.slice ao k cap],.agg #[.int .i64 p,.int .i64 q,.slice bo m d]] w fun e w'=>e = .returned (.tuple #[.agg #[.int .i64 0,.int .i64 0,.slice none 0 0,.int .i64 0,.int .i64 0,.slice none 0 0,.int .i64 0,.int .i64 0,.slice none 0 0,.int .i64 0,.int .i64 0,.slice none 0 0],.int .i64 er])∧Below w.heap.size w w':=by
 have HS:=hide (BgSt.start w (.int .i64 r) (.int .i64 c) (.slice ao k cap) (.int .i64 p) (.int .i64 q) (.slice bo m d))
 have K1:=hide C1
 clear C1
 rcases her with rfl | rfl
 all_goals
  go_enter Tryz.func38,Tryz.ntmps38
  have y0:=(uH HS).a.c0;have y1:=(uH HS).a.c1;have y2:=(uH HS).a.c2;have u0:=(uH HS).b.c0;have u1:=(uH HS).b.c1;have u2:=(uH HS).b.c2
  go_wp2_with fail
  clear y0 y1 y2 u0 u1 u2
  refine (uH K1 _ (uH HS).bel).mono ?_
  rintro e w1 ⟨rfl,hb⟩
  replace HS:=hide ((uH HS).all hb)
  clear hb K1
  have s0:=(uH HS).res.c 0 rfl;have s1:=(uH HS).res.c 1 rfl;have s2:=(uH HS).res.c 2 rfl;have s3:=(uH HS).res.c 3 rfl;have s4:=(uH HS).res.c 4 rfl;have s5:=(uH HS).res.c 5 rfl;have s6:=(uH HS).res.c 6 rfl;have s7:=(uH HS).res.c 7 rfl;have s8:=(uH HS).res.c 8 rfl;have s9:=(uH HS).res.c 9 rfl;have s10:=(uH HS).res.c 10 rfl;have s11:=(uH HS).res.c 11 rfl
  have f0:=(uH HS).res.free 0;have f1:=(uH HS).res.free 1;have f2:=(uH HS).res.free 2;have f3:=(uH HS).res.free 3;have f4:=(uH HS).res.free 4;have f5:=(uH HS).res.free 5;have f6:=(uH HS).res.free 6;have f7:=(uH HS).res.free 7;have f8:=(uH HS).res.free 8;have f9:=(uH HS).res.free 9;have f10:=(uH HS).res.free 10;have f11:=(uH HS).res.free 11
  have XP:BoxL 57 ((((((((((((w1.setCell ⟨w.heap.size+1+1,0,none⟩ (.int .i64 0)).setCell ⟨w.heap.size+1+1,1,none⟩ (.int .i64 0)).setCell ⟨w.heap.size+1+1,2,none⟩ (.slice none 0 0)).setCell ⟨w.heap.size+1+1,3,none⟩ (.int .i64 0)).setCell ⟨w.heap.size+1+1,4,none⟩ (.int .i64 0)).setCell ⟨w.heap.size+1+1,5,none⟩ (.slice none 0 0)).setCell ⟨w.heap.size+1+1,6,none⟩ (.int .i64 0)).setCell ⟨w.heap.size+1+1,7,none⟩ (.int .i64 0)).setCell ⟨w.heap.size+1+1,8,none⟩ (.slice none 0 0)).setCell ⟨w.heap.size+1+1,9,none⟩ (.int .i64 0)).setCell ⟨w.heap.size+1+1,10,none⟩ (.int .i64 0)).setCell ⟨w.heap.size+1+1,11,none⟩ (.slice none 0 0)) (w.heap.size+1+1) [.int .i64 0,.int .i64 0,.slice none 0 0,.int .i64 0,.int .i64 0,.slice none 0 0,.int .i64 0,.int .i64 0,.slice none 0 0,.int .i64 0,.int .i64 0,.slice none 0 0]:=(uH HS).res.full [.int .i64 0,.int .i64 0,.slice none 0 0,.int .i64 0,.int .i64 0,.slice none 0 0,.int .i64 0,.int .i64 0,.slice none 0 0,.int .i64 0,.int .i64 0,.slice none 0 0] rfl
  have BP:Below w.heap.size w ((((((((((((w1.setCell ⟨w.heap.size+1+1,0,none⟩ (.int .i64 0)).setCell ⟨w.heap.size+1+1,1,none⟩ (.int .i64 0)).setCell ⟨w.heap.size+1+1,2,none⟩ (.slice none 0 0)).setCell ⟨w.heap.size+1+1,3,none⟩ (.int .i64 0)).setCell ⟨w.heap.size+1+1,4,none⟩ (.int .i64 0)).setCell ⟨w.heap.size+1+1,5,none⟩ (.slice none 0 0)).setCell ⟨w.heap.size+1+1,6,none⟩ (.int .i64 0)).setCell ⟨w.heap.size+1+1,7,none⟩ (.int .i64 0)).setCell ⟨w.heap.size+1+1,8,none⟩ (.slice none 0 0)).setCell ⟨w.heap.size+1+1,9,none⟩ (.int .i64 0)).setCell ⟨w.heap.size+1+1,10,none⟩ (.int .i64 0)).setCell ⟨w.heap.size+1+1,11,none⟩ (.slice none 0 0)):=below_putL (b:=w.heap.size+1+1) (by omega) [.int .i64 0,.int .i64 0,.slice none 0 0,.int .i64 0,.int .i64 0,.slice none 0 0,.int .i64 0,.int .i64 0,.slice none 0 0,.int .i64 0,.int .i64 0,.slice none 0 0] 0 (uH HS).bel
  have z0:=XP.c 0 rfl;have z1:=XP.c 1 rfl;have z2:=XP.c 2 rfl;have z3:=XP.c 3 rfl;have z4:=XP.c 4 rfl;have z5:=XP.c 5 rfl;have z6:=XP.c 6 rfl;have z7:=XP.c 7 rfl;have z8:=XP.c 8 rfl;have z9:=XP.c 9 rfl;have z10:=XP.c 10 rfl;have z11:=XP.c 11 rfl
  replace BP:=hide BP
  clear XP HS
  go_wp2_with fail
  exact bodyPost_ret (v:=.tuple #[.agg #[.int .i64 0,.int .i64 0,.slice none 0 0,.int .i64 0,.int .i64 0,.slice none 0 0,.int .i64 0,.int .i64 0,.slice none 0 0,.int .i64 0,.int .i64 0,.slice none 0 0],.int .i64 _]) (by simp [results,Tryz.results38,go_sem,z0,z1,z2,z3,z4,z5,z6,z7,z8,z9,z10,z11]) rfl ⟨rfl,uH BP⟩
theorem bring_shape (r c p q:Int) (ao bo:Option Addr) (k cap m d:Nat) (w:World) (hs:(r == c) = false ∨ ((r == c) = true∧(p == q) = false) ∨ ((r == c) = true∧(p == q) = true∧(r != p) = true))
  (C1:∀ w',Below w.heap.size w w'→Calls Tryz.prog 94 #[.agg #[.int .i64 r,.int .i64 c,.slice ao k cap],.agg #[.int .i64 p,.int .i64 q,.slice bo m d]] w' fun e w''=>e = .returned (.int .i64 0)∧Below w'.heap.size w' w'') :
  Calls Tryz.prog 38 #[.agg #[.int .i64 r,.int .i64 c,.slice ao k cap],.agg #[.int .i64 p,.int .i64 q,.slice bo m d]] w fun e w'=>e = .returned (.tuple #[.agg #[.int .i64 0,.int .i64 0,.slice none 0 0,.int .i64 0,.int .i64 0,.slice none 0 0,.int .i64 0,.int .i64 0,.slice none 0 0,.int .i64 0,.int .i64 0,.slice none 0 0],.int .i64 3])∧Below w.heap.size w w':=by
 have HS:=hide (BgSt.start w (.int .i64 r) (.int .i64 c) (.slice ao k cap) (.int .i64 p) (.int .i64 q) (.slice bo m d))
 have K1:=hide C1
 have KA:=hide (fun w'=>hsquare_any r c ao k cap w');have KB:=hide (fun w'=>hsquare_any p q bo m d w')
 clear C1
 rcases hs with h1 | ⟨h1,h2⟩ | ⟨h1,h2,h3⟩
 ·rw [h1] at KA
  go_enter Tryz.func38,Tryz.ntmps38
  have y0:=(uH HS).a.c0;have y1:=(uH HS).a.c1;have y2:=(uH HS).a.c2;have u0:=(uH HS).b.c0;have u1:=(uH HS).b.c1;have u2:=(uH HS).b.c2
  go_wp2_with fail
  clear y0 y1 y2 u0 u1 u2
  refine (uH K1 _ (uH HS).bel).mono ?_
  rintro e w1 ⟨rfl,hb⟩
  replace HS:=hide ((uH HS).all hb)
  clear hb K1
  have y0:=(uH HS).a.c0;have y1:=(uH HS).a.c1;have y2:=(uH HS).a.c2;have u0:=(uH HS).b.c0;have u1:=(uH HS).b.c1;have u2:=(uH HS).b.c2
  go_wp2_with fail
  clear y0 y1 y2 u0 u1 u2
  refine (uH KA _).mono ?_
  rintro e wn ⟨rfl,hb⟩
  replace HS:=hide ((uH HS).all hb)
  clear hb
  have s0:=(uH HS).res.c 0 rfl;have s1:=(uH HS).res.c 1 rfl;have s2:=(uH HS).res.c 2 rfl;have s3:=(uH HS).res.c 3 rfl;have s4:=(uH HS).res.c 4 rfl;have s5:=(uH HS).res.c 5 rfl;have s6:=(uH HS).res.c 6 rfl;have s7:=(uH HS).res.c 7 rfl;have s8:=(uH HS).res.c 8 rfl;have s9:=(uH HS).res.c 9 rfl;have s10:=(uH HS).res.c 10 rfl;have s11:=(uH HS).res.c 11 rfl
  have f0:=(uH HS).res.free 0;have f1:=(uH HS).res.free 1;have f2:=(uH HS).res.free 2;have f3:=(uH HS).res.free 3;have f4:=(uH HS).res.free 4;have f5:=(uH HS).res.free 5;have f6:=(uH HS).res.free 6;have f7:=(uH HS).res.free 7;have f8:=(uH HS).res.free 8;have f9:=(uH HS).res.free 9;have f10:=(uH HS).res.free 10;have f11:=(uH HS).res.free 11
  have XP:BoxL 57 ((((((((((((wn.setCell ⟨w.heap.size+1+1,0,none⟩ (.int .i64 0)).setCell ⟨w.heap.size+1+1,1,none⟩ (.int .i64 0)).setCell ⟨w.heap.size+1+1,2,none⟩ (.slice none 0 0)).setCell ⟨w.heap.size+1+1,3,none⟩ (.int .i64 0)).setCell ⟨w.heap.size+1+1,4,none⟩ (.int .i64 0)).setCell ⟨w.heap.size+1+1,5,none⟩ (.slice none 0 0)).setCell ⟨w.heap.size+1+1,6,none⟩ (.int .i64 0)).setCell ⟨w.heap.size+1+1,7,none⟩ (.int .i64 0)).setCell ⟨w.heap.size+1+1,8,none⟩ (.slice none 0 0)).setCell ⟨w.heap.size+1+1,9,none⟩ (.int .i64 0)).setCell ⟨w.heap.size+1+1,10,none⟩ (.int .i64 0)).setCell ⟨w.heap.size+1+1,11,none⟩ (.slice none 0 0)) (w.heap.size+1+1) [.int .i64 0,.int .i64 0,.slice none 0 0,.int .i64 0,.int .i64 0,.slice none 0 0,.int .i64 0,.int .i64 0,.slice none 0 0,.int .i64 0,.int .i64 0,.slice none 0 0]:=(uH HS).res.full [.int .i64 0,.int .i64 0,.slice none 0 0,.int .i64 0,.int .i64 0,.slice none 0 0,.int .i64 0,.int .i64 0,.slice none 0 0,.int .i64 0,.int .i64 0,.slice none 0 0] rfl
  have BP:Below w.heap.size w ((((((((((((wn.setCell ⟨w.heap.size+1+1,0,none⟩ (.int .i64 0)).setCell ⟨w.heap.size+1+1,1,none⟩ (.int .i64 0)).setCell ⟨w.heap.size+1+1,2,none⟩ (.slice none 0 0)).setCell ⟨w.heap.size+1+1,3,none⟩ (.int .i64 0)).setCell ⟨w.heap.size+1+1,4,none⟩ (.int .i64 0)).setCell ⟨w.heap.size+1+1,5,none⟩ (.slice none 0 0)).setCell ⟨w.heap.size+1+1,6,none⟩ (.int .i64 0)).setCell ⟨w.heap.size+1+1,7,none⟩ (.int .i64 0)).setCell ⟨w.heap.size+1+1,8,none⟩ (.slice none 0 0)).setCell ⟨w.heap.size+1+1,9,none⟩ (.int .i64 0)).setCell ⟨w.heap.size+1+1,10,none⟩ (.int .i64 0)).setCell ⟨w.heap.size+1+1,11,none⟩ (.slice none 0 0)):=below_putL (b:=w.heap.size+1+1) (by omega) [.int .i64 0,.int .i64 0,.slice none 0 0,.int .i64 0,.int .i64 0,.slice none 0 0,.int .i64 0,.int .i64 0,.slice none 0 0,.int .i64 0,.int .i64 0,.slice none 0 0] 0 (uH HS).bel
  have z0:=XP.c 0 rfl;have z1:=XP.c 1 rfl;have z2:=XP.c 2 rfl;have z3:=XP.c 3 rfl;have z4:=XP.c 4 rfl;have z5:=XP.c 5 rfl;have z6:=XP.c 6 rfl;have z7:=XP.c 7 rfl;have z8:=XP.c 8 rfl;have z9:=XP.c 9 rfl;have z10:=XP.c 10 rfl;have z11:=XP.c 11 rfl
  replace BP:=hide BP
  clear XP HS
  go_wp2_with fail
  exact bodyPost_ret (v:=.tuple #[.agg #[.int .i64 0,.int .i64 0,.slice none 0 0,.int .i64 0,.int .i64 0,.slice none 0 0,.int .i64 0,.int .i64 0,.slice none 0 0,.int .i64 0,.int .i64 0,.slice none 0 0],.int .i64 3]) (by simp [results,Tryz.results38,go_sem,z0,z1,z2,z3,z4,z5,z6,z7,z8,z9,z10,z11]) rfl ⟨rfl,uH BP⟩
 ·rw [h1] at KA
  rw [h2] at KB
  go_enter Tryz.func38,Tryz.ntmps38
  have y0:=(uH HS).a.c0;have y1:=(uH HS).a.c1;have y2:=(uH HS).a.c2;have u0:=(uH HS).b.c0;have u1:=(uH HS).b.c1;have u2:=(uH HS).b.c2
  go_wp2_with fail
  clear y0 y1 y2 u0 u1 u2
  refine (uH K1 _ (uH HS).bel).mono ?_
  rintro e w1 ⟨rfl,hb⟩
  replace HS:=hide ((uH HS).all hb)
  clear hb K1
  have y0:=(uH HS).a.c0;have y1:=(uH HS).a.c1;have y2:=(uH HS).a.c2;have u0:=(uH HS).b.c0;have u1:=(uH HS).b.c1;have u2:=(uH HS).b.c2
  go_wp2_with fail
  clear y0 y1 y2 u0 u1 u2
  refine (uH KA _).mono ?_
  rintro e wn ⟨rfl,hb⟩
  replace HS:=hide ((uH HS).all hb)
  clear hb
  have y0:=(uH HS).a.c0;have y1:=(uH HS).a.c1;have y2:=(uH HS).a.c2;have u0:=(uH HS).b.c0;have u1:=(uH HS).b.c1;have u2:=(uH HS).b.c2
  go_wp2_with fail
  clear y0 y1 y2 u0 u1 u2
  refine (uH KB _).mono ?_
  rintro e wn ⟨rfl,hb⟩
  replace HS:=hide ((uH HS).all hb)
  clear hb
  have s0:=(uH HS).res.c 0 rfl;have s1:=(uH HS).res.c 1 rfl;have s2:=(uH HS).res.c 2 rfl;have s3:=(uH HS).res.c 3 rfl;have s4:=(uH HS).res.c 4 rfl;have s5:=(uH HS).res.c 5 rfl;have s6:=(uH HS).res.c 6 rfl;have s7:=(uH HS).res.c 7 rfl;have s8:=(uH HS).res.c 8 rfl;have s9:=(uH HS).res.c 9 rfl;have s10:=(uH HS).res.c 10 rfl;have s11:=(uH HS).res.c 11 rfl
  have f0:=(uH HS).res.free 0;have f1:=(uH HS).res.free 1;have f2:=(uH HS).res.free 2;have f3:=(uH HS).res.free 3;have f4:=(uH HS).res.free 4;have f5:=(uH HS).res.free 5;have f6:=(uH HS).res.free 6;have f7:=(uH HS).res.free 7;have f8:=(uH HS).res.free 8;have f9:=(uH HS).res.free 9;have f10:=(uH HS).res.free 10;have f11:=(uH HS).res.free 11
  have XP:BoxL 57 ((((((((((((wn.setCell ⟨w.heap.size+1+1,0,none⟩ (.int .i64 0)).setCell ⟨w.heap.size+1+1,1,none⟩ (.int .i64 0)).setCell ⟨w.heap.size+1+1,2,none⟩ (.slice none 0 0)).setCell ⟨w.heap.size+1+1,3,none⟩ (.int .i64 0)).setCell ⟨w.heap.size+1+1,4,none⟩ (.int .i64 0)).setCell ⟨w.heap.size+1+1,5,none⟩ (.slice none 0 0)).setCell ⟨w.heap.size+1+1,6,none⟩ (.int .i64 0)).setCell ⟨w.heap.size+1+1,7,none⟩ (.int .i64 0)).setCell ⟨w.heap.size+1+1,8,none⟩ (.slice none 0 0)).setCell ⟨w.heap.size+1+1,9,none⟩ (.int .i64 0)).setCell ⟨w.heap.size+1+1,10,none⟩ (.int .i64 0)).setCell ⟨w.heap.size+1+1,11,none⟩ (.slice none 0 0)) (w.heap.size+1+1) [.int .i64 0,.int .i64 0,.slice none 0 0,.int .i64 0,.int .i64 0,.slice none 0 0,.int .i64 0,.int .i64 0,.slice none 0 0,.int .i64 0,.int .i64 0,.slice none 0 0]:=(uH HS).res.full [.int .i64 0,.int .i64 0,.slice none 0 0,.int .i64 0,.int .i64 0,.slice none 0 0,.int .i64 0,.int .i64 0,.slice none 0 0,.int .i64 0,.int .i64 0,.slice none 0 0] rfl
  have BP:Below w.heap.size w ((((((((((((wn.setCell ⟨w.heap.size+1+1,0,none⟩ (.int .i64 0)).setCell ⟨w.heap.size+1+1,1,none⟩ (.int .i64 0)).setCell ⟨w.heap.size+1+1,2,none⟩ (.slice none 0 0)).setCell ⟨w.heap.size+1+1,3,none⟩ (.int .i64 0)).setCell ⟨w.heap.size+1+1,4,none⟩ (.int .i64 0)).setCell ⟨w.heap.size+1+1,5,none⟩ (.slice none 0 0)).setCell ⟨w.heap.size+1+1,6,none⟩ (.int .i64 0)).setCell ⟨w.heap.size+1+1,7,none⟩ (.int .i64 0)).setCell ⟨w.heap.size+1+1,8,none⟩ (.slice none 0 0)).setCell ⟨w.heap.size+1+1,9,none⟩ (.int .i64 0)).setCell ⟨w.heap.size+1+1,10,none⟩ (.int .i64 0)).setCell ⟨w.heap.size+1+1,11,none⟩ (.slice none 0 0)):=below_putL (b:=w.heap.size+1+1) (by omega) [.int .i64 0,.int .i64 0,.slice none 0 0,.int .i64 0,.int .i64 0,.slice none 0 0,.int .i64 0,.int .i64 0,.slice none 0 0,.int .i64 0,.int .i64 0,.slice none 0 0] 0 (uH HS).bel
  have z0:=XP.c 0 rfl;have z1:=XP.c 1 rfl;have z2:=XP.c 2 rfl;have z3:=XP.c 3 rfl;have z4:=XP.c 4 rfl;have z5:=XP.c 5 rfl;have z6:=XP.c 6 rfl;have z7:=XP.c 7 rfl;have z8:=XP.c 8 rfl;have z9:=XP.c 9 rfl;have z10:=XP.c 10 rfl;have z11:=XP.c 11 rfl
  replace BP:=hide BP
  clear XP HS
  go_wp2_with fail
  exact bodyPost_ret (v:=.tuple #[.agg #[.int .i64 0,.int .i64 0,.slice none 0 0,.int .i64 0,.int .i64 0,.slice none 0 0,.int .i64 0,.int .i64 0,.slice none 0 0,.int .i64 0,.int .i64 0,.slice none 0 0],.int .i64 3]) (by simp [results,Tryz.results38,go_sem,z0,z1,z2,z3,z4,z5,z6,z7,z8,z9,z10,z11]) rfl ⟨rfl,uH BP⟩
 ·rw [h1] at KA
  rw [h2] at KB
  go_enter Tryz.func38,Tryz.ntmps38
  have y0:=(uH HS).a.c0;have y1:=(uH HS).a.c1;have y2:=(uH HS).a.c2;have u0:=(uH HS).b.c0;have u1:=(uH HS).b.c1;have u2:=(uH HS).b.c2
  go_wp2_with fail
  clear y0 y1 y2 u0 u1 u2
  refine (uH K1 _ (uH HS).bel).mono ?_
  rintro e w1 ⟨rfl,hb⟩
  replace HS:=hide ((uH HS).all hb)
  clear hb K1
  have y0:=(uH HS).a.c0;have y1:=(uH HS).a.c1;have y2:=(uH HS).a.c2;have u0:=(uH HS).b.c0;have u1:=(uH HS).b.c1;have u2:=(uH HS).b.c2
  go_wp2_with fail
  clear y0 y1 y2 u0 u1 u2
  refine (uH KA _).mono ?_
  rintro e wn ⟨rfl,hb⟩
  replace HS:=hide ((uH HS).all hb)
  clear hb
  have y0:=(uH HS).a.c0;have y1:=(uH HS).a.c1;have y2:=(uH HS).a.c2;have u0:=(uH HS).b.c0;have u1:=(uH HS).b.c1;have u2:=(uH HS).b.c2
  go_wp2_with fail
  clear y0 y1 y2 u0 u1 u2
  refine (uH KB _).mono ?_
  rintro e wn ⟨rfl,hb⟩
  replace HS:=hide ((uH HS).all hb)
  clear hb
  have y0:=(uH HS).a.c0;have y1:=(uH HS).a.c1;have y2:=(uH HS).a.c2;have u0:=(uH HS).b.c0;have u1:=(uH HS).b.c1;have u2:=(uH HS).b.c2
  have s0:=(uH HS).res.c 0 rfl;have s1:=(uH HS).res.c 1 rfl;have s2:=(uH HS).res.c 2 rfl;have s3:=(uH HS).res.c 3 rfl;have s4:=(uH HS).res.c 4 rfl;have s5:=(uH HS).res.c 5 rfl;have s6:=(uH HS).res.c 6 rfl;have s7:=(uH HS).res.c 7 rfl;have s8:=(uH HS).res.c 8 rfl;have s9:=(uH HS).res.c 9 rfl;have s10:=(uH HS).res.c 10 rfl;have s11:=(uH HS).res.c 11 rfl
  have f0:=(uH HS).res.free 0;have f1:=(uH HS).res.free 1;have f2:=(uH HS).res.free 2;have f3:=(uH HS).res.free 3;have f4:=(uH HS).res.free 4;have f5:=(uH HS).res.free 5;have f6:=(uH HS).res.free 6;have f7:=(uH HS).res.free 7;have f8:=(uH HS).res.free 8;have f9:=(uH HS).res.free 9;have f10:=(uH HS).res.free 10;have f11:=(uH HS).res.free 11
  have XP:BoxL 57 ((((((((((((wn.setCell ⟨w.heap.size+1+1,0,none⟩ (.int .i64 0)).setCell ⟨w.heap.size+1+1,1,none⟩ (.int .i64 0)).setCell ⟨w.heap.size+1+1,2,none⟩ (.slice none 0 0)).setCell ⟨w.heap.size+1+1,3,none⟩ (.int .i64 0)).setCell ⟨w.heap.size+1+1,4,none⟩ (.int .i64 0)).setCell ⟨w.heap.size+1+1,5,none⟩ (.slice none 0 0)).setCell ⟨w.heap.size+1+1,6,none⟩ (.int .i64 0)).setCell ⟨w.heap.size+1+1,7,none⟩ (.int .i64 0)).setCell ⟨w.heap.size+1+1,8,none⟩ (.slice none 0 0)).setCell ⟨w.heap.size+1+1,9,none⟩ (.int .i64 0)).setCell ⟨w.heap.size+1+1,10,none⟩ (.int .i64 0)).setCell ⟨w.heap.size+1+1,11,none⟩ (.slice none 0 0)) (w.heap.size+1+1) [.int .i64 0,.int .i64 0,.slice none 0 0,.int .i64 0,.int .i64 0,.slice none 0 0,.int .i64 0,.int .i64 0,.slice none 0 0,.int .i64 0,.int .i64 0,.slice none 0 0]:=(uH HS).res.full [.int .i64 0,.int .i64 0,.slice none 0 0,.int .i64 0,.int .i64 0,.slice none 0 0,.int .i64 0,.int .i64 0,.slice none 0 0,.int .i64 0,.int .i64 0,.slice none 0 0] rfl
  have BP:Below w.heap.size w ((((((((((((wn.setCell ⟨w.heap.size+1+1,0,none⟩ (.int .i64 0)).setCell ⟨w.heap.size+1+1,1,none⟩ (.int .i64 0)).setCell ⟨w.heap.size+1+1,2,none⟩ (.slice none 0 0)).setCell ⟨w.heap.size+1+1,3,none⟩ (.int .i64 0)).setCell ⟨w.heap.size+1+1,4,none⟩ (.int .i64 0)).setCell ⟨w.heap.size+1+1,5,none⟩ (.slice none 0 0)).setCell ⟨w.heap.size+1+1,6,none⟩ (.int .i64 0)).setCell ⟨w.heap.size+1+1,7,none⟩ (.int .i64 0)).setCell ⟨w.heap.size+1+1,8,none⟩ (.slice none 0 0)).setCell ⟨w.heap.size+1+1,9,none⟩ (.int .i64 0)).setCell ⟨w.heap.size+1+1,10,none⟩ (.int .i64 0)).setCell ⟨w.heap.size+1+1,11,none⟩ (.slice none 0 0)):=below_putL (b:=w.heap.size+1+1) (by omega) [.int .i64 0,.int .i64 0,.slice none 0 0,.int .i64 0,.int .i64 0,.slice none 0 0,.int .i64 0,.int .i64 0,.slice none 0 0,.int .i64 0,.int .i64 0,.slice none 0 0] 0 (uH HS).bel
  have z0:=XP.c 0 rfl;have z1:=XP.c 1 rfl;have z2:=XP.c 2 rfl;have z3:=XP.c 3 rfl;have z4:=XP.c 4 rfl;have z5:=XP.c 5 rfl;have z6:=XP.c 6 rfl;have z7:=XP.c 7 rfl;have z8:=XP.c 8 rfl;have z9:=XP.c 9 rfl;have z10:=XP.c 10 rfl;have z11:=XP.c 11 rfl
  replace BP:=hide BP
  clear XP HS
  go_wp2_with fail
  exact bodyPost_ret (v:=.tuple #[.agg #[.int .i64 0,.int .i64 0,.slice none 0 0,.int .i64 0,.int .i64 0,.slice none 0 0,.int .i64 0,.int .i64 0,.slice none 0 0,.int .i64 0,.int .i64 0,.slice none 0 0],.int .i64 3]) (by simp [results,Tryz.results38,go_sem,z0,z1,z2,z3,z4,z5,z6,z7,z8,z9,z10,z11]) rfl ⟨rfl,uH BP⟩
def BrAns (w w':World) (ok:Bool) (n N:Nat) (s:Hs) (e:Ending):Prop :=
 (ok = true∧∃ ho uo qo zo hc tc qc zc,e = .returned (.tuple #[.agg #[.int .i64 n,.int .i64 n,.slice ho N hc,.int .i64 n,.int .i64 n,.slice uo N tc,.int .i64 n,.int .i64 n,.slice qo N qc,.int .i64 n,.int .i64 n,.slice zo N zc],.int .i64 0])∧HvAt w.heap.size w' N false false s ho uo qo zo hc tc qc zc) ∨ (ok = false∧e = .returned (.tuple #[.agg #[.int .i64 0,.int .i64 0,.slice none 0 0,.int .i64 0,.int .i64 0,.slice none 0 0,.int .i64 0,.int .i64 0,.slice none 0 0,.int .i64 0,.int .i64 0,.slice none 0 0],.int .i64 2]))
theorem bring_of (n N ac bc:Nat) (ao bo:Option Addr) (kt okB okT okF:Bool) (sb0 sb1:Hs) (w:World)
  (C1:∀ w',Below w.heap.size w w'→Calls Tryz.prog 94 #[.agg #[.int .i64 n,.int .i64 n,.slice ao N ac],.agg #[.int .i64 n,.int .i64 n,.slice bo N bc]] w' fun e w''=>e = .returned (.int .i64 0)∧Below w'.heap.size w' w'')
  (C2:∀ w',Below w.heap.size w w'→Calls Tryz.prog 96 #[.agg #[.int .i64 n,.int .i64 n,.slice ao N ac],.agg #[.int .i64 n,.int .i64 n,.slice bo N bc]] w' fun e w''=>((okB = true∧∃ ho uo qo zo hc tc qc zc,e = .returned (.tuple #[.agg #[.int .i64 n,.int .i64 n,.slice ho N hc,.int .i64 n,.int .i64 n,.slice uo N tc,.int .i64 n,.int .i64 n,.slice qo N qc,.int .i64 n,.int .i64 n,.slice zo N zc],.int .i64 0])∧HvAt w'.heap.size w'' N false kt sb0 ho uo qo zo hc tc qc zc) ∨ (okB = false∧e = .returned (.tuple #[.agg #[.int .i64 0,.int .i64 0,.slice none 0 0,.int .i64 0,.int .i64 0,.slice none 0 0,.int .i64 0,.int .i64 0,.slice none 0 0,.int .i64 0,.int .i64 0,.slice none 0 0],.int .i64 2])))∧Below w'.heap.size w' w'')
  (C3:∀ base w' (ho uo qo zo:Option Addr) (hc tc qc zc:Nat),base≤w'.heap.size→Below w.heap.size w w'→HvAt base w' N false kt sb0 ho uo qo zo hc tc qc zc→Calls Tryz.prog 97 #[.agg #[.int .i64 n,.int .i64 n,.slice ho N hc,.int .i64 n,.int .i64 n,.slice uo N tc,.int .i64 n,.int .i64 n,.slice qo N qc,.int .i64 n,.int .i64 n,.slice zo N zc]] w' fun e w''=>TvAns base w'' okT n N sb1 e∧Below base w' w'')
  (C4:∀ base w' (ho uo qo zo:Option Addr) (hc tc qc zc:Nat),HvAt base w' N false false sb1 ho uo qo zo hc tc qc zc→Calls Tryz.prog 98 #[.agg #[.int .i64 n,.int .i64 n,.slice ho N hc,.int .i64 n,.int .i64 n,.slice uo N tc,.int .i64 n,.int .i64 n,.slice qo N qc,.int .i64 n,.int .i64 n,.slice zo N zc]] w' fun e w''=>e = .returned (.bool okF)∧Below w'.heap.size w' w'') :
  Calls Tryz.prog 38 #[.agg #[.int .i64 n,.int .i64 n,.slice ao N ac],.agg #[.int .i64 n,.int .i64 n,.slice bo N bc]] w fun e w'=>BrAns w w' (okB && (okT && okF)) n N sb1 e∧Below w.heap.size w w':=by
 have HS:=hide (BgSt.start w (.int .i64 n) (.int .i64 n) (.slice ao N ac) (.int .i64 n) (.int .i64 n) (.slice bo N bc))
 have K1:=hide C1;have K2:=hide C2;have K3:=hide C3;have K4:=hide C4
 have KA:=hide (fun w'=>hsquare_any n n ao N ac w');have KB:=hide (fun w'=>hsquare_any n n bo N bc w')
 have hnn:((n:Int) == (n:Int)) = true:=by simp
 have hne:((n:Int) != (n:Int)) = false:=by simp
 rw [hnn] at KA KB
 clear C1 C2 C3 C4 hnn
 go_enter Tryz.func38,Tryz.ntmps38
 have y0:=(uH HS).a.c0;have y1:=(uH HS).a.c1;have y2:=(uH HS).a.c2;have u0:=(uH HS).b.c0;have u1:=(uH HS).b.c1;have u2:=(uH HS).b.c2
 go_wp2_with fail
 clear y0 y1 y2 u0 u1 u2
 refine (uH K1 _ (uH HS).bel).mono ?_
 rintro e w1 ⟨rfl,hb⟩
 replace HS:=hide ((uH HS).all hb)
 clear hb K1
 have y0:=(uH HS).a.c0;have y1:=(uH HS).a.c1;have y2:=(uH HS).a.c2;have u0:=(uH HS).b.c0;have u1:=(uH HS).b.c1;have u2:=(uH HS).b.c2
 go_wp2_with fail
 clear y0 y1 y2 u0 u1 u2
 refine (uH KA _).mono ?_
 rintro e wn ⟨rfl,hb⟩
 replace HS:=hide ((uH HS).all hb)
 clear hb
 have y0:=(uH HS).a.c0;have y1:=(uH HS).a.c1;have y2:=(uH HS).a.c2;have u0:=(uH HS).b.c0;have u1:=(uH HS).b.c1;have u2:=(uH HS).b.c2
 go_wp2_with fail
 clear y0 y1 y2 u0 u1 u2
 refine (uH KB _).mono ?_
 rintro e wn ⟨rfl,hb⟩
 replace HS:=hide ((uH HS).all hb)
 clear hb
 have y0:=(uH HS).a.c0;have y1:=(uH HS).a.c1;have y2:=(uH HS).a.c2;have u0:=(uH HS).b.c0;have u1:=(uH HS).b.c1;have u2:=(uH HS).b.c2
 go_wp2_with fail
 clear y0 y1 y2 u0 u1 u2
 refine (uH K2 _ (uH HS).bel).mono ?_
 rintro e w3 ⟨hans,hb⟩
 have SZ:=hide (show w.heap.size≤_ from (uH HS).bel.size)
 have HLT:=hide (uH HS).res.lt
 have SQ:=hide hb.size
 replace HS:=hide ((uH HS).all hb)
 clear hb K2 hne
 rcases hans with ⟨hB,ho,uo,qo,zo,hc,tc,qc,zc,rfl,hv⟩ | ⟨hB,rfl⟩
 ·have ba:=below_alloc9 w3 (.cells #[.int .i64 n,.int .i64 n,.slice ho N hc,.int .i64 n,.int .i64 n,.slice uo N tc,.int .i64 n,.int .i64 n,.slice qo N qc,.int .i64 n,.int .i64 n,.slice zo N zc] 57)
  have XF:=hide (BoxL.new 57 w3 [.int .i64 n,.int .i64 n,.slice ho N hc,.int .i64 n,.int .i64 n,.slice uo N tc,.int .i64 n,.int .i64 n,.slice qo N qc,.int .i64 n,.int .i64 n,.slice zo N zc])
  have HV:=hide (hv.all ba)
  have HBB:=hide hB
  replace HS:=hide ((uH HS).all ba)
  replace SQ:=hide (Nat.le_trans (uH SQ) ba.size)
  clear ba hv hB
  have y0:=(uH XF).c 0 rfl;have y1:=(uH XF).c 1 rfl;have y2:=(uH XF).c 2 rfl;have y3:=(uH XF).c 3 rfl;have y4:=(uH XF).c 4 rfl;have y5:=(uH XF).c 5 rfl;have y6:=(uH XF).c 6 rfl;have y7:=(uH XF).c 7 rfl;have y8:=(uH XF).c 8 rfl;have y9:=(uH XF).c 9 rfl;have y10:=(uH XF).c 10 rfl;have y11:=(uH XF).c 11 rfl
  go_wp2_with fail
  clear y0 y1 y2 y3 y4 y5 y6 y7 y8 y9 y10 y11
  refine (uH K3 _ _ ho uo qo zo hc tc qc zc (uH SQ) (uH HS).bel (uH HV)).mono ?_
  rintro e w4 ⟨hans,hb⟩
  replace HS:=hide (show BgSt w w4 (.int .i64 n) (.int .i64 n) (.slice ao N ac) (.int .i64 n) (.int .i64 n) (.slice bo N bc) from ⟨(uH HS).bel.trans (hb.mono (uH SZ)),(uH HS).a.below hb (by have:=uH HLT;omega),(uH HS).b.below hb (by have:=uH HLT;omega),(uH HS).res.below hb (by have:=uH HLT;omega)⟩)
  clear hb K3 XF HV
  rcases hans with ⟨hTk,ho,uo,qo,zo,hc,tc,qc,zc,rfl,hv⟩ | ⟨hTk,rfl⟩
  ·have ba:=below_alloc9 w4 (.cells #[.int .i64 n,.int .i64 n,.slice ho N hc,.int .i64 n,.int .i64 n,.slice uo N tc,.int .i64 n,.int .i64 n,.slice qo N qc,.int .i64 n,.int .i64 n,.slice zo N zc] 57)
   have XF:=hide (BoxL.new 57 w4 [.int .i64 n,.int .i64 n,.slice ho N hc,.int .i64 n,.int .i64 n,.slice uo N tc,.int .i64 n,.int .i64 n,.slice qo N qc,.int .i64 n,.int .i64 n,.slice zo N zc])
   have HV:=hide (hv.all ba)
   have HTT:=hide hTk
   replace HS:=hide ((uH HS).all ba)
   clear ba hv hTk
   have y0:=(uH XF).c 0 rfl;have y1:=(uH XF).c 1 rfl;have y2:=(uH XF).c 2 rfl;have y3:=(uH XF).c 3 rfl;have y4:=(uH XF).c 4 rfl;have y5:=(uH XF).c 5 rfl;have y6:=(uH XF).c 6 rfl;have y7:=(uH XF).c 7 rfl;have y8:=(uH XF).c 8 rfl;have y9:=(uH XF).c 9 rfl;have y10:=(uH XF).c 10 rfl;have y11:=(uH XF).c 11 rfl
   go_wp2_with fail
   clear y0 y1 y2 y3 y4 y5 y6 y7 y8 y9 y10 y11
   refine (uH K4 _ _ ho uo qo zo hc tc qc zc (uH HV)).mono ?_
   rintro e w5 ⟨rfl,hb⟩
   replace HS:=hide ((uH HS).all hb);replace XF:=hide ((uH XF).all hb);replace HV:=hide ((uH HV).all hb)
   clear hb K4
   cases hF:okF with
   | true =>
    have EB:=hide (show (okB && (okT && okF)) = true by rw [uH HBB,uH HTT,hF];rfl)
    have XFF:=uH XF
    have y0:=XFF.c 0 rfl;have y1:=XFF.c 1 rfl;have y2:=XFF.c 2 rfl;have y3:=XFF.c 3 rfl;have y4:=XFF.c 4 rfl;have y5:=XFF.c 5 rfl;have y6:=XFF.c 6 rfl;have y7:=XFF.c 7 rfl;have y8:=XFF.c 8 rfl;have y9:=XFF.c 9 rfl;have y10:=XFF.c 10 rfl;have y11:=XFF.c 11 rfl
    have s0:=(uH HS).res.c 0 rfl;have s1:=(uH HS).res.c 1 rfl;have s2:=(uH HS).res.c 2 rfl;have s3:=(uH HS).res.c 3 rfl;have s4:=(uH HS).res.c 4 rfl;have s5:=(uH HS).res.c 5 rfl;have s6:=(uH HS).res.c 6 rfl;have s7:=(uH HS).res.c 7 rfl;have s8:=(uH HS).res.c 8 rfl;have s9:=(uH HS).res.c 9 rfl;have s10:=(uH HS).res.c 10 rfl;have s11:=(uH HS).res.c 11 rfl
    have f0:=(uH HS).res.free 0;have f1:=(uH HS).res.free 1;have f2:=(uH HS).res.free 2;have f3:=(uH HS).res.free 3;have f4:=(uH HS).res.free 4;have f5:=(uH HS).res.free 5;have f6:=(uH HS).res.free 6;have f7:=(uH HS).res.free 7;have f8:=(uH HS).res.free 8;have f9:=(uH HS).res.free 9;have f10:=(uH HS).res.free 10;have f11:=(uH HS).res.free 11
    have XP:BoxL 57 ((((((((((((w5.setCell ⟨w.heap.size+1+1,0,none⟩ (.int .i64 n)).setCell ⟨w.heap.size+1+1,1,none⟩ (.int .i64 n)).setCell ⟨w.heap.size+1+1,2,none⟩ (.slice ho N hc)).setCell ⟨w.heap.size+1+1,3,none⟩ (.int .i64 n)).setCell ⟨w.heap.size+1+1,4,none⟩ (.int .i64 n)).setCell ⟨w.heap.size+1+1,5,none⟩ (.slice uo N tc)).setCell ⟨w.heap.size+1+1,6,none⟩ (.int .i64 n)).setCell ⟨w.heap.size+1+1,7,none⟩ (.int .i64 n)).setCell ⟨w.heap.size+1+1,8,none⟩ (.slice qo N qc)).setCell ⟨w.heap.size+1+1,9,none⟩ (.int .i64 n)).setCell ⟨w.heap.size+1+1,10,none⟩ (.int .i64 n)).setCell ⟨w.heap.size+1+1,11,none⟩ (.slice zo N zc)) (w.heap.size+1+1) [.int .i64 n,.int .i64 n,.slice ho N hc,.int .i64 n,.int .i64 n,.slice uo N tc,.int .i64 n,.int .i64 n,.slice qo N qc,.int .i64 n,.int .i64 n,.slice zo N zc]:=(uH HS).res.full [.int .i64 n,.int .i64 n,.slice ho N hc,.int .i64 n,.int .i64 n,.slice uo N tc,.int .i64 n,.int .i64 n,.slice qo N qc,.int .i64 n,.int .i64 n,.slice zo N zc] rfl
    have BP:Below w.heap.size w ((((((((((((w5.setCell ⟨w.heap.size+1+1,0,none⟩ (.int .i64 n)).setCell ⟨w.heap.size+1+1,1,none⟩ (.int .i64 n)).setCell ⟨w.heap.size+1+1,2,none⟩ (.slice ho N hc)).setCell ⟨w.heap.size+1+1,3,none⟩ (.int .i64 n)).setCell ⟨w.heap.size+1+1,4,none⟩ (.int .i64 n)).setCell ⟨w.heap.size+1+1,5,none⟩ (.slice uo N tc)).setCell ⟨w.heap.size+1+1,6,none⟩ (.int .i64 n)).setCell ⟨w.heap.size+1+1,7,none⟩ (.int .i64 n)).setCell ⟨w.heap.size+1+1,8,none⟩ (.slice qo N qc)).setCell ⟨w.heap.size+1+1,9,none⟩ (.int .i64 n)).setCell ⟨w.heap.size+1+1,10,none⟩ (.int .i64 n)).setCell ⟨w.heap.size+1+1,11,none⟩ (.slice zo N zc)):=below_putL (b:=w.heap.size+1+1) (by omega) [.int .i64 n,.int .i64 n,.slice ho N hc,.int .i64 n,.int .i64 n,.slice uo N tc,.int .i64 n,.int .i64 n,.slice qo N qc,.int .i64 n,.int .i64 n,.slice zo N zc] 0 (uH HS).bel
    have VP:HvAt _ ((((((((((((w5.setCell ⟨w.heap.size+1+1,0,none⟩ (.int .i64 n)).setCell ⟨w.heap.size+1+1,1,none⟩ (.int .i64 n)).setCell ⟨w.heap.size+1+1,2,none⟩ (.slice ho N hc)).setCell ⟨w.heap.size+1+1,3,none⟩ (.int .i64 n)).setCell ⟨w.heap.size+1+1,4,none⟩ (.int .i64 n)).setCell ⟨w.heap.size+1+1,5,none⟩ (.slice uo N tc)).setCell ⟨w.heap.size+1+1,6,none⟩ (.int .i64 n)).setCell ⟨w.heap.size+1+1,7,none⟩ (.int .i64 n)).setCell ⟨w.heap.size+1+1,8,none⟩ (.slice qo N qc)).setCell ⟨w.heap.size+1+1,9,none⟩ (.int .i64 n)).setCell ⟨w.heap.size+1+1,10,none⟩ (.int .i64 n)).setCell ⟨w.heap.size+1+1,11,none⟩ (.slice zo N zc)) N false false sb1 ho uo qo zo hc tc qc zc:=(uH HV).putR (uH HS).res [.int .i64 n,.int .i64 n,.slice ho N hc,.int .i64 n,.int .i64 n,.slice uo N tc,.int .i64 n,.int .i64 n,.slice qo N qc,.int .i64 n,.int .i64 n,.slice zo N zc]
    have VQ:=hide (VP.least (uH SZ))
    have z0:=XP.c 0 rfl;have z1:=XP.c 1 rfl;have z2:=XP.c 2 rfl;have z3:=XP.c 3 rfl;have z4:=XP.c 4 rfl;have z5:=XP.c 5 rfl;have z6:=XP.c 6 rfl;have z7:=XP.c 7 rfl;have z8:=XP.c 8 rfl;have z9:=XP.c 9 rfl;have z10:=XP.c 10 rfl;have z11:=XP.c 11 rfl
    replace BP:=hide BP
    clear XP VP XFF HV HS XF
    go_wp2_with fail
    exact bodyPost_ret (v:=.tuple #[.agg #[.int .i64 n,.int .i64 n,.slice ho N hc,.int .i64 n,.int .i64 n,.slice uo N tc,.int .i64 n,.int .i64 n,.slice qo N qc,.int .i64 n,.int .i64 n,.slice zo N zc],.int .i64 0]) (by simp [results,Tryz.results38,go_sem,z0,z1,z2,z3,z4,z5,z6,z7,z8,z9,z10,z11]) rfl ⟨.inl ⟨by first | exact uH EB | (rw [← hF];exact uH EB),ho,uo,qo,zo,hc,tc,qc,zc,rfl,uH VQ⟩,uH BP⟩
   | false =>
    have EB:=hide (show (okB && (okT && okF)) = false by rw [hF];cases okB <;> cases okT <;> rfl)
    clear XF HV
    have s0:=(uH HS).res.c 0 rfl;have s1:=(uH HS).res.c 1 rfl;have s2:=(uH HS).res.c 2 rfl;have s3:=(uH HS).res.c 3 rfl;have s4:=(uH HS).res.c 4 rfl;have s5:=(uH HS).res.c 5 rfl;have s6:=(uH HS).res.c 6 rfl;have s7:=(uH HS).res.c 7 rfl;have s8:=(uH HS).res.c 8 rfl;have s9:=(uH HS).res.c 9 rfl;have s10:=(uH HS).res.c 10 rfl;have s11:=(uH HS).res.c 11 rfl
    have f0:=(uH HS).res.free 0;have f1:=(uH HS).res.free 1;have f2:=(uH HS).res.free 2;have f3:=(uH HS).res.free 3;have f4:=(uH HS).res.free 4;have f5:=(uH HS).res.free 5;have f6:=(uH HS).res.free 6;have f7:=(uH HS).res.free 7;have f8:=(uH HS).res.free 8;have f9:=(uH HS).res.free 9;have f10:=(uH HS).res.free 10;have f11:=(uH HS).res.free 11
    have XP:BoxL 57 ((((((((((((w5.setCell ⟨w.heap.size+1+1,0,none⟩ (.int .i64 0)).setCell ⟨w.heap.size+1+1,1,none⟩ (.int .i64 0)).setCell ⟨w.heap.size+1+1,2,none⟩ (.slice none 0 0)).setCell ⟨w.heap.size+1+1,3,none⟩ (.int .i64 0)).setCell ⟨w.heap.size+1+1,4,none⟩ (.int .i64 0)).setCell ⟨w.heap.size+1+1,5,none⟩ (.slice none 0 0)).setCell ⟨w.heap.size+1+1,6,none⟩ (.int .i64 0)).setCell ⟨w.heap.size+1+1,7,none⟩ (.int .i64 0)).setCell ⟨w.heap.size+1+1,8,none⟩ (.slice none 0 0)).setCell ⟨w.heap.size+1+1,9,none⟩ (.int .i64 0)).setCell ⟨w.heap.size+1+1,10,none⟩ (.int .i64 0)).setCell ⟨w.heap.size+1+1,11,none⟩ (.slice none 0 0)) (w.heap.size+1+1) [.int .i64 0,.int .i64 0,.slice none 0 0,.int .i64 0,.int .i64 0,.slice none 0 0,.int .i64 0,.int .i64 0,.slice none 0 0,.int .i64 0,.int .i64 0,.slice none 0 0]:=(uH HS).res.full [.int .i64 0,.int .i64 0,.slice none 0 0,.int .i64 0,.int .i64 0,.slice none 0 0,.int .i64 0,.int .i64 0,.slice none 0 0,.int .i64 0,.int .i64 0,.slice none 0 0] rfl
    have BP:Below w.heap.size w ((((((((((((w5.setCell ⟨w.heap.size+1+1,0,none⟩ (.int .i64 0)).setCell ⟨w.heap.size+1+1,1,none⟩ (.int .i64 0)).setCell ⟨w.heap.size+1+1,2,none⟩ (.slice none 0 0)).setCell ⟨w.heap.size+1+1,3,none⟩ (.int .i64 0)).setCell ⟨w.heap.size+1+1,4,none⟩ (.int .i64 0)).setCell ⟨w.heap.size+1+1,5,none⟩ (.slice none 0 0)).setCell ⟨w.heap.size+1+1,6,none⟩ (.int .i64 0)).setCell ⟨w.heap.size+1+1,7,none⟩ (.int .i64 0)).setCell ⟨w.heap.size+1+1,8,none⟩ (.slice none 0 0)).setCell ⟨w.heap.size+1+1,9,none⟩ (.int .i64 0)).setCell ⟨w.heap.size+1+1,10,none⟩ (.int .i64 0)).setCell ⟨w.heap.size+1+1,11,none⟩ (.slice none 0 0)):=below_putL (b:=w.heap.size+1+1) (by omega) [.int .i64 0,.int .i64 0,.slice none 0 0,.int .i64 0,.int .i64 0,.slice none 0 0,.int .i64 0,.int .i64 0,.slice none 0 0,.int .i64 0,.int .i64 0,.slice none 0 0] 0 (uH HS).bel
    have z0:=XP.c 0 rfl;have z1:=XP.c 1 rfl;have z2:=XP.c 2 rfl;have z3:=XP.c 3 rfl;have z4:=XP.c 4 rfl;have z5:=XP.c 5 rfl;have z6:=XP.c 6 rfl;have z7:=XP.c 7 rfl;have z8:=XP.c 8 rfl;have z9:=XP.c 9 rfl;have z10:=XP.c 10 rfl;have z11:=XP.c 11 rfl
    replace BP:=hide BP
    clear XP HS
    go_wp2_with fail
    exact bodyPost_ret (v:=.tuple #[.agg #[.int .i64 0,.int .i64 0,.slice none 0 0,.int .i64 0,.int .i64 0,.slice none 0 0,.int .i64 0,.int .i64 0,.slice none 0 0,.int .i64 0,.int .i64 0,.slice none 0 0],.int .i64 2]) (by simp [results,Tryz.results38,go_sem,z0,z1,z2,z3,z4,z5,z6,z7,z8,z9,z10,z11]) rfl ⟨.inr ⟨by first | exact uH EB | (rw [← hF];exact uH EB),rfl⟩,uH BP⟩
  ·have ba:=below_alloc9 w4 (.cells #[.int .i64 0,.int .i64 0,.slice none 0 0,.int .i64 0,.int .i64 0,.slice none 0 0,.int .i64 0,.int .i64 0,.slice none 0 0,.int .i64 0,.int .i64 0,.slice none 0 0] 57)
   have EB:=hide (show (okB && (okT && okF)) = false by rw [hTk];cases okB <;> rfl)
   replace HS:=hide ((uH HS).all ba)
   clear ba hTk K4
   have s0:=(uH HS).res.c 0 rfl;have s1:=(uH HS).res.c 1 rfl;have s2:=(uH HS).res.c 2 rfl;have s3:=(uH HS).res.c 3 rfl;have s4:=(uH HS).res.c 4 rfl;have s5:=(uH HS).res.c 5 rfl;have s6:=(uH HS).res.c 6 rfl;have s7:=(uH HS).res.c 7 rfl;have s8:=(uH HS).res.c 8 rfl;have s9:=(uH HS).res.c 9 rfl;have s10:=(uH HS).res.c 10 rfl;have s11:=(uH HS).res.c 11 rfl
   have f0:=(uH HS).res.free 0;have f1:=(uH HS).res.free 1;have f2:=(uH HS).res.free 2;have f3:=(uH HS).res.free 3;have f4:=(uH HS).res.free 4;have f5:=(uH HS).res.free 5;have f6:=(uH HS).res.free 6;have f7:=(uH HS).res.free 7;have f8:=(uH HS).res.free 8;have f9:=(uH HS).res.free 9;have f10:=(uH HS).res.free 10;have f11:=(uH HS).res.free 11
   have XP:BoxL 57 (((((((((((((w4.alloc (.cells #[.int .i64 0,.int .i64 0,.slice none 0 0,.int .i64 0,.int .i64 0,.slice none 0 0,.int .i64 0,.int .i64 0,.slice none 0 0,.int .i64 0,.int .i64 0,.slice none 0 0] 57)).setCell ⟨w.heap.size+1+1,0,none⟩ (.int .i64 0)).setCell ⟨w.heap.size+1+1,1,none⟩ (.int .i64 0)).setCell ⟨w.heap.size+1+1,2,none⟩ (.slice none 0 0)).setCell ⟨w.heap.size+1+1,3,none⟩ (.int .i64 0)).setCell ⟨w.heap.size+1+1,4,none⟩ (.int .i64 0)).setCell ⟨w.heap.size+1+1,5,none⟩ (.slice none 0 0)).setCell ⟨w.heap.size+1+1,6,none⟩ (.int .i64 0)).setCell ⟨w.heap.size+1+1,7,none⟩ (.int .i64 0)).setCell ⟨w.heap.size+1+1,8,none⟩ (.slice none 0 0)).setCell ⟨w.heap.size+1+1,9,none⟩ (.int .i64 0)).setCell ⟨w.heap.size+1+1,10,none⟩ (.int .i64 0)).setCell ⟨w.heap.size+1+1,11,none⟩ (.slice none 0 0)) (w.heap.size+1+1) [.int .i64 0,.int .i64 0,.slice none 0 0,.int .i64 0,.int .i64 0,.slice none 0 0,.int .i64 0,.int .i64 0,.slice none 0 0,.int .i64 0,.int .i64 0,.slice none 0 0]:=(uH HS).res.full [.int .i64 0,.int .i64 0,.slice none 0 0,.int .i64 0,.int .i64 0,.slice none 0 0,.int .i64 0,.int .i64 0,.slice none 0 0,.int .i64 0,.int .i64 0,.slice none 0 0] rfl
   have BP:Below w.heap.size w (((((((((((((w4.alloc (.cells #[.int .i64 0,.int .i64 0,.slice none 0 0,.int .i64 0,.int .i64 0,.slice none 0 0,.int .i64 0,.int .i64 0,.slice none 0 0,.int .i64 0,.int .i64 0,.slice none 0 0] 57)).setCell ⟨w.heap.size+1+1,0,none⟩ (.int .i64 0)).setCell ⟨w.heap.size+1+1,1,none⟩ (.int .i64 0)).setCell ⟨w.heap.size+1+1,2,none⟩ (.slice none 0 0)).setCell ⟨w.heap.size+1+1,3,none⟩ (.int .i64 0)).setCell ⟨w.heap.size+1+1,4,none⟩ (.int .i64 0)).setCell ⟨w.heap.size+1+1,5,none⟩ (.slice none 0 0)).setCell ⟨w.heap.size+1+1,6,none⟩ (.int .i64 0)).setCell ⟨w.heap.size+1+1,7,none⟩ (.int .i64 0)).setCell ⟨w.heap.size+1+1,8,none⟩ (.slice none 0 0)).setCell ⟨w.heap.size+1+1,9,none⟩ (.int .i64 0)).setCell ⟨w.heap.size+1+1,10,none⟩ (.int .i64 0)).setCell ⟨w.heap.size+1+1,11,none⟩ (.slice none 0 0)):=below_putL (b:=w.heap.size+1+1) (by omega) [.int .i64 0,.int .i64 0,.slice none 0 0,.int .i64 0,.int .i64 0,.slice none 0 0,.int .i64 0,.int .i64 0,.slice none 0 0,.int .i64 0,.int .i64 0,.slice none 0 0] 0 (uH HS).bel
   have z0:=XP.c 0 rfl;have z1:=XP.c 1 rfl;have z2:=XP.c 2 rfl;have z3:=XP.c 3 rfl;have z4:=XP.c 4 rfl;have z5:=XP.c 5 rfl;have z6:=XP.c 6 rfl;have z7:=XP.c 7 rfl;have z8:=XP.c 8 rfl;have z9:=XP.c 9 rfl;have z10:=XP.c 10 rfl;have z11:=XP.c 11 rfl
   replace BP:=hide BP
   clear XP HS
   go_wp2_with fail
   exact bodyPost_ret (v:=.tuple #[.agg #[.int .i64 0,.int .i64 0,.slice none 0 0,.int .i64 0,.int .i64 0,.slice none 0 0,.int .i64 0,.int .i64 0,.slice none 0 0,.int .i64 0,.int .i64 0,.slice none 0 0],.int .i64 2]) (by simp [results,Tryz.results38,go_sem,z0,z1,z2,z3,z4,z5,z6,z7,z8,z9,z10,z11]) rfl ⟨.inr ⟨by first | exact uH EB | (rw [← hF];exact uH EB),rfl⟩,uH BP⟩
 ·have ba:=below_alloc9 w3 (.cells #[.int .i64 0,.int .i64 0,.slice none 0 0,.int .i64 0,.int .i64 0,.slice none 0 0,.int .i64 0,.int .i64 0,.slice none 0 0,.int .i64 0,.int .i64 0,.slice none 0 0] 57)
  have EB:=hide (show (okB && (okT && okF)) = false by rw [hB];rfl)
  replace HS:=hide ((uH HS).all ba)
  clear ba hB K3 K4
  have s0:=(uH HS).res.c 0 rfl;have s1:=(uH HS).res.c 1 rfl;have s2:=(uH HS).res.c 2 rfl;have s3:=(uH HS).res.c 3 rfl;have s4:=(uH HS).res.c 4 rfl;have s5:=(uH HS).res.c 5 rfl;have s6:=(uH HS).res.c 6 rfl;have s7:=(uH HS).res.c 7 rfl;have s8:=(uH HS).res.c 8 rfl;have s9:=(uH HS).res.c 9 rfl;have s10:=(uH HS).res.c 10 rfl;have s11:=(uH HS).res.c 11 rfl
  have f0:=(uH HS).res.free 0;have f1:=(uH HS).res.free 1;have f2:=(uH HS).res.free 2;have f3:=(uH HS).res.free 3;have f4:=(uH HS).res.free 4;have f5:=(uH HS).res.free 5;have f6:=(uH HS).res.free 6;have f7:=(uH HS).res.free 7;have f8:=(uH HS).res.free 8;have f9:=(uH HS).res.free 9;have f10:=(uH HS).res.free 10;have f11:=(uH HS).res.free 11
  have XP:BoxL 57 (((((((((((((w3.alloc (.cells #[.int .i64 0,.int .i64 0,.slice none 0 0,.int .i64 0,.int .i64 0,.slice none 0 0,.int .i64 0,.int .i64 0,.slice none 0 0,.int .i64 0,.int .i64 0,.slice none 0 0] 57)).setCell ⟨w.heap.size+1+1,0,none⟩ (.int .i64 0)).setCell ⟨w.heap.size+1+1,1,none⟩ (.int .i64 0)).setCell ⟨w.heap.size+1+1,2,none⟩ (.slice none 0 0)).setCell ⟨w.heap.size+1+1,3,none⟩ (.int .i64 0)).setCell ⟨w.heap.size+1+1,4,none⟩ (.int .i64 0)).setCell ⟨w.heap.size+1+1,5,none⟩ (.slice none 0 0)).setCell ⟨w.heap.size+1+1,6,none⟩ (.int .i64 0)).setCell ⟨w.heap.size+1+1,7,none⟩ (.int .i64 0)).setCell ⟨w.heap.size+1+1,8,none⟩ (.slice none 0 0)).setCell ⟨w.heap.size+1+1,9,none⟩ (.int .i64 0)).setCell ⟨w.heap.size+1+1,10,none⟩ (.int .i64 0)).setCell ⟨w.heap.size+1+1,11,none⟩ (.slice none 0 0)) (w.heap.size+1+1) [.int .i64 0,.int .i64 0,.slice none 0 0,.int .i64 0,.int .i64 0,.slice none 0 0,.int .i64 0,.int .i64 0,.slice none 0 0,.int .i64 0,.int .i64 0,.slice none 0 0]:=(uH HS).res.full [.int .i64 0,.int .i64 0,.slice none 0 0,.int .i64 0,.int .i64 0,.slice none 0 0,.int .i64 0,.int .i64 0,.slice none 0 0,.int .i64 0,.int .i64 0,.slice none 0 0] rfl
  have BP:Below w.heap.size w (((((((((((((w3.alloc (.cells #[.int .i64 0,.int .i64 0,.slice none 0 0,.int .i64 0,.int .i64 0,.slice none 0 0,.int .i64 0,.int .i64 0,.slice none 0 0,.int .i64 0,.int .i64 0,.slice none 0 0] 57)).setCell ⟨w.heap.size+1+1,0,none⟩ (.int .i64 0)).setCell ⟨w.heap.size+1+1,1,none⟩ (.int .i64 0)).setCell ⟨w.heap.size+1+1,2,none⟩ (.slice none 0 0)).setCell ⟨w.heap.size+1+1,3,none⟩ (.int .i64 0)).setCell ⟨w.heap.size+1+1,4,none⟩ (.int .i64 0)).setCell ⟨w.heap.size+1+1,5,none⟩ (.slice none 0 0)).setCell ⟨w.heap.size+1+1,6,none⟩ (.int .i64 0)).setCell ⟨w.heap.size+1+1,7,none⟩ (.int .i64 0)).setCell ⟨w.heap.size+1+1,8,none⟩ (.slice none 0 0)).setCell ⟨w.heap.size+1+1,9,none⟩ (.int .i64 0)).setCell ⟨w.heap.size+1+1,10,none⟩ (.int .i64 0)).setCell ⟨w.heap.size+1+1,11,none⟩ (.slice none 0 0)):=below_putL (b:=w.heap.size+1+1) (by omega) [.int .i64 0,.int .i64 0,.slice none 0 0,.int .i64 0,.int .i64 0,.slice none 0 0,.int .i64 0,.int .i64 0,.slice none 0 0,.int .i64 0,.int .i64 0,.slice none 0 0] 0 (uH HS).bel
  have z0:=XP.c 0 rfl;have z1:=XP.c 1 rfl;have z2:=XP.c 2 rfl;have z3:=XP.c 3 rfl;have z4:=XP.c 4 rfl;have z5:=XP.c 5 rfl;have z6:=XP.c 6 rfl;have z7:=XP.c 7 rfl;have z8:=XP.c 8 rfl;have z9:=XP.c 9 rfl;have z10:=XP.c 10 rfl;have z11:=XP.c 11 rfl
  replace BP:=hide BP
  clear XP HS
  go_wp2_with fail
  exact bodyPost_ret (v:=.tuple #[.agg #[.int .i64 0,.int .i64 0,.slice none 0 0,.int .i64 0,.int .i64 0,.slice none 0 0,.int .i64 0,.int .i64 0,.slice none 0 0,.int .i64 0,.int .i64 0,.slice none 0 0],.int .i64 2]) (by simp [results,Tryz.results38,go_sem,z0,z1,z2,z3,z4,z5,z6,z7,z8,z9,z10,z11]) rfl ⟨.inr ⟨by first | exact uH EB | (rw [← hF];exact uH EB),rfl⟩,uH BP⟩
theorem ck2_mx {w:World} {n ac bc:Nat} {ao bo:Option Addr} {A B:List Nat} (hA:Mx w ao ac n n A) (hB:Mx w bo bc n n B) (fA:finL A = true) (fB:finL B = true):ck2 n n (mxL A) n n (mxL B) = 0:=by
 unfold ck2
 rw [ck_mx hA fA,ck_mx hB fB]
 rfl
theorem hsI_len {n:Nat} {s:Hs} (h:s.Q.length = n * n∧s.Z.length = n * n) (j:Nat):∀ t,(hsI n j s t).Q.length = n * n∧(hsI n j s t).Z.length = n * n
 | 0=>h
 | t+1=>⟨by show (coM _ _ _ _ _ _ _).length = _;exact coM_len _ _ _ _ _ _ _,by show (coM _ _ _ _ _ _ _).length = _;exact coM_len _ _ _ _ _ _ _⟩
theorem hsO_len {n:Nat} {s:Hs} (h:s.Q.length = n * n∧s.Z.length = n * n):∀ j,(hsO n s j).Q.length = n * n∧(hsO n s j).Z.length = n * n
 | 0=>h
 | j+1=>hsI_len (hsO_len h j) j _
theorem hsW_len (n:Nat) (A B:List Nat) (hB:B.length = n * n):(hsF n A B).Q.length = n * n∧(hsF n A B).Z.length = n * n:=hsO_len (hsB_len n A B hB).2.2 (n - 2)
theorem hBring_any (n ac bc:Nat) (ao bo:Option Addr) (A B:List Nat) (w:World) (hA:Mx w ao ac n n A) (hB:Mx w bo bc n n B) (fA:finL A = true) (fB:finL B = true) (hT:Tab w) :
  Calls Tryz.prog 38 #[.agg #[.int .i64 n,.int .i64 n,.slice ao A.length ac],.agg #[.int .i64 n,.int .i64 n,.slice bo B.length bc]] w fun e w'=>BrAns w w' (hsK n A B) n (n * n) (hsF n A B) e∧Below w.heap.size w w':=by
 have n6:=hA.2.2.1
 have a36:=hA.small;have b36:=hB.small
 rw [hA.2.1,hB.2.1]
 have hl:=hsB_len n A B hB.2.1
 refine bring_of n (n * n) ac bc ao bo (decide (0 < qrN n n)) (facK n n B) (hsOk n (hsB n A B) (n - 2)) (hsN (hsF n A B)) (hsB n A B) (hsF n A B) w (fun w' hb=>?_) (fun w' hb=>?_) (fun base w' ho uo qo zo hc tc qc zc hbase hb v=>?_) (fun base w' ho uo qo zo hc tc qc zc v=>?_)
 ·have:=hchecked_any n n n n ao bo ac bc (mxL A) (mxL B) w' (hA.1.below hb) (hB.1.below hb) (by rw [mxL_len];omega) (by rw [mxL_len];omega)
  rw [ck2_mx hA hB fA fB,mxL_len,mxL_len,hA.2.1,hB.2.1] at this
  exact this
 ·cases hk:facK n n B with
  | true =>
   refine (begun_yes n ac bc ao bo A B w' (hA.below hb) (hB.below hb) fB hk (hT.all hb)).mono ?_
   rintro e w'' ⟨⟨ho,uo,qo,zo,hc,tc,qc,zc,rfl,v⟩,hb2⟩
   exact ⟨.inl ⟨rfl,ho,uo,qo,zo,hc,tc,qc,zc,rfl,v⟩,hb2⟩
  | false =>
   refine (begun_no n ac bc ao bo B w' (hB.below hb) fB hk (hT.all hb)).mono ?_
   rintro e w'' ⟨rfl,hb2⟩
   exact ⟨.inr ⟨rfl,rfl⟩,hb2⟩
 ·exact hturned_any base n (n * n) false _ (hsB n A B) ho uo qo zo hc tc qc zc w' n6 rfl hbase v (v.ok hl) (fun h=>decide_eq_true (by unfold qrN;omega)) (hT.all hb)
 ·have hok:HsOk n (hsF n A B):=v.ok ⟨hsE_len _ _ _,hsE_len _ _ _,(?_:_∧_)⟩
  ·exact hfin_any n (n * n) (hsF n A B) ho uo qo zo hc tc qc zc w' n6 rfl hok v.h v.t v.q v.z
  ·have hB2:HsOk n (hsB n A B)→((hsF n A B).Q.length = n * n∧(hsF n A B).Z.length = n * n):=fun h=>⟨(h.O (n - 2)).1.2.2.1,(h.O (n - 2)).1.2.2.2⟩
   exact hsW_len n A B hB.2.1
theorem hBring_no (r c p q:Int) (ao bo:Option Addr) (cap d:Nat) (I J:List Int) (w:World) (hI:BitsAt w ao cap I) (hJ:BitsAt w bo d J) (hi:I.length≤35184372088830) (hj:J.length≤35184372088830) (h:ck2 r c I p q J ≠ 0 ∨ ¬ (r = c∧p = q∧r = p)) :
  Calls Tryz.prog 38 #[.agg #[.int .i64 r,.int .i64 c,.slice ao I.length cap],.agg #[.int .i64 p,.int .i64 q,.slice bo J.length d]] w fun e w'=>e = .returned (.tuple #[.agg #[.int .i64 0,.int .i64 0,.slice none 0 0,.int .i64 0,.int .i64 0,.slice none 0 0,.int .i64 0,.int .i64 0,.slice none 0 0,.int .i64 0,.int .i64 0,.slice none 0 0],.int .i64 (if ck2 r c I p q J = 0 then 3 else ck2 r c I p q J)])∧Below w.heap.size w w':=by
 have C1:=fun w' (hb:Below w.heap.size w w')=>hchecked_any r c p q ao bo cap d I J w' (hI.below hb) (hJ.below hb) hi hj
 by_cases h0:ck2 r c I p q J = 0
 ·rw [if_pos h0]
  rw [h0] at C1
  refine bring_shape r c p q ao bo I.length cap J.length d w ?_ C1
  have h:=h.resolve_left (fun k=>k h0)
  by_cases e1:r = c
  ·by_cases e2:p = q
   ·have e3:¬ r = p:=fun e=>h ⟨e1,e2,e⟩
    exact .inr (.inr ⟨beq_iff_eq.2 e1,beq_iff_eq.2 e2,bne_iff_ne.2 e3⟩)
   ·exact .inr (.inl ⟨beq_iff_eq.2 e1,beq_eq_false_iff_ne.2 e2⟩)
  ·exact .inl (beq_eq_false_iff_ne.2 e1)
 ·rw [if_neg h0]
  refine bring_err r c p q ao bo I.length cap J.length d w _ ?_ C1
  unfold ck2 at h0 ⊢
  rcases ckE_cases r c I with e | e | e
  ·rw [if_pos e] at h0 ⊢
   rcases ckE_cases p q J with e' | e' | e'
   ·exact absurd e' h0
   ·exact .inl e'
   ·exact .inr e'
  ·rw [e,if_neg (by decide)];exact .inl rfl
  ·rw [e,if_neg (by decide)];exact .inr rfl
end Go.Proofs.YtlnphkioddknfaaGreatDoor
namespace Go.Proofs.YtlnphkioddknfaaGreatDoor
open Go.RowKit
attribute [local go_sem ↓] Go.wp_at_zero Go.wp_at_succ
theorem awake18_of (S:List Nat) (l:Nat) (w:World) (hl:S.length = l) (hl2:l≤1000000)
  (C1:∀ w',Calls Tryz.prog 25 #[.int .i64 3] w' fun e w''=>∃ v,e = .returned v∧NewM 0 w'' 3 3 S v∧Below w'.heap.size w' w'')
  (C2:∀ w' ao ac bo bc,Below w.heap.size w w'→BitsAt w' ao ac (mxL S)→BitsAt w' bo bc (mxL S)→Calls Tryz.prog 38 #[.agg #[.int .i64 (3:Nat),.int .i64 (3:Nat),.slice ao l ac],.agg #[.int .i64 (3:Nat),.int .i64 (3:Nat),.slice bo l bc]] w' fun e w''=>∃ ho uo qo zo hc tc qc zc,e = .returned (.tuple #[.agg #[.int .i64 (3:Nat),.int .i64 (3:Nat),.slice ho l hc,.int .i64 (3:Nat),.int .i64 (3:Nat),.slice uo l tc,.int .i64 (3:Nat),.int .i64 (3:Nat),.slice qo l qc,.int .i64 (3:Nat),.int .i64 (3:Nat),.slice zo l zc],.int .i64 0])∧BitsAt w'' uo tc (mxL S)∧Below w'.heap.size w' w'') :
  Calls Tryz.prog 41 #[] w fun e w'=>e = .returned (.bool true)∧Below w.heap.size w w':=by
 have K1:=hide C1;have K2:=hide C2;have HL:=hide hl
 have K4:=hide (fun w' ao ac bo bc (h:BitsAt w' ao ac (mxL S)) (h2:BitsAt w' bo bc (mxL S))=>by
  have:=rsame_any 3 3 ao bo ac bc S w' h h2 (by omega)
  rw [hl] at this
  exact this)
 clear C1 C2 hl hl2
 go_enter Tryz.func41,Tryz.ntmps41
 go_wp2_with fail
 refine (uH K1 _).mono ?_
 rintro e w1 ⟨v,rfl,⟨ao,ac,rfl,_,q1⟩,hb1⟩
 rw [uH HL]
 have B1:=hide hb1;have Q1:=hide q1
 clear hb1 q1
 go_wp2_with fail
 refine (uH K1 _).mono ?_
 rintro e w2 ⟨v,rfl,⟨bo,bc,rfl,_,q2⟩,hb2⟩
 rw [uH HL]
 replace B1:=hide ((uH B1).trans (hb2.mono (uH B1).size));replace Q1:=hide ((uH Q1).below hb2);have Q2:=hide q2
 clear hb2 q2
 go_wp2_with fail
 refine (uH K2 _ ao ac bo bc (uH B1) (uH Q1) (uH Q2)).mono ?_
 rintro e w3 ⟨ho,uo,qo,zo,hc,tc,qc,zc,rfl,q3,hb3⟩
 have ba:=below_alloc9 w3 (.cells #[.int .i64 (3:Nat),.int .i64 (3:Nat),.slice ho l hc,.int .i64 (3:Nat),.int .i64 (3:Nat),.slice uo l tc,.int .i64 (3:Nat),.int .i64 (3:Nat),.slice qo l qc,.int .i64 (3:Nat),.int .i64 (3:Nat),.slice zo l zc] 57)
 have x3:=BoxL.new 57 w3 [.int .i64 (3:Nat),.int .i64 (3:Nat),.slice ho l hc,.int .i64 (3:Nat),.int .i64 (3:Nat),.slice uo l tc,.int .i64 (3:Nat),.int .i64 (3:Nat),.slice qo l qc,.int .i64 (3:Nat),.int .i64 (3:Nat),.slice zo l zc]
 have B2:=(uH B1).trans (hb3.mono (uH B1).size)
 have B3:=hide (B2.trans (ba.mono B2.size))
 have Q3:=hide (q3.below ba)
 have X3:=hide x3
 clear q3 hb3 ba x3 B1 B2 Q1 Q2 K2
 go_wp2_with fail
 refine at_world (fun W=>Below w.heap.size w W∧BitsAt W uo tc (mxL S)∧BoxL 57 W w3.heap.size [.int .i64 3,.int .i64 3,.slice ho l hc,.int .i64 3,.int .i64 3,.slice uo l tc,.int .i64 3,.int .i64 3,.slice qo l qc,.int .i64 3,.int .i64 3,.slice zo l zc]) ⟨uH B3,uH Q3,uH X3⟩ ?_
 clear B3 Q3 X3
 rintro W ⟨bw,qw,xw⟩
 generalize w3.heap.size = g at *
 have HB:=hide bw;have HQ:=hide qw
 have HK:=hide (fun w' (h:Below W.heap.size W w')=>(show Below W.heap.size W w'∧w'.cell? ⟨g,3,none⟩ = some (.int .i64 3)∧w'.cell? ⟨g,4,none⟩ = some (.int .i64 3)∧w'.cell? ⟨g,5,none⟩ = some (.slice uo l tc)∧w'.cell? ⟨g,9,none⟩ = some (.int .i64 3) from ⟨h,(xw.all h).c 3 rfl,(xw.all h).c 4 rfl,(xw.all h).c 5 rfl,(xw.all h).c 9 rfl⟩))
 clear bw qw xw
 go_region_held3 (fun w'=>Below W.heap.size W w'∧w'.cell? ⟨g,3,none⟩ = some (.int .i64 3)∧w'.cell? ⟨g,4,none⟩ = some (.int .i64 3)∧w'.cell? ⟨g,5,none⟩ = some (.slice uo l tc)∧w'.cell? ⟨g,9,none⟩ = some (.int .i64 3))
  (first | exact uH HK _ (Below.refl _ _).drew | exact uH HK _ (by assumption) | fail "KK")
  (first | (go_at_call 25;refine (uH K1 _).mono ?_;rintro e w4 ⟨v,rfl,⟨eo,ec,rfl,_,qe⟩,hb4⟩;have hB4:Below W.heap.size W w4:=Below.trans (And.left (by assumption)) (hb4.mono (Below.size (And.left (by assumption))));have QE:=hide qe;rw [uH HL];clear qe hb4 K1) | (go_at_call 23;refine (uH K4 _ _ _ _ _ (by exact (uH HQ).below (And.left (by assumption))) (uH QE)).mono ?_;rintro e w5 ⟨rfl,hb5⟩;have hB5:Below W.heap.size W w5:=Below.trans (And.left (by assumption)) (hb5.mono (Below.size (And.left (by assumption))));clear hb5 K4) | fail "NO ARM")
 all_goals
  go_wp2
  go_ret
  exact ⟨rfl,(uH HB).trans (Below.mono (And.left (by assumption)) (uH HB).size)⟩
theorem a18_k:hsK 3 (eyM 3) (eyM 3) = true:=by decide +kernel
theorem a18_t:(hsF 3 (eyM 3) (eyM 3)).T = eyM 3:=by decide +kernel
theorem a18_f:finL (eyM 3) = true:=by decide +kernel
theorem awake18_any (w:World) (hT:Tab w):∀ w',Below w.heap.size w w'→Calls Tryz.prog 41 #[] w' fun e w''=>e = .returned (.bool true)∧Below w'.heap.size w' w'':=fun w0 hb0=>by
 have hm:∀ (w':World) ao cap,BitsAt w' ao cap (mxL (eyM 3))→Mx w' ao cap 3 3 (eyM 3):=fun w' ao cap h=>⟨h,mkM_len _ _ _,by omega,by omega⟩
 refine awake18_of (eyM 3) (3 * 3) w0 (mkM_len _ _ _) (by omega) (fun w'=>reye_any 3 w' (by omega)) (fun w' ao ac bo bc hb h1 h2=>?_)
 have:=hBring_any 3 ac bc ao bo (eyM 3) (eyM 3) w' (hm w' ao ac h1) (hm w' bo bc h2) a18_f a18_f ((hT.all hb0).all hb)
 rw [a18_k,show (eyM 3).length = 3 * 3 from mkM_len _ _ _] at this
 refine this.mono ?_
 rintro e w'' ⟨⟨_,ho,uo,qo,zo,hc,tc,qc,zc,rfl,v⟩ | ⟨h0,_⟩,hb2⟩
 ·have ht:=v.t
  rw [a18_t] at ht
  exact ⟨ho,uo,qo,zo,hc,tc,qc,zc,rfl,ht,hb2⟩
 ·cases h0
end Go.Proofs.YtlnphkioddknfaaGreatDoor
namespace Go.Proofs.YtlnphkioddknfaaGreatDoor
open Go.RowKit
attribute [local go_sem ↓] Go.wp_at_zero Go.wp_at_succ
theorem hessZ_err (r c p q:Int) (ao bo:Option Addr) (k cap m d:Nat) (er:Int) (w:World) (her:er = 1 ∨ er = 2 ∨ er = 3 ∨ er = 4)
  (C1:∀ w',Below w.heap.size w w'→Calls Tryz.prog 38 #[.agg #[.int .i64 r,.int .i64 c,.slice ao k cap],.agg #[.int .i64 p,.int .i64 q,.slice bo m d]] w' fun e w''=>e = .returned (.tuple #[.agg #[.int .i64 0,.int .i64 0,.slice none 0 0,.int .i64 0,.int .i64 0,.slice none 0 0,.int .i64 0,.int .i64 0,.slice none 0 0,.int .i64 0,.int .i64 0,.slice none 0 0],.int .i64 er])∧Below w'.heap.size w' w'')
  (CA:∀ w',Below w.heap.size w w'→Calls Tryz.prog 41 #[] w' fun e w''=>e = .returned (.bool true)∧Below w'.heap.size w' w'') :
  Calls Tryz.prog 10 #[.agg #[.int .i64 r,.int .i64 c,.slice ao k cap],.agg #[.int .i64 p,.int .i64 q,.slice bo m d]] w fun e w'=>e = .returned (.bool true)∧Below w.heap.size w w':=by
 have KB:=hide (boxes2 w (.int .i64 r) (.int .i64 c) (.slice ao k cap) (.int .i64 p) (.int .i64 q) (.slice bo m d))
 obtain ⟨b0,x0,x1⟩:=uH KB ((w.alloc (.cells #[.int .i64 r,.int .i64 c,.slice ao k cap] 24)).alloc (.cells #[.int .i64 p,.int .i64 q,.slice bo m d] 24)) (by have:=Below.refl ((w.alloc (.cells #[.int .i64 r,.int .i64 c,.slice ao k cap] 24)).alloc (.cells #[.int .i64 p,.int .i64 q,.slice bo m d] 24)).heap.size ((w.alloc (.cells #[.int .i64 r,.int .i64 c,.slice ao k cap] 24)).alloc (.cells #[.int .i64 p,.int .i64 q,.slice bo m d] 24));simpa only [size_alloc9] using this)
 have HB:=hide b0;have HX:=hide x0;have HY:=hide x1
 clear KB b0 x0 x1
 have K1:=hide C1;have KA:=hide CA
 clear C1 CA
 rcases her with rfl | rfl | rfl | rfl
 all_goals
  go_enter Tryz.func10,Tryz.ntmps10
  have y0:=(uH HX).c0;have y1:=(uH HX).c1;have y2:=(uH HX).c2;have u0:=(uH HY).c0;have u1:=(uH HY).c1;have u2:=(uH HY).c2
  go_wp2_with fail
  clear y0 y1 y2 u0 u1 u2
  refine (uH K1 _ (uH HB)).mono ?_
  rintro e w1 ⟨rfl,hb⟩
  have ba:=below_alloc9 w1 (.cells #[.int .i64 0,.int .i64 0,.slice none 0 0,.int .i64 0,.int .i64 0,.slice none 0 0,.int .i64 0,.int .i64 0,.slice none 0 0,.int .i64 0,.int .i64 0,.slice none 0 0] 57)
  have XF:=BoxL.new 57 w1 [.int .i64 0,.int .i64 0,.slice none 0 0,.int .i64 0,.int .i64 0,.slice none 0 0,.int .i64 0,.int .i64 0,.slice none 0 0,.int .i64 0,.int .i64 0,.slice none 0 0]
  have B2:=(uH HB).trans (hb.mono (uH HB).size)
  replace HB:=hide (B2.trans (ba.mono B2.size))
  have y2:=XF.c 2 rfl;have y5:=XF.c 5 rfl
  clear hb ba XF B2 K1 HX HY
  go_wp2_with fail
  clear y2 y5
  refine (uH KA _ (uH HB)).mono ?_
  rintro e wz ⟨rfl,hb⟩
  replace HB:=hide ((uH HB).trans (hb.mono (uH HB).size))
  clear hb KA
  go_wp2
  go_ret
  exact ⟨rfl,uH HB⟩
theorem hessZ_of (n N ac bc:Nat) (ao bo:Option Addr) (H T:List Nat) (w:World) (h6:n≤6)
  (C1:∀ w',Below w.heap.size w w'→Calls Tryz.prog 38 #[.agg #[.int .i64 n,.int .i64 n,.slice ao N ac],.agg #[.int .i64 n,.int .i64 n,.slice bo N bc]] w' fun e w''=>∃ ho uo qo zo hc tc qc zc,e = .returned (.tuple #[.agg #[.int .i64 n,.int .i64 n,.slice ho N hc,.int .i64 n,.int .i64 n,.slice uo N tc,.int .i64 n,.int .i64 n,.slice qo N qc,.int .i64 n,.int .i64 n,.slice zo N zc],.int .i64 0])∧BitsAt w'' ho hc (mxL H)∧BitsAt w'' uo tc (mxL T)∧Below w'.heap.size w' w'')
  (CT:∀ w' uo tc i j,BitsAt w' uo tc (mxL T)→i < n→j < i→Calls Tryz.prog 42 #[.agg #[.int .i64 n,.int .i64 n,.slice uo N tc],.int .i64 (i:Nat),.int .i64 (j:Nat)] w' fun e w''=>e = .returned (.int .u64 0)∧Below w'.heap.size w' w'')
  (CH:∀ w' ho hc i j,BitsAt w' ho hc (mxL H)→i < n→j+1 < i→Calls Tryz.prog 42 #[.agg #[.int .i64 n,.int .i64 n,.slice ho N hc],.int .i64 (i:Nat),.int .i64 (j:Nat)] w' fun e w''=>e = .returned (.int .u64 0)∧Below w'.heap.size w' w'')
  (CA:∀ w',Below w.heap.size w w'→Calls Tryz.prog 41 #[] w' fun e w''=>e = .returned (.bool true)∧Below w'.heap.size w' w'') :
  Calls Tryz.prog 10 #[.agg #[.int .i64 n,.int .i64 n,.slice ao N ac],.agg #[.int .i64 n,.int .i64 n,.slice bo N bc]] w fun e w'=>e = .returned (.bool true)∧Below w.heap.size w w':=by
 have KB:=hide (boxes2 w (.int .i64 n) (.int .i64 n) (.slice ao N ac) (.int .i64 n) (.int .i64 n) (.slice bo N bc))
 obtain ⟨b0,x0,x1⟩:=uH KB ((w.alloc (.cells #[.int .i64 n,.int .i64 n,.slice ao N ac] 24)).alloc (.cells #[.int .i64 n,.int .i64 n,.slice bo N bc] 24)) (by have:=Below.refl ((w.alloc (.cells #[.int .i64 n,.int .i64 n,.slice ao N ac] 24)).alloc (.cells #[.int .i64 n,.int .i64 n,.slice bo N bc] 24)).heap.size ((w.alloc (.cells #[.int .i64 n,.int .i64 n,.slice ao N ac] 24)).alloc (.cells #[.int .i64 n,.int .i64 n,.slice bo N bc] 24));simpa only [size_alloc9] using this)
 have HB:=hide b0;have HX:=hide x0;have HY:=hide x1
 clear KB b0 x0 x1
 have K1:=hide C1;have KA:=hide CA;have KT:=hide CT;have KH:=hide CH
 have hne:((n:Int) != (n:Int)) = false:=by simp
 clear C1 CA CT CH
 go_enter Tryz.func10,Tryz.ntmps10
 have y0:=(uH HX).c0;have y1:=(uH HX).c1;have y2:=(uH HX).c2;have u0:=(uH HY).c0;have u1:=(uH HY).c1;have u2:=(uH HY).c2
 go_wp2_with fail
 clear y0 y1 y2 u0 u1 u2
 refine (uH K1 _ (uH HB)).mono ?_
 rintro e w1 ⟨ho,uo,qo,zo,hc,tc,qc,zc,rfl,hh,ht,hb⟩
 have ba:=below_alloc9 w1 (.cells #[.int .i64 n,.int .i64 n,.slice ho N hc,.int .i64 n,.int .i64 n,.slice uo N tc,.int .i64 n,.int .i64 n,.slice qo N qc,.int .i64 n,.int .i64 n,.slice zo N zc] 57)
 have XF:=hide (BoxL.new 57 w1 [.int .i64 n,.int .i64 n,.slice ho N hc,.int .i64 n,.int .i64 n,.slice uo N tc,.int .i64 n,.int .i64 n,.slice qo N qc,.int .i64 n,.int .i64 n,.slice zo N zc])
 have B2:=(uH HB).trans (hb.mono (uH HB).size)
 replace HB:=hide (B2.trans (ba.mono B2.size))
 replace HX:=hide (((uH HX).all hb).all ba)
 have HH:=hide (hh.below ba);have HT:=hide (ht.below ba)
 clear hb ba B2 K1 HY hh ht
 have y0:=(uH XF).c 0 rfl;have y1:=(uH XF).c 1 rfl;have y3:=(uH XF).c 3 rfl;have y4:=(uH XF).c 4 rfl
 have u0:=(uH HX).c0
 go_wp2_with fail
 clear y0 y1 y3 y4 u0 hne
 generalize w1.heap.size = g at *
 go_loopw [7] (fun a wr=>∃ i:Nat,i≤n∧a = .int .i64 i∧Hid (Below w.heap.size w wr)∧Hid (BoxM wr w.heap.size (.int .i64 n) (.int .i64 n) (.slice ao N ac))∧Hid (BoxL 57 wr g [.int .i64 n,.int .i64 n,.slice ho N hc,.int .i64 n,.int .i64 n,.slice uo N tc,.int .i64 n,.int .i64 n,.slice qo N qc,.int .i64 n,.int .i64 n,.slice zo N zc])∧Hid (BitsAt wr ho hc (mxL H))∧Hid (BitsAt wr uo tc (mxL T))) (fun a _=>n - (intOf a).toNat)
 case atStart=>exact ⟨0,Nat.zero_le _,rfl,HB,HX,XF,HH,HT⟩
 case round =>
  clear HB HX XF HH HT
  obtain ⟨i,hi,rfl,HB,HX,XF,HH,HT⟩:=hrel
  have u0:=(uH HX).c0
  by_cases hlt:i < n
  ·have hiI:(i:Int) < (n:Int):=by omega
   go_wp2_with fail
   clear u0
   go_loopw [8] (fun a wr=>∃ j:Nat,j≤i∧a = .int .i64 j∧Hid (Below w.heap.size w wr)∧Hid (BoxM wr w.heap.size (.int .i64 n) (.int .i64 n) (.slice ao N ac))∧Hid (BoxL 57 wr g [.int .i64 n,.int .i64 n,.slice ho N hc,.int .i64 n,.int .i64 n,.slice uo N tc,.int .i64 n,.int .i64 n,.slice qo N qc,.int .i64 n,.int .i64 n,.slice zo N zc])∧Hid (BitsAt wr ho hc (mxL H))∧Hid (BitsAt wr uo tc (mxL T))) (fun a _=>i - (intOf a).toNat)
   case atStart=>exact ⟨0,Nat.zero_le _,rfl,HB,HX,XF,HH,HT⟩
   case round =>
    clear HB HX XF HH HT
    obtain ⟨j,hj,rfl,HB,HX,XF,HH,HT⟩:=hrel
    by_cases hjl:j < i
    ·have hjI:(j:Int) < (i:Int):=by omega
     have ei:IntKind.i64.wrap ((i:Int) - 1) = (i:Int) - 1:=wrap_in _ (by omega)
     have y3:=(uH XF).c 3 rfl;have y4:=(uH XF).c 4 rfl;have y5:=(uH XF).c 5 rfl
     go_wp2_with fail
     clear y3 y4 y5
     refine (uH KT _ uo tc i j (uH HT) hlt hjl).mono ?_
     rintro e w2 ⟨rfl,hb⟩
     replace HX:=hide ((uH HX).all hb);replace XF:=hide ((uH XF).all hb);replace HH:=hide ((uH HH).below hb);replace HT:=hide ((uH HT).below hb)
     replace HB:=hide ((uH HB).trans (hb.mono (uH HB).size))
     clear hb
     by_cases hq:j+1 < i
     ·have hqI:(j:Int) < (i:Int) - 1:=by omega
      have y0:=(uH XF).c 0 rfl;have y1:=(uH XF).c 1 rfl;have y2:=(uH XF).c 2 rfl
      go_wp2_with fail
      clear y0 y1 y2
      refine (uH KH _ ho hc i j (uH HH) hlt hq).mono ?_
      rintro e w3 ⟨rfl,hb⟩
      replace HX:=hide ((uH HX).all hb);replace XF:=hide ((uH XF).all hb);replace HH:=hide ((uH HH).below hb);replace HT:=hide ((uH HT).below hb)
      replace HB:=hide ((uH HB).trans (hb.mono (uH HB).size))
      clear hb
      have ej:IntKind.i64.wrap ((j:Int)+1) = (j:Int)+1:=wrap_in _ (by omega)
      go_wp2_with fail
      go_round
      case rel=>exact ⟨j+1,by omega,by go_num,HB,HX,XF,HH,HT⟩
      case measure=>first | (simp [intOf];done) | (simp [intOf];omega)
     ·have hqI:¬ ((j:Int) < (i:Int) - 1):=by omega
      have ej:IntKind.i64.wrap ((j:Int)+1) = (j:Int)+1:=wrap_in _ (by omega)
      go_wp2_with fail
      go_round
      case rel=>exact ⟨j+1,by omega,by go_num,HB,HX,XF,HH,HT⟩
      case measure=>first | (simp [intOf];done) | (simp [intOf];omega)
    ·have hjj:j = i:=by omega
     subst hjj
     have ej:IntKind.i64.wrap ((j:Int)+1) = (j:Int)+1:=wrap_in _ (by omega)
     go_wp2_with fail
     go_round
     case rel=>exact ⟨j+1,by omega,by go_num,HB,HX,XF,HH,HT⟩
     case measure=>first | (simp [intOf];done) | (simp [intOf];omega)
  ·have hii:i = n:=by omega
   subst hii
   go_wp2_with fail
   clear u0
   refine (uH KA _ (uH HB)).mono ?_
   rintro e wz ⟨rfl,hb⟩
   replace HB:=hide ((uH HB).trans (hb.mono (uH HB).size))
   clear hb KA
   go_wp2
   go_ret
   exact ⟨rfl,uH HB⟩
theorem finL_of18 {S:List Nat} (h:∀ x ∈ S,fFin x = true):finL S = true:=by
 rw [finL_all]
 intro k hk
 rw [List.getD_eq_getElem?_getD,List.getElem?_eq_getElem hk]
 exact h _ (List.getElem_mem hk)
theorem asked18 {r c p q:Int} {ao bo:Option Addr} {cap d:Nat} {I J:List Int} {w:World} (hI:BitsAt w ao cap I) (hJ:BitsAt w bo d J) (h0:ck2 r c I p q J = 0) (hs:r = c∧p = q∧r = p):∃ n:Nat,r = n∧c = n∧p = n∧q = n∧Mx w ao cap n n (natL I)∧Mx w bo d n n (natL J)∧(natL I).length = I.length∧(natL J).length = J.length∧finL (natL I) = true∧finL (natL J) = true:=by
 have hI0:ckE r c I = 0:=by
  unfold ck2 at h0
  by_cases e:ckE r c I = 0
  ·exact e
  ·rw [if_neg e] at h0;exact h0
 have hJ0:ckE p q J = 0:=by
  unfold ck2 at h0
  rwa [if_pos hI0] at h0
 obtain ⟨n,n',e1,e2,hMx,eI,fI⟩:=Mx.asked hI hI0
 obtain ⟨n2,n3,e3,e4,hMy,eJ,fJ⟩:=Mx.asked hJ hJ0
 obtain ⟨s1,s2,s3⟩:=hs
 have h1:n' = n:=by omega
 have h2:n2 = n:=by omega
 have h3:n3 = n:=by omega
 rw [h1] at hMx
 rw [h2,h3] at hMy
 exact ⟨n,e1,by omega,by omega,by omega,hMx,hMy,by rw [← mxL_len,eI],by rw [← mxL_len,eJ],finL_of18 fI,finL_of18 fJ⟩
theorem er18 {r c p q:Int} {I J:List Int}:ck2 r c I p q J = 0 ∨ ck2 r c I p q J = 1 ∨ ck2 r c I p q J = 4:=by
 unfold ck2
 split
 ·exact ckE_cases p q J
 ·exact ckE_cases r c I
theorem hessZeros_walk (r c:Int) (ao:Option Addr) (cap:Nat) (I:List Int) (p s:Int) (bo:Option Addr) (d:Nat) (J:List Int) (w:World) (hI:BitsAt w ao cap I) (hl:I.length≤17592186043904) (_hr:-9223372036854775808≤r∧r≤9223372036854775807) (_hc:-9223372036854775808≤c∧c≤9223372036854775807) (hJ:BitsAt w bo d J) (hlj:J.length≤17592186043904) (_hp:-9223372036854775808≤p∧p≤9223372036854775807) (_hs:-9223372036854775808≤s∧s≤9223372036854775807) (hT:Tab w) :
  Calls Tryz.prog 10 #[.agg #[.int .i64 r,.int .i64 c,.slice ao I.length cap],.agg #[.int .i64 p,.int .i64 s,.slice bo J.length d]] w fun e w'=>e = .returned (.bool true)∧Below w.heap.size w w':=by
 have KA:=awake18_any w hT
 by_cases h:ck2 r c I p s J = 0∧(r = c∧p = s∧r = p)
 ·obtain ⟨n,rfl,rfl,rfl,rfl,hA,hB,lI,lJ,fA,fB⟩:=asked18 hI hJ h.1 h.2
  have n6:=hA.2.2.1
  have C:=fun w' (hb:Below w.heap.size w w')=>hBring_any n cap d ao bo (natL I) (natL J) w' (hA.below hb) (hB.below hb) fA fB (hT.all hb)
  rw [lI,lJ] at C
  have lA:I.length = n * n:=by rw [← lI,hA.2.1]
  have lB:J.length = n * n:=by rw [← lJ,hB.2.1]
  cases hk:hsK n (natL I) (natL J) with
  | true =>
   rw [lA,lB] at C ⊢
   refine hessZ_of n (n * n) cap d ao bo (hsF n (natL I) (natL J)).H (hsF n (natL I) (natL J)).T w n6 (fun w' hb=>?_) (fun w' uo tc i j hq hi hj=>?_) (fun w' ho hc i j hq hi hj=>?_) KA
   ·refine (C w' hb).mono ?_
    rintro e w'' ⟨⟨_,ho,uo,qo,zo,hc,tc,qc,zc,rfl,v⟩ | ⟨h0,_⟩,hb2⟩
    ·exact ⟨ho,uo,qo,zo,hc,tc,qc,zc,rfl,v.h,v.t,hb2⟩
    ·rw [hk] at h0;cases h0
   ·have:=rat_any n n tc i j uo _ w' ⟨hq,hsE_len _ _ _,n6,n6⟩ hi (by omega)
    rw [show elM n (hsF n (natL I) (natL J)).T i j = 0 from el_hsE hi (by omega) (by omega),show (hsF n (natL I) (natL J)).T.length = n * n from hsE_len _ _ _] at this
    exact this
   ·have:=rat_any n n hc i j ho _ w' ⟨hq,hsE_len _ _ _,n6,n6⟩ hi (by omega)
    rw [show elM n (hsF n (natL I) (natL J)).H i j = 0 from el_hsE hi (by omega) (by omega),show (hsF n (natL I) (natL J)).H.length = n * n from hsE_len _ _ _] at this
    exact this
  | false =>
   refine hessZ_err n n n n ao bo I.length cap J.length d 2 w (.inr (.inl rfl)) (fun w' hb=>(C w' hb).mono ?_) KA
   rintro e w'' ⟨⟨h0,_⟩ | ⟨_,rfl⟩,hb2⟩
   ·rw [hk] at h0;cases h0
   ·exact ⟨rfl,hb2⟩
 ·refine hessZ_err r c p s ao bo I.length cap J.length d _ w ?_ (fun w' hb=>hBring_no r c p s ao bo cap d I J w' (hI.below hb) (hJ.below hb) (by omega) (by omega) ?_) KA
  ·rcases er18 (r:=r) (c:=c) (p:=p) (q:=s) (I:=I) (J:=J) with e | e | e
   ·rw [if_pos e];exact .inr (.inr (.inl rfl))
   ·rw [e,if_neg (by decide)];exact .inl rfl
   ·rw [e,if_neg (by decide)];exact .inr (.inr (.inr rfl))
  ·by_cases h0:ck2 r c I p s J = 0
   ·exact .inr (fun k=>h ⟨h0,k⟩)
   ·exact .inl h0
end Go.Proofs.YtlnphkioddknfaaGreatDoor
namespace Go.Proofs.YtlnphkioddknfaaGreatDoor
open Go.ChangeShapes Go.WideShapes Go.ChangeAt Go.RowKit Go.Joins
theorem Tryz.own:ownKnob Tryz.prog.godebug = none:=by kernel_rfl
theorem Tryz.laidOut:laidOutB Tryz.prog = true:=by kernel_rfl
end Go.Proofs.YtlnphkioddknfaaGreatDoor
namespace Go.Proofs.YtlnphkioddknfaaGreatDoor
theorem bounds_of_i64 {x:Int} (h:(Lit.int .i64 x).wf = true):-9223372036854775808≤x∧x≤9223372036854775807:=by
 simp [Lit.wf,IntKind.min,IntKind.max,IntKind.signed,IntKind.bits] at h
 omega
end Go.Proofs.YtlnphkioddknfaaGreatDoor
