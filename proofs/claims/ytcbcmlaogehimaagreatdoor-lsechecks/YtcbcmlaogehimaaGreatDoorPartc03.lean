/- Part 3 of the texts. -/
import Derived.Test.YtcbcmlaogehimaaGreatDoorPartc02
import Derived.Deep.RegionHeld3
import Derived.Test.YtcbcmlaogehimaaGreatDoorPartc01
set_option maxHeartbeats 4000000
namespace Go.Proofs.YtcbcmlaogehimaaGreatDoor
open Go.RowKit
theorem kd_keep {W0:World} {g:Nat} {x y z:Value} (x0:BoxF W0 g x y z):∀ w',Below W0.heap.size W0 w'→Below W0.heap.size W0 w'∧w'.cell? ⟨g,0,none⟩ = some x∧w'.cell? ⟨g,1,none⟩ = some y∧w'.cell? ⟨g,2,none⟩ = some z:=fun _ h=>⟨h,(x0.all h).c0,(x0.all h).c1,(x0.all h).c2⟩
theorem kd_on {W0 w' w'':World} {p:Prop} (h:Below W0.heap.size W0 w'∧p) (hb:Below w'.heap.size w' w''):Below W0.heap.size W0 w'':=h.1.trans (hb.mono h.1.size)
theorem kd_bel {w W0 w':World} {p:Prop} (h0:Hid (Below w.heap.size w W0)) (h:Below W0.heap.size W0 w'∧p):Below w.heap.size w w':=h0.out.trans (h.1.mono h0.out.size)
theorem split_c0 (w:World):Calls Tryz.prog 200 #[.int .u64 0] w fun e w'=>e = .returned (.agg #[.bool false,.int .u64 0,.int .u64 0])∧Below w.heap.size w w':=by
 have h:=split_any 0 w (by decide)
 simpa [fV,fS,fP,fF] using h
theorem split_c1 (w:World):Calls Tryz.prog 200 #[.int .u64 9223372036854775808] w fun e w'=>e = .returned (.agg #[.bool true,.int .u64 0,.int .u64 0])∧Below w.heap.size w w':=by
 have h:=split_any 9223372036854775808 w (by decide)
 simpa [fV,fS,fP,fF] using h
theorem split_c2 (w:World):Calls Tryz.prog 200 #[.int .u64 9218868437227405312] w fun e w'=>e = .returned (.agg #[.bool false,.int .u64 2047,.int .u64 0])∧Below w.heap.size w w':=by
 have h:=split_any 9218868437227405312 w (by decide)
 simpa [fV,fS,fP,fF] using h
theorem split_c3 (w:World):Calls Tryz.prog 200 #[.int .u64 18442240474082181120] w fun e w'=>e = .returned (.agg #[.bool true,.int .u64 2047,.int .u64 0])∧Below w.heap.size w w':=by
 have h:=split_any 18442240474082181120 w (by decide)
 simpa [fV,fS,fP,fF] using h
theorem kind_z0 (b:Nat) (w:World) (C:∀ w',Calls Tryz.prog 200 #[.int .u64 b] w' fun e w''=>e = .returned (.agg #[.bool false,.int .u64 0,.int .u64 0])∧Below w'.heap.size w' w'')  :
  Calls Tryz.prog 164 #[.int .u64 b] w fun e w'=>e = .returned (.int .i64 0)∧Below w.heap.size w w':=by
 have C0:=hide split_c0
 have CS:=hide C
 clear C
 go_enter Tryz.func164,Tryz.ntmps164
 go_wp2_with fail
 refine (uH CS _).mono ?_
 rintro e w1 ⟨rfl,hb1⟩
 clear CS
 go_wp2
 refine at_world (fun W=>Below w.heap.size w W∧BoxF W w1.heap.size (.bool false) (.int .u64 0) (.int .u64 0)) ⟨hb1.alloc hb1.size _,BoxF.new _ _ _ _⟩ ?_
 rintro W0 ⟨b0,x0⟩
 clear hb1
 generalize w1.heap.size = g at *
 have HK:=hide (kd_keep x0);have BB:=hide b0;have X0:=hide x0;clear x0 b0
 go_region_held3 (fun w'=>Below W0.heap.size W0 w'∧w'.cell? ⟨g,0,none⟩ = some (.bool false)∧w'.cell? ⟨g,1,none⟩ = some (.int .u64 0)∧w'.cell? ⟨g,2,none⟩ = some (.int .u64 0))
  (first | exact uH HK _ (Below.refl _ _).drew | exact uH HK _ (by assumption) | fail "NO KEEP")
  (first | (go_at_call 200;refine (uH C0 _).mono ?_;rintro e wn ⟨rfl,hb1⟩;have hB:=kd_on (by assumption) hb1;clear hb1) | fail "NO ARM")
 go_wp2
 go_ret
 exact ⟨rfl,kd_bel BB (by assumption)⟩
theorem kind_i0 (b:Nat) (w:World) (C:∀ w',Calls Tryz.prog 200 #[.int .u64 b] w' fun e w''=>e = .returned (.agg #[.bool false,.int .u64 2047,.int .u64 0])∧Below w'.heap.size w' w'')  :
  Calls Tryz.prog 164 #[.int .u64 b] w fun e w'=>e = .returned (.int .i64 3)∧Below w.heap.size w w':=by
 have C0:=hide split_c0
 have C1:=hide split_c1
 have C2:=hide split_c2
 have CS:=hide C
 clear C
 go_enter Tryz.func164,Tryz.ntmps164
 go_wp2_with fail
 refine (uH CS _).mono ?_
 rintro e w1 ⟨rfl,hb1⟩
 clear CS
 go_wp2
 refine at_world (fun W=>Below w.heap.size w W∧BoxF W w1.heap.size (.bool false) (.int .u64 2047) (.int .u64 0)) ⟨hb1.alloc hb1.size _,BoxF.new _ _ _ _⟩ ?_
 rintro W0 ⟨b0,x0⟩
 clear hb1
 generalize w1.heap.size = g at *
 have HK:=hide (kd_keep x0);have BB:=hide b0;have X0:=hide x0;clear x0 b0
 iterate 2 (go_region_held3 (fun w'=>Below W0.heap.size W0 w'∧w'.cell? ⟨g,0,none⟩ = some (.bool false)∧w'.cell? ⟨g,1,none⟩ = some (.int .u64 2047)∧w'.cell? ⟨g,2,none⟩ = some (.int .u64 0))
  (first | exact uH HK _ (Below.refl _ _).drew | exact uH HK _ (by assumption) | fail "NO KEEP")
  (first | (go_at_call 200;(first | (refine (uH C0 _).mono ?_;clear C0) | (refine (uH C1 _).mono ?_;clear C1) | (refine (uH C2 _).mono ?_;clear C2));rintro e wn ⟨rfl,hb1⟩;have hB:=kd_on (by assumption) hb1;clear hb1) | fail "NO ARM");go_wp2;refine at_world (fun W=>Below w.heap.size w W∧BoxF W g (.bool false) (.int .u64 2047) (.int .u64 0)) ⟨kd_bel BB (by assumption),(uH X0).all (And.left (by assumption))⟩ ?_;clear HK BB X0;rintro W0 ⟨b0,x0⟩;have HK:=hide (kd_keep x0);have BB:=hide b0;have X0:=hide x0;clear x0 b0)
 go_region_held3 (fun w'=>Below W0.heap.size W0 w'∧w'.cell? ⟨g,0,none⟩ = some (.bool false)∧w'.cell? ⟨g,1,none⟩ = some (.int .u64 2047)∧w'.cell? ⟨g,2,none⟩ = some (.int .u64 0))
  (first | exact uH HK _ (Below.refl _ _).drew | exact uH HK _ (by assumption) | fail "NO KEEP")
  (first | (go_at_call 200;(first | (refine (uH C0 _).mono ?_;clear C0) | (refine (uH C1 _).mono ?_;clear C1) | (refine (uH C2 _).mono ?_;clear C2));rintro e wn ⟨rfl,hb1⟩;have hB:=kd_on (by assumption) hb1;clear hb1) | fail "NO ARM")
 go_wp2
 go_ret
 exact ⟨rfl,kd_bel BB (by assumption)⟩
theorem kind_s0 (b:Nat) (f:Nat) (w:World) (C:∀ w',Calls Tryz.prog 200 #[.int .u64 b] w' fun e w''=>e = .returned (.agg #[.bool false,.int .u64 0,.int .u64 f])∧Below w'.heap.size w' w'') (hf:((f:Int) == 0) = false) :
  Calls Tryz.prog 164 #[.int .u64 b] w fun e w'=>e = .returned (.int .i64 1)∧Below w.heap.size w w':=by
 have C0:=hide split_c0
 have C1:=hide split_c1
 have C2:=hide split_c2
 have C3:=hide split_c3
 have CS:=hide C
 clear C
 go_enter Tryz.func164,Tryz.ntmps164
 go_wp2_with fail
 refine (uH CS _).mono ?_
 rintro e w1 ⟨rfl,hb1⟩
 clear CS
 go_wp2
 refine at_world (fun W=>Below w.heap.size w W∧BoxF W w1.heap.size (.bool false) (.int .u64 0) (.int .u64 f)) ⟨hb1.alloc hb1.size _,BoxF.new _ _ _ _⟩ ?_
 rintro W0 ⟨b0,x0⟩
 clear hb1
 generalize w1.heap.size = g at *
 have HK:=hide (kd_keep x0);have BB:=hide b0;have X0:=hide x0;clear x0 b0
 iterate 3 (go_region_held3 (fun w'=>Below W0.heap.size W0 w'∧w'.cell? ⟨g,0,none⟩ = some (.bool false)∧w'.cell? ⟨g,1,none⟩ = some (.int .u64 0)∧w'.cell? ⟨g,2,none⟩ = some (.int .u64 f))
  (first | exact uH HK _ (Below.refl _ _).drew | exact uH HK _ (by assumption) | fail "NO KEEP")
  (first | (go_at_call 200;(first | (refine (uH C0 _).mono ?_;clear C0) | (refine (uH C1 _).mono ?_;clear C1) | (refine (uH C2 _).mono ?_;clear C2) | (refine (uH C3 _).mono ?_;clear C3));rintro e wn ⟨rfl,hb1⟩;have hB:=kd_on (by assumption) hb1;clear hb1) | fail "NO ARM");go_wp2;refine at_world (fun W=>Below w.heap.size w W∧BoxF W g (.bool false) (.int .u64 0) (.int .u64 f)) ⟨kd_bel BB (by assumption),(uH X0).all (And.left (by assumption))⟩ ?_;clear HK BB X0;rintro W0 ⟨b0,x0⟩;have HK:=hide (kd_keep x0);have BB:=hide b0;have X0:=hide x0;clear x0 b0)
 go_region_held3 (fun w'=>Below W0.heap.size W0 w'∧w'.cell? ⟨g,0,none⟩ = some (.bool false)∧w'.cell? ⟨g,1,none⟩ = some (.int .u64 0)∧w'.cell? ⟨g,2,none⟩ = some (.int .u64 f))
  (first | exact uH HK _ (Below.refl _ _).drew | exact uH HK _ (by assumption) | fail "NO KEEP")
  (first | (go_at_call 200;(first | (refine (uH C0 _).mono ?_;clear C0) | (refine (uH C1 _).mono ?_;clear C1) | (refine (uH C2 _).mono ?_;clear C2) | (refine (uH C3 _).mono ?_;clear C3));rintro e wn ⟨rfl,hb1⟩;have hB:=kd_on (by assumption) hb1;clear hb1) | fail "NO ARM")
 go_wp2
 go_ret
 exact ⟨rfl,kd_bel BB (by assumption)⟩
theorem kind_n0 (b:Nat) (f:Nat) (w:World) (C:∀ w',Calls Tryz.prog 200 #[.int .u64 b] w' fun e w''=>e = .returned (.agg #[.bool false,.int .u64 2047,.int .u64 f])∧Below w'.heap.size w' w'') (hf:((f:Int) == 0) = false) :
  Calls Tryz.prog 164 #[.int .u64 b] w fun e w'=>e = .returned (.int .i64 4)∧Below w.heap.size w w':=by
 have C0:=hide split_c0
 have C1:=hide split_c1
 have C2:=hide split_c2
 have C3:=hide split_c3
 have CS:=hide C
 clear C
 go_enter Tryz.func164,Tryz.ntmps164
 go_wp2_with fail
 refine (uH CS _).mono ?_
 rintro e w1 ⟨rfl,hb1⟩
 clear CS
 go_wp2
 refine at_world (fun W=>Below w.heap.size w W∧BoxF W w1.heap.size (.bool false) (.int .u64 2047) (.int .u64 f)) ⟨hb1.alloc hb1.size _,BoxF.new _ _ _ _⟩ ?_
 rintro W0 ⟨b0,x0⟩
 clear hb1
 generalize w1.heap.size = g at *
 have HK:=hide (kd_keep x0);have BB:=hide b0;have X0:=hide x0;clear x0 b0
 iterate 3 (go_region_held3 (fun w'=>Below W0.heap.size W0 w'∧w'.cell? ⟨g,0,none⟩ = some (.bool false)∧w'.cell? ⟨g,1,none⟩ = some (.int .u64 2047)∧w'.cell? ⟨g,2,none⟩ = some (.int .u64 f))
  (first | exact uH HK _ (Below.refl _ _).drew | exact uH HK _ (by assumption) | fail "NO KEEP")
  (first | (go_at_call 200;(first | (refine (uH C0 _).mono ?_;clear C0) | (refine (uH C1 _).mono ?_;clear C1) | (refine (uH C2 _).mono ?_;clear C2) | (refine (uH C3 _).mono ?_;clear C3));rintro e wn ⟨rfl,hb1⟩;have hB:=kd_on (by assumption) hb1;clear hb1) | fail "NO ARM");go_wp2;refine at_world (fun W=>Below w.heap.size w W∧BoxF W g (.bool false) (.int .u64 2047) (.int .u64 f)) ⟨kd_bel BB (by assumption),(uH X0).all (And.left (by assumption))⟩ ?_;clear HK BB X0;rintro W0 ⟨b0,x0⟩;have HK:=hide (kd_keep x0);have BB:=hide b0;have X0:=hide x0;clear x0 b0)
 go_region_held3 (fun w'=>Below W0.heap.size W0 w'∧w'.cell? ⟨g,0,none⟩ = some (.bool false)∧w'.cell? ⟨g,1,none⟩ = some (.int .u64 2047)∧w'.cell? ⟨g,2,none⟩ = some (.int .u64 f))
  (first | exact uH HK _ (Below.refl _ _).drew | exact uH HK _ (by assumption) | fail "NO KEEP")
  (first | (go_at_call 200;(first | (refine (uH C0 _).mono ?_;clear C0) | (refine (uH C1 _).mono ?_;clear C1) | (refine (uH C2 _).mono ?_;clear C2) | (refine (uH C3 _).mono ?_;clear C3));rintro e wn ⟨rfl,hb1⟩;have hB:=kd_on (by assumption) hb1;clear hb1) | fail "NO ARM")
 go_wp2
 go_ret
 exact ⟨rfl,kd_bel BB (by assumption)⟩
theorem kind_o0 (b:Nat) (p:Nat) (f:Nat) (w:World) (C:∀ w',Calls Tryz.prog 200 #[.int .u64 b] w' fun e w''=>e = .returned (.agg #[.bool false,.int .u64 p,.int .u64 f])∧Below w'.heap.size w' w'') (hp:((p:Int) == 0) = false) (hq:((p:Int) == 2047) = false) :
  Calls Tryz.prog 164 #[.int .u64 b] w fun e w'=>e = .returned (.int .i64 2)∧Below w.heap.size w w':=by
 have C0:=hide split_c0
 have C1:=hide split_c1
 have C2:=hide split_c2
 have C3:=hide split_c3
 have CS:=hide C
 clear C
 go_enter Tryz.func164,Tryz.ntmps164
 go_wp2_with fail
 refine (uH CS _).mono ?_
 rintro e w1 ⟨rfl,hb1⟩
 clear CS
 go_wp2
 refine at_world (fun W=>Below w.heap.size w W∧BoxF W w1.heap.size (.bool false) (.int .u64 p) (.int .u64 f)) ⟨hb1.alloc hb1.size _,BoxF.new _ _ _ _⟩ ?_
 rintro W0 ⟨b0,x0⟩
 clear hb1
 generalize w1.heap.size = g at *
 have HK:=hide (kd_keep x0);have BB:=hide b0;have X0:=hide x0;clear x0 b0
 iterate 3 (go_region_held3 (fun w'=>Below W0.heap.size W0 w'∧w'.cell? ⟨g,0,none⟩ = some (.bool false)∧w'.cell? ⟨g,1,none⟩ = some (.int .u64 p)∧w'.cell? ⟨g,2,none⟩ = some (.int .u64 f))
  (first | exact uH HK _ (Below.refl _ _).drew | exact uH HK _ (by assumption) | fail "NO KEEP")
  (first | (go_at_call 200;(first | (refine (uH C0 _).mono ?_;clear C0) | (refine (uH C1 _).mono ?_;clear C1) | (refine (uH C2 _).mono ?_;clear C2) | (refine (uH C3 _).mono ?_;clear C3));rintro e wn ⟨rfl,hb1⟩;have hB:=kd_on (by assumption) hb1;clear hb1) | fail "NO ARM");go_wp2;refine at_world (fun W=>Below w.heap.size w W∧BoxF W g (.bool false) (.int .u64 p) (.int .u64 f)) ⟨kd_bel BB (by assumption),(uH X0).all (And.left (by assumption))⟩ ?_;clear HK BB X0;rintro W0 ⟨b0,x0⟩;have HK:=hide (kd_keep x0);have BB:=hide b0;have X0:=hide x0;clear x0 b0)
 go_region_held3 (fun w'=>Below W0.heap.size W0 w'∧w'.cell? ⟨g,0,none⟩ = some (.bool false)∧w'.cell? ⟨g,1,none⟩ = some (.int .u64 p)∧w'.cell? ⟨g,2,none⟩ = some (.int .u64 f))
  (first | exact uH HK _ (Below.refl _ _).drew | exact uH HK _ (by assumption) | fail "NO KEEP")
  (first | (go_at_call 200;(first | (refine (uH C0 _).mono ?_;clear C0) | (refine (uH C1 _).mono ?_;clear C1) | (refine (uH C2 _).mono ?_;clear C2) | (refine (uH C3 _).mono ?_;clear C3));rintro e wn ⟨rfl,hb1⟩;have hB:=kd_on (by assumption) hb1;clear hb1) | fail "NO ARM")
 go_wp2
 go_ret
 exact ⟨rfl,kd_bel BB (by assumption)⟩
theorem kind_z1 (b:Nat) (w:World) (C:∀ w',Calls Tryz.prog 200 #[.int .u64 b] w' fun e w''=>e = .returned (.agg #[.bool true,.int .u64 0,.int .u64 0])∧Below w'.heap.size w' w'')  :
  Calls Tryz.prog 164 #[.int .u64 b] w fun e w'=>e = .returned (.int .i64 0)∧Below w.heap.size w w':=by
 have C0:=hide split_c0
 have C1:=hide split_c1
 have CS:=hide C
 clear C
 go_enter Tryz.func164,Tryz.ntmps164
 go_wp2_with fail
 refine (uH CS _).mono ?_
 rintro e w1 ⟨rfl,hb1⟩
 clear CS
 go_wp2
 refine at_world (fun W=>Below w.heap.size w W∧BoxF W w1.heap.size (.bool true) (.int .u64 0) (.int .u64 0)) ⟨hb1.alloc hb1.size _,BoxF.new _ _ _ _⟩ ?_
 rintro W0 ⟨b0,x0⟩
 clear hb1
 generalize w1.heap.size = g at *
 have HK:=hide (kd_keep x0);have BB:=hide b0;have X0:=hide x0;clear x0 b0
 iterate 1 (go_region_held3 (fun w'=>Below W0.heap.size W0 w'∧w'.cell? ⟨g,0,none⟩ = some (.bool true)∧w'.cell? ⟨g,1,none⟩ = some (.int .u64 0)∧w'.cell? ⟨g,2,none⟩ = some (.int .u64 0))
  (first | exact uH HK _ (Below.refl _ _).drew | exact uH HK _ (by assumption) | fail "NO KEEP")
  (first | (go_at_call 200;(first | (refine (uH C0 _).mono ?_;clear C0) | (refine (uH C1 _).mono ?_;clear C1));rintro e wn ⟨rfl,hb1⟩;have hB:=kd_on (by assumption) hb1;clear hb1) | fail "NO ARM");go_wp2;refine at_world (fun W=>Below w.heap.size w W∧BoxF W g (.bool true) (.int .u64 0) (.int .u64 0)) ⟨kd_bel BB (by assumption),(uH X0).all (And.left (by assumption))⟩ ?_;clear HK BB X0;rintro W0 ⟨b0,x0⟩;have HK:=hide (kd_keep x0);have BB:=hide b0;have X0:=hide x0;clear x0 b0)
 go_region_held3 (fun w'=>Below W0.heap.size W0 w'∧w'.cell? ⟨g,0,none⟩ = some (.bool true)∧w'.cell? ⟨g,1,none⟩ = some (.int .u64 0)∧w'.cell? ⟨g,2,none⟩ = some (.int .u64 0))
  (first | exact uH HK _ (Below.refl _ _).drew | exact uH HK _ (by assumption) | fail "NO KEEP")
  (first | (go_at_call 200;(first | (refine (uH C0 _).mono ?_;clear C0) | (refine (uH C1 _).mono ?_;clear C1));rintro e wn ⟨rfl,hb1⟩;have hB:=kd_on (by assumption) hb1;clear hb1) | fail "NO ARM")
 go_wp2
 go_ret
 exact ⟨rfl,kd_bel BB (by assumption)⟩
theorem kind_i1 (b:Nat) (w:World) (C:∀ w',Calls Tryz.prog 200 #[.int .u64 b] w' fun e w''=>e = .returned (.agg #[.bool true,.int .u64 2047,.int .u64 0])∧Below w'.heap.size w' w'')  :
  Calls Tryz.prog 164 #[.int .u64 b] w fun e w'=>e = .returned (.int .i64 3)∧Below w.heap.size w w':=by
 have C0:=hide split_c0
 have C1:=hide split_c1
 have C2:=hide split_c2
 have C3:=hide split_c3
 have CS:=hide C
 clear C
 go_enter Tryz.func164,Tryz.ntmps164
 go_wp2_with fail
 refine (uH CS _).mono ?_
 rintro e w1 ⟨rfl,hb1⟩
 clear CS
 go_wp2
 refine at_world (fun W=>Below w.heap.size w W∧BoxF W w1.heap.size (.bool true) (.int .u64 2047) (.int .u64 0)) ⟨hb1.alloc hb1.size _,BoxF.new _ _ _ _⟩ ?_
 rintro W0 ⟨b0,x0⟩
 clear hb1
 generalize w1.heap.size = g at *
 have HK:=hide (kd_keep x0);have BB:=hide b0;have X0:=hide x0;clear x0 b0
 iterate 3 (go_region_held3 (fun w'=>Below W0.heap.size W0 w'∧w'.cell? ⟨g,0,none⟩ = some (.bool true)∧w'.cell? ⟨g,1,none⟩ = some (.int .u64 2047)∧w'.cell? ⟨g,2,none⟩ = some (.int .u64 0))
  (first | exact uH HK _ (Below.refl _ _).drew | exact uH HK _ (by assumption) | fail "NO KEEP")
  (first | (go_at_call 200;(first | (refine (uH C0 _).mono ?_;clear C0) | (refine (uH C1 _).mono ?_;clear C1) | (refine (uH C2 _).mono ?_;clear C2) | (refine (uH C3 _).mono ?_;clear C3));rintro e wn ⟨rfl,hb1⟩;have hB:=kd_on (by assumption) hb1;clear hb1) | fail "NO ARM");go_wp2;refine at_world (fun W=>Below w.heap.size w W∧BoxF W g (.bool true) (.int .u64 2047) (.int .u64 0)) ⟨kd_bel BB (by assumption),(uH X0).all (And.left (by assumption))⟩ ?_;clear HK BB X0;rintro W0 ⟨b0,x0⟩;have HK:=hide (kd_keep x0);have BB:=hide b0;have X0:=hide x0;clear x0 b0)
 go_region_held3 (fun w'=>Below W0.heap.size W0 w'∧w'.cell? ⟨g,0,none⟩ = some (.bool true)∧w'.cell? ⟨g,1,none⟩ = some (.int .u64 2047)∧w'.cell? ⟨g,2,none⟩ = some (.int .u64 0))
  (first | exact uH HK _ (Below.refl _ _).drew | exact uH HK _ (by assumption) | fail "NO KEEP")
  (first | (go_at_call 200;(first | (refine (uH C0 _).mono ?_;clear C0) | (refine (uH C1 _).mono ?_;clear C1) | (refine (uH C2 _).mono ?_;clear C2) | (refine (uH C3 _).mono ?_;clear C3));rintro e wn ⟨rfl,hb1⟩;have hB:=kd_on (by assumption) hb1;clear hb1) | fail "NO ARM")
 go_wp2
 go_ret
 exact ⟨rfl,kd_bel BB (by assumption)⟩
theorem kind_s1 (b:Nat) (f:Nat) (w:World) (C:∀ w',Calls Tryz.prog 200 #[.int .u64 b] w' fun e w''=>e = .returned (.agg #[.bool true,.int .u64 0,.int .u64 f])∧Below w'.heap.size w' w'') (hf:((f:Int) == 0) = false) :
  Calls Tryz.prog 164 #[.int .u64 b] w fun e w'=>e = .returned (.int .i64 1)∧Below w.heap.size w w':=by
 have C0:=hide split_c0
 have C1:=hide split_c1
 have C2:=hide split_c2
 have C3:=hide split_c3
 have CS:=hide C
 clear C
 go_enter Tryz.func164,Tryz.ntmps164
 go_wp2_with fail
 refine (uH CS _).mono ?_
 rintro e w1 ⟨rfl,hb1⟩
 clear CS
 go_wp2
 refine at_world (fun W=>Below w.heap.size w W∧BoxF W w1.heap.size (.bool true) (.int .u64 0) (.int .u64 f)) ⟨hb1.alloc hb1.size _,BoxF.new _ _ _ _⟩ ?_
 rintro W0 ⟨b0,x0⟩
 clear hb1
 generalize w1.heap.size = g at *
 have HK:=hide (kd_keep x0);have BB:=hide b0;have X0:=hide x0;clear x0 b0
 iterate 3 (go_region_held3 (fun w'=>Below W0.heap.size W0 w'∧w'.cell? ⟨g,0,none⟩ = some (.bool true)∧w'.cell? ⟨g,1,none⟩ = some (.int .u64 0)∧w'.cell? ⟨g,2,none⟩ = some (.int .u64 f))
  (first | exact uH HK _ (Below.refl _ _).drew | exact uH HK _ (by assumption) | fail "NO KEEP")
  (first | (go_at_call 200;(first | (refine (uH C0 _).mono ?_;clear C0) | (refine (uH C1 _).mono ?_;clear C1) | (refine (uH C2 _).mono ?_;clear C2) | (refine (uH C3 _).mono ?_;clear C3));rintro e wn ⟨rfl,hb1⟩;have hB:=kd_on (by assumption) hb1;clear hb1) | fail "NO ARM");go_wp2;refine at_world (fun W=>Below w.heap.size w W∧BoxF W g (.bool true) (.int .u64 0) (.int .u64 f)) ⟨kd_bel BB (by assumption),(uH X0).all (And.left (by assumption))⟩ ?_;clear HK BB X0;rintro W0 ⟨b0,x0⟩;have HK:=hide (kd_keep x0);have BB:=hide b0;have X0:=hide x0;clear x0 b0)
 go_region_held3 (fun w'=>Below W0.heap.size W0 w'∧w'.cell? ⟨g,0,none⟩ = some (.bool true)∧w'.cell? ⟨g,1,none⟩ = some (.int .u64 0)∧w'.cell? ⟨g,2,none⟩ = some (.int .u64 f))
  (first | exact uH HK _ (Below.refl _ _).drew | exact uH HK _ (by assumption) | fail "NO KEEP")
  (first | (go_at_call 200;(first | (refine (uH C0 _).mono ?_;clear C0) | (refine (uH C1 _).mono ?_;clear C1) | (refine (uH C2 _).mono ?_;clear C2) | (refine (uH C3 _).mono ?_;clear C3));rintro e wn ⟨rfl,hb1⟩;have hB:=kd_on (by assumption) hb1;clear hb1) | fail "NO ARM")
 go_wp2
 go_ret
 exact ⟨rfl,kd_bel BB (by assumption)⟩
theorem kind_n1 (b:Nat) (f:Nat) (w:World) (C:∀ w',Calls Tryz.prog 200 #[.int .u64 b] w' fun e w''=>e = .returned (.agg #[.bool true,.int .u64 2047,.int .u64 f])∧Below w'.heap.size w' w'') (hf:((f:Int) == 0) = false) :
  Calls Tryz.prog 164 #[.int .u64 b] w fun e w'=>e = .returned (.int .i64 4)∧Below w.heap.size w w':=by
 have C0:=hide split_c0
 have C1:=hide split_c1
 have C2:=hide split_c2
 have C3:=hide split_c3
 have CS:=hide C
 clear C
 go_enter Tryz.func164,Tryz.ntmps164
 go_wp2_with fail
 refine (uH CS _).mono ?_
 rintro e w1 ⟨rfl,hb1⟩
 clear CS
 go_wp2
 refine at_world (fun W=>Below w.heap.size w W∧BoxF W w1.heap.size (.bool true) (.int .u64 2047) (.int .u64 f)) ⟨hb1.alloc hb1.size _,BoxF.new _ _ _ _⟩ ?_
 rintro W0 ⟨b0,x0⟩
 clear hb1
 generalize w1.heap.size = g at *
 have HK:=hide (kd_keep x0);have BB:=hide b0;have X0:=hide x0;clear x0 b0
 iterate 3 (go_region_held3 (fun w'=>Below W0.heap.size W0 w'∧w'.cell? ⟨g,0,none⟩ = some (.bool true)∧w'.cell? ⟨g,1,none⟩ = some (.int .u64 2047)∧w'.cell? ⟨g,2,none⟩ = some (.int .u64 f))
  (first | exact uH HK _ (Below.refl _ _).drew | exact uH HK _ (by assumption) | fail "NO KEEP")
  (first | (go_at_call 200;(first | (refine (uH C0 _).mono ?_;clear C0) | (refine (uH C1 _).mono ?_;clear C1) | (refine (uH C2 _).mono ?_;clear C2) | (refine (uH C3 _).mono ?_;clear C3));rintro e wn ⟨rfl,hb1⟩;have hB:=kd_on (by assumption) hb1;clear hb1) | fail "NO ARM");go_wp2;refine at_world (fun W=>Below w.heap.size w W∧BoxF W g (.bool true) (.int .u64 2047) (.int .u64 f)) ⟨kd_bel BB (by assumption),(uH X0).all (And.left (by assumption))⟩ ?_;clear HK BB X0;rintro W0 ⟨b0,x0⟩;have HK:=hide (kd_keep x0);have BB:=hide b0;have X0:=hide x0;clear x0 b0)
 go_region_held3 (fun w'=>Below W0.heap.size W0 w'∧w'.cell? ⟨g,0,none⟩ = some (.bool true)∧w'.cell? ⟨g,1,none⟩ = some (.int .u64 2047)∧w'.cell? ⟨g,2,none⟩ = some (.int .u64 f))
  (first | exact uH HK _ (Below.refl _ _).drew | exact uH HK _ (by assumption) | fail "NO KEEP")
  (first | (go_at_call 200;(first | (refine (uH C0 _).mono ?_;clear C0) | (refine (uH C1 _).mono ?_;clear C1) | (refine (uH C2 _).mono ?_;clear C2) | (refine (uH C3 _).mono ?_;clear C3));rintro e wn ⟨rfl,hb1⟩;have hB:=kd_on (by assumption) hb1;clear hb1) | fail "NO ARM")
 go_wp2
 go_ret
 exact ⟨rfl,kd_bel BB (by assumption)⟩
theorem kind_o1 (b:Nat) (p:Nat) (f:Nat) (w:World) (C:∀ w',Calls Tryz.prog 200 #[.int .u64 b] w' fun e w''=>e = .returned (.agg #[.bool true,.int .u64 p,.int .u64 f])∧Below w'.heap.size w' w'') (hp:((p:Int) == 0) = false) (hq:((p:Int) == 2047) = false) :
  Calls Tryz.prog 164 #[.int .u64 b] w fun e w'=>e = .returned (.int .i64 2)∧Below w.heap.size w w':=by
 have C0:=hide split_c0
 have C1:=hide split_c1
 have C2:=hide split_c2
 have C3:=hide split_c3
 have CS:=hide C
 clear C
 go_enter Tryz.func164,Tryz.ntmps164
 go_wp2_with fail
 refine (uH CS _).mono ?_
 rintro e w1 ⟨rfl,hb1⟩
 clear CS
 go_wp2
 refine at_world (fun W=>Below w.heap.size w W∧BoxF W w1.heap.size (.bool true) (.int .u64 p) (.int .u64 f)) ⟨hb1.alloc hb1.size _,BoxF.new _ _ _ _⟩ ?_
 rintro W0 ⟨b0,x0⟩
 clear hb1
 generalize w1.heap.size = g at *
 have HK:=hide (kd_keep x0);have BB:=hide b0;have X0:=hide x0;clear x0 b0
 iterate 3 (go_region_held3 (fun w'=>Below W0.heap.size W0 w'∧w'.cell? ⟨g,0,none⟩ = some (.bool true)∧w'.cell? ⟨g,1,none⟩ = some (.int .u64 p)∧w'.cell? ⟨g,2,none⟩ = some (.int .u64 f))
  (first | exact uH HK _ (Below.refl _ _).drew | exact uH HK _ (by assumption) | fail "NO KEEP")
  (first | (go_at_call 200;(first | (refine (uH C0 _).mono ?_;clear C0) | (refine (uH C1 _).mono ?_;clear C1) | (refine (uH C2 _).mono ?_;clear C2) | (refine (uH C3 _).mono ?_;clear C3));rintro e wn ⟨rfl,hb1⟩;have hB:=kd_on (by assumption) hb1;clear hb1) | fail "NO ARM");go_wp2;refine at_world (fun W=>Below w.heap.size w W∧BoxF W g (.bool true) (.int .u64 p) (.int .u64 f)) ⟨kd_bel BB (by assumption),(uH X0).all (And.left (by assumption))⟩ ?_;clear HK BB X0;rintro W0 ⟨b0,x0⟩;have HK:=hide (kd_keep x0);have BB:=hide b0;have X0:=hide x0;clear x0 b0)
 go_region_held3 (fun w'=>Below W0.heap.size W0 w'∧w'.cell? ⟨g,0,none⟩ = some (.bool true)∧w'.cell? ⟨g,1,none⟩ = some (.int .u64 p)∧w'.cell? ⟨g,2,none⟩ = some (.int .u64 f))
  (first | exact uH HK _ (Below.refl _ _).drew | exact uH HK _ (by assumption) | fail "NO KEEP")
  (first | (go_at_call 200;(first | (refine (uH C0 _).mono ?_;clear C0) | (refine (uH C1 _).mono ?_;clear C1) | (refine (uH C2 _).mono ?_;clear C2) | (refine (uH C3 _).mono ?_;clear C3));rintro e wn ⟨rfl,hb1⟩;have hB:=kd_on (by assumption) hb1;clear hb1) | fail "NO ARM")
 go_wp2
 go_ret
 exact ⟨rfl,kd_bel BB (by assumption)⟩
end Go.Proofs.YtcbcmlaogehimaaGreatDoor
namespace Go.Proofs.YtcbcmlaogehimaaGreatDoor
open Go.RowKit
theorem kind_any (b:Nat) (w:World) (h:b < 18446744073709551616) :
  Calls Tryz.prog 164 #[.int .u64 b] w fun e w'=>e = .returned (.int .i64 (fK b))∧Below w.heap.size w w':=by
 have C:=fun w'=>split_any b w' h
 unfold fV at C
 unfold fK
 generalize fF b = f at *
 generalize fP b = p at *
 generalize fS b = s at *
 by_cases h1:p = 2047
 ·subst h1
  rw [if_pos rfl]
  by_cases h2:f = 0
  ·subst h2
   rw [if_pos rfl]
   cases s
   ·exact kind_i0 b w C
   ·exact kind_i1 b w C
  ·rw [if_neg h2]
   have hf:((f:Int) == 0) = false:=by simp;omega
   cases s
   ·exact kind_n0 b f w C hf
   ·exact kind_n1 b f w C hf
 ·rw [if_neg h1]
  by_cases h2:p = 0
  ·subst h2
   rw [if_pos rfl]
   by_cases h3:f = 0
   ·subst h3
    rw [if_pos rfl]
    cases s
    ·exact kind_z0 b w C
    ·exact kind_z1 b w C
   ·rw [if_neg h3]
    have hf:((f:Int) == 0) = false:=by simp;omega
    cases s
    ·exact kind_s0 b f w C hf
    ·exact kind_s1 b f w C hf
  ·rw [if_neg h2]
   have hp:((p:Int) == 0) = false:=by simp;omega
   have hq:((p:Int) == 2047) = false:=by simp;omega
   cases s
   ·exact kind_o0 b p f w C hp hq
   ·exact kind_o1 b p f w C hp hq
def fFin (b:Nat):Bool:=decide (fP b ≠ 2047)
theorem fK_cases (b:Nat):(fFin b = false∧(fK b = 3 ∨ fK b = 4)) ∨ (fFin b = true∧(fK b = 0 ∨ fK b = 1 ∨ fK b = 2)):=by
 unfold fK fFin
 by_cases h1:fP b = 2047
 ·left
  refine ⟨by simp [h1],?_⟩
  rw [if_pos h1]
  split <;> simp
 ·right
  refine ⟨by simp [h1],?_⟩
  rw [if_neg h1]
  split
  ·split <;> simp
  ·simp
theorem sfinite_any (b:Nat) (w:World) (h:b < 18446744073709551616) :
  Calls Tryz.prog 118 #[.int .u64 b] w fun e w'=>e = .returned (.bool (fFin b))∧Below w.heap.size w w':=by
 have CK:=hide (fun w'=>kind_any b w' h)
 have hc:=fK_cases b
 generalize fFin b = q at *
 generalize fK b = k at *
 rcases hc with ⟨rfl,rfl | rfl⟩ | ⟨rfl,rfl | rfl | rfl⟩
 all_goals
  clear h
  go_enter Tryz.func118,Tryz.ntmps118
  go_wp2_with (go_at_call 164;refine (uH CK _).mono ?_;rintro e w2 ⟨rfl,hb1⟩)
  go_ret
  exact ⟨rfl,hb1⟩
theorem rfinite_any (b:Nat) (w:World) (h:b < 18446744073709551616) :
  Calls Tryz.prog 88 #[.int .u64 b] w fun e w'=>e = .returned (.bool (fFin b))∧w = w':=by
 have CK:=hide (fun w'=>rpower_any b w' h)
 have hl:=fP_lt b
 unfold fFin
 generalize fP b = k at *
 clear h
 by_cases h1:k = 2047
 ·subst h1
  go_enter Tryz.func88,Tryz.ntmps88
  go_wp2_with (go_at_call 114;refine (uH CK _).mono ?_;rintro e w2 ⟨rfl,rfl⟩)
  go_ret
  exact ⟨rfl,rfl⟩
 ·rw [decide_eq_true h1]
  have hk:(k:Int) < 2047:=by omega
  clear h1 hl
  go_enter Tryz.func88,Tryz.ntmps88
  go_wp2_with (go_at_call 114;refine (uH CK _).mono ?_;rintro e w2 ⟨rfl,rfl⟩)
  go_ret
  exact ⟨rfl,rfl⟩
theorem rkind_any (b:Nat) (w:World) (h:b < 18446744073709551616) :
  Calls Tryz.prog 89 #[.int .u64 b] w fun e w'=>e = .returned (.int .i64 (fK b))∧w = w':=by
 have CP:=hide (fun w'=>rpower_any b w' h)
 have CF:=hide (fun w'=>rfrac_any b w' h)
 unfold fK
 generalize fF b = f at *
 generalize fP b = p at *
 clear h
 by_cases h1:p = 2047
 ·subst h1
  rw [if_pos rfl]
  by_cases h2:f = 0
  ·subst h2
   rw [if_pos rfl]
   go_enter Tryz.func89,Tryz.ntmps89
   go_wp2_with (first | (go_at_call 114;refine (uH CP _).mono ?_;rintro e w2 ⟨rfl,rfl⟩) | (go_at_call 113;refine (uH CF _).mono ?_;rintro e w3 ⟨rfl,rfl⟩))
   go_ret
   exact ⟨rfl,rfl⟩
  ·rw [if_neg h2]
   have hf:((f:Int) == 0) = false:=by simp;omega
   clear h2
   go_enter Tryz.func89,Tryz.ntmps89
   go_wp2_with (first | (go_at_call 114;refine (uH CP _).mono ?_;rintro e w2 ⟨rfl,rfl⟩) | (go_at_call 113;refine (uH CF _).mono ?_;rintro e w3 ⟨rfl,rfl⟩))
   go_ret
   exact ⟨rfl,rfl⟩
 ·rw [if_neg h1]
  have hp1:((p:Int) == 2047) = false:=by simp;omega
  clear h1
  by_cases h2:p = 0
  ·subst h2
   rw [if_pos rfl]
   by_cases h3:f = 0
   ·subst h3
    rw [if_pos rfl]
    go_enter Tryz.func89,Tryz.ntmps89
    go_wp2_with (first | (go_at_call 114;refine (uH CP _).mono ?_;rintro e w2 ⟨rfl,rfl⟩) | (go_at_call 113;refine (uH CF _).mono ?_;rintro e w3 ⟨rfl,rfl⟩))
    go_ret
    exact ⟨rfl,rfl⟩
   ·rw [if_neg h3]
    have hf:decide ((0:Int) < (f:Int)) = true:=decide_eq_true (by omega)
    have hf2:(0:Int) < (f:Int):=by omega
    clear h3
    go_enter Tryz.func89,Tryz.ntmps89
    go_wp2_with (first | (go_at_call 114;refine (uH CP _).mono ?_;rintro e w2 ⟨rfl,rfl⟩) | (go_at_call 113;refine (uH CF _).mono ?_;rintro e w3 ⟨rfl,rfl⟩))
    go_ret
    exact ⟨rfl,rfl⟩
  ·rw [if_neg h2]
   have hf:decide ((0:Int) < (p:Int)) = true:=decide_eq_true (by omega)
   have hf2:(0:Int) < (p:Int):=by omega
   clear h2
   go_enter Tryz.func89,Tryz.ntmps89
   go_wp2_with (first | (go_at_call 114;refine (uH CP _).mono ?_;rintro e w2 ⟨rfl,rfl⟩) | (go_at_call 113;refine (uH CF _).mono ?_;rintro e w3 ⟨rfl,rfl⟩))
   go_ret
   exact ⟨rfl,rfl⟩
theorem rminus4_any (b:Nat) (w:World) (h:b < 18446744073709551616) :
  Calls Tryz.prog 189 #[.int .u64 b] w fun e w'=>e = .returned (.int .u64 (fN b))∧w = w':=by
 have CK:=hide (fun w'=>rneg4_any b w' h)
 by_cases hb:9223372036854775808≤b
 ·have hs:fS b = true:=decide_eq_true hb
  rw [hs] at CK
  have hw:((b:Int) - 9223372036854775808) % 18446744073709551616 = (fN b:Int):=by unfold fN;rw [if_pos hb];omega
  generalize fN b = q at *
  clear hb h hs
  go_enter Tryz.func189,Tryz.ntmps189
  go_wp2_with (go_at_call 115;refine (uH CK _).mono ?_;rintro e w2 ⟨rfl,rfl⟩)
  go_ret
  exact ⟨ret_int hw,rfl⟩
 ·have hs:fS b = false:=decide_eq_false hb
  rw [hs] at CK
  have hw:((b:Int)+9223372036854775808) % 18446744073709551616 = (fN b:Int):=by unfold fN;rw [if_neg hb];omega
  generalize fN b = q at *
  clear hb h hs
  go_enter Tryz.func189,Tryz.ntmps189
  go_wp2_with (go_at_call 115;refine (uH CK _).mono ?_;rintro e w2 ⟨rfl,rfl⟩)
  go_ret
  exact ⟨ret_int hw,rfl⟩
end Go.Proofs.YtcbcmlaogehimaaGreatDoor
namespace Go.Proofs.YtcbcmlaogehimaaGreatDoor
open Go.RowKit
theorem quiet_eq {P:Program} {f:FuncId} {args:Array Value} {w:World} {n:Nat} {v:Value}
  (h:Calls P f args (w.drewN n) fun e w'=>e = .returned v∧w.drewN n = w'):Calls P f args (w.drewN n) fun e w''=>e = .returned v∧∃ m,w'' = w.drewN m :=
 h.mono fun _ _ ⟨he,hm⟩=>⟨he,n,hm.symm⟩
def Trimmed (ao:Option Addr) (cap:Nat) (L:List Nat) (v:Value):Prop :=
 ∃ ao' cap' L',v = .slice ao' L'.length cap'∧Canon L'∧val L' = val L∧L'.length≤L.length∧(∀ w,LimbsAt w ao cap L→LimbsAt w ao' cap' L')∧(∀ B,NewAt B ao L→NewAt B ao' L')
theorem NewAt.take {B:Nat} {ao:Option Addr} {L:List Nat} (h:NewAt B ao L) (n:Nat):NewAt B ao (L.take n):=by
 rcases h with h | h
 ·left;simp [h]
 ·exact .inr h
theorem trim_any (ao:Option Addr) (cap:Nat) (L:List Nat) (w:World) (h:LimbsAt w ao cap L) (hl:L.length≤35184372088832) :
  Calls Tryz.prog 239 #[.slice ao L.length cap] w fun e w'=>∃ v,e = .returned v∧Trimmed ao cap L v∧w = w':=by
 have key:∀ k,k < L.length→val (L.take (L.length - k)) = val L→L[L.length - k - 1]?.getD 0 ≠ 0→Trimmed ao cap L (.slice ao (L.length - k) cap):=by
  intro k hk hv hx
  refine ⟨ao,cap,L.take (L.length - k),?_,?_,hv,by simp,fun w h=>h.take _,fun B h=>h.take _⟩
  ·rw [List.length_take,Nat.min_eq_left (by omega)]
  ·right
   rw [List.length_take,Nat.min_eq_left (by omega),List.getElem?_take,if_pos (by omega)]
   exact hx
 have key0:val (L.take 0) = val L→Trimmed ao cap L (.slice none 0 0):=by
  intro hv
  exact ⟨none,0,[],rfl,.inl rfl,by simpa using hv,by simp,fun _ _=>LimbsAt.nil _ _ _,fun _ _=>.inl rfl⟩
 have K:=hide key
 have K0:=hide key0
 clear key key0
 rcases h.2.2 with h0 | ⟨b,off,rfl,hb,hc⟩
 ·subst h0
  clear K
  go_enter Tryz.func239,Tryz.ntmps239
  go_wp2
  refine wp_loop_rounds 1 ?_
  rw [rounds_succ]
  go_wp2
  go_ret
  exact ⟨_,rfl,uH K0 rfl,rfl⟩
 ·have hcap:=h.1
  go_enter Tryz.func239,Tryz.ntmps239
  go_wp2
  go_loop [7] (fun i=>∃ k:Nat,k≤L.length∧i = .int .i64 k∧Hid (val (L.take (L.length - k)) = val L)) (fun i=>L.length - (intOf i).toNat)
  case atStart=>exact ⟨0,Nat.zero_le _,rfl,by unfold Hid;simp⟩
  case round =>
   obtain ⟨k,hk,rfl,hv⟩:=hrel
   by_cases hlt:k < L.length
   ·have hc1:=hc (L.length - k - 1) (by omega)
    clear hc
    by_cases hx0:L[L.length - k - 1]?.getD 0 = 0
    ·have hp:=val_take_pred L (L.length - k) hx0
     have hp':Hid (val (L.take (L.length - (k+1))) = val L):=by
      unfold Hid;rw [show L.length - (k+1) = L.length - k - 1 by omega,hp];exact hv.out
     rw [hx0] at hc1
     clear hx0 hp hv K K0 h
     go_wp2
     go_round
     case rel=>exact ⟨k+1,by omega,by go_num,hp'⟩
     case measure=>simp [intOf];omega
    ·have hT:=uH K k hlt hv.out hx0
     have HT:=hide hT
     clear hT K K0 h hv
     have hx1:(((L[L.length - k - 1]?.getD 0:Nat):Int) != 0) = true:=by rw [bne_iff_ne];omega
     generalize L[L.length - k - 1]?.getD 0 = x at *
     generalize hn:L.length = n at *
     clear hn
     go_wp2
     go_ret
     exact ⟨_,rfl,uH HT,rfl⟩
   ·have hT:=uH K0 (by rw [← hv.out,show L.length - k = 0 by omega])
    have HT:=hide hT
    clear hT K K0 h hv hc
    go_wp2
    go_ret
    exact ⟨_,rfl,uH HT,rfl⟩
end Go.Proofs.YtcbcmlaogehimaaGreatDoor
namespace Go.Proofs.YtcbcmlaogehimaaGreatDoor
open Go.RowKit
theorem LimbsAt.ne {w:World} {ao:Option Addr} {cap:Nat} {L:List Nat} (h:LimbsAt w ao cap L) (h0:0 < L.length):∃ b off,ao = some ⟨b,off,none⟩∧b < w.heap.size∧∀ i,i < L.length→w.cell? ⟨b,off+i,none⟩ = some (.int .u32 ((L[i]?.getD 0:Nat):Int)):=by
 rcases h.2.2 with e | h
 ·subst e;simp at h0
 ·exact h
end Go.Proofs.YtcbcmlaogehimaaGreatDoor
namespace Go.Proofs.YtcbcmlaogehimaaGreatDoor
open Go.RowKit
def cmpL (A B:List Nat):Int:=if A.length = B.length then cmpI (val A) (val B) else cmpI A.length B.length
theorem cmpI_lt {a b:Int} (h:a < b):cmpI a b = -1:=by simp [cmpI,h]
theorem cmpI_gt {a b:Int} (h:b < a):cmpI a b = 1:=by simp only [cmpI];rw [if_neg (by omega),if_pos h]
theorem cmpI_eq {a b:Int} (h:a = b):cmpI a b = 0:=by simp [cmpI,h]
theorem cmpI_top (A B:List Nat) (hA:Fits A) (hB:Fits B) (t:Nat) (heq:∀ i,t < i→A[i]?.getD 0 = B[i]?.getD 0) (hne:A[t]?.getD 0 ≠ B[t]?.getD 0) :
  cmpI ((A[t]?.getD 0:Nat):Int) ((B[t]?.getD 0:Nat):Int) = cmpI (val A) (val B):=by
 rcases Nat.lt_or_gt_of_ne hne with h | h
 ·have:=lt_of_top A B hA t heq h
  rw [cmpI_lt (by omega),cmpI_lt (by omega)]
 ·have:=lt_of_top B A hB t (fun i hi=>(heq i hi).symm) h
  rw [cmpI_gt (by omega),cmpI_gt (by omega)]
theorem compareLimbs_any (ao bo:Option Addr) (ca cb:Nat) (A B:List Nat) (w:World) (hA:LimbsAt w ao ca A) (hB:LimbsAt w bo cb B) (la:A.length≤35184372088832) (lb:B.length≤35184372088832) :
  Calls Tryz.prog 302 #[.slice ao A.length ca,.slice bo B.length cb] w fun e w'=>e = .returned (.int .i64 (cmpL A B))∧∃ m,w.drewN m = w':=by
 by_cases hl:A.length ≠ B.length
 ·have hne:((A.length:Int) != (B.length:Int)) = true:=by rw [bne_iff_ne];omega
  have HE:=hide (show cmpL A B = cmpI A.length B.length by simp [cmpL,hl])
  go_enter Tryz.func302,Tryz.ntmps302
  go_wp2_with (go_at_call 304;refine (cmpi_any _ _ _).mono ?_;rintro e w' ⟨rfl,rfl⟩)
  go_ret
  exact ⟨ret_int (uH HE).symm,0,rfl⟩
 have hl:A.length = B.length:=by omega
 by_cases h0:A.length = 0
 ·have eA:A = []:=List.length_eq_zero_iff.1 h0
  have eB:B = []:=List.length_eq_zero_iff.1 (by omega)
  subst eA;subst eB
  go_enter Tryz.func302,Tryz.ntmps302
  go_wp2
  refine wp_loop_rounds 1 ?_
  rw [rounds_succ]
  go_wp2
  go_ret
  exact ⟨ret_int (by simp [cmpL,cmpI]),0,rfl⟩
 obtain ⟨b1,o1,rfl,hb1,hc1⟩:=hA.ne (by omega)
 obtain ⟨b2,o2,rfl,hb2,hc2⟩:=hB.ne (by omega)
 have hTop:∀ t:Nat,(∀ i:Nat,t < i→A[i]?.getD 0 = B[i]?.getD 0)→A[t]?.getD 0 ≠ B[t]?.getD 0→cmpI ((A[t]?.getD 0:Nat):Int) ((B[t]?.getD 0:Nat):Int) = cmpL A B:=by
  intro t h1 h2
  rw [cmpI_top A B hA.2.1 hB.2.1 t h1 h2];simp [cmpL,hl]
 have hEq:(∀ i:Nat,A[i]?.getD 0 = B[i]?.getD 0)→(0:Int) = cmpL A B:=by
  intro h
  have:=val_ext A B h
  simp [cmpL,hl,this,cmpI]
 have HT:=hide hTop
 have HQ:=hide hEq
 have hAbove:∀ i:Nat,A.length≤i→A[i]?.getD 0 = B[i]?.getD 0:=fun i hi=>by
  rw [List.getElem?_eq_none (by omega),List.getElem?_eq_none (by omega)]
 have HA:=hide hAbove
 clear hTop hEq hAbove hA hB
 rw [← hl]
 generalize hb:cmpL A B = s at *
 clear hb
 generalize hm:A.length = n at *
 have hm':B.length = n:=hl.symm
 clear hl
 go_enter Tryz.func302,Tryz.ntmps302
 go_wp2
 go_loopw [19] (fun i wr=>∃ k:Nat,k≤n∧i = .int .i64 k∧Hid (∀ j,n - k≤j→A[j]?.getD 0 = B[j]?.getD 0)∧Hid (∃ m,wr = w.drewN m))
  (fun i _=>n - (intOf i).toNat)
 case atStart=>exact ⟨0,Nat.zero_le _,rfl,fun j hj=>uH HA j (by omega),0,rfl⟩
 case round =>
  obtain ⟨k,hk,rfl,hq,hw⟩:=hrel
  have hwc:∀ a,wr.cell? a = w.cell? a:=by obtain ⟨m,rfl⟩:=hw.out;intro a;rfl
  clear HA
  by_cases hlt:k < n
  ·have c1:=hc1 (n - 1 - k) (by omega)
   have c2:=hc2 (n - 1 - k) (by omega)
   rw [← hwc] at c1 c2
   clear hc1 hc2 hm hm' hwc
   have hi0:(0:Int)≤(n:Int) - 1 - (k:Int):=by omega
   have hi1:(n:Int) - 1 - (k:Int) < (n:Int):=by omega
   by_cases hx:A[n - 1 - k]?.getD 0 = B[n - 1 - k]?.getD 0
   ·have hq':Hid (∀ j,n - (k+1)≤j→A[j]?.getD 0 = B[j]?.getD 0):=fun j hj=>by
     by_cases h:n - k≤j
     ·exact hq.out j h
     ·rw [show j = n - 1 - k by omega];exact hx
    rw [hx] at c1
    clear hx hq HT HQ
    generalize B[n - 1 - k]?.getD 0 = x at *
    go_wp2
    go_quiet (fail)
    go_wp2
    go_roundw
    case rel=>exact ⟨k+1,by omega,by go_num,hq',by obtain ⟨m,rfl⟩:=hw.out;exact ⟨m+nq,by simp⟩⟩
    case measure=>simp [intOf];omega
   ·have HS:=hide (uH HT (n - 1 - k) (fun i hi=>hq.out i (by omega)) hx)
    have hx1:(((A[n - 1 - k]?.getD 0:Nat):Int) != ((B[n - 1 - k]?.getD 0:Nat):Int)) = true:=by rw [bne_iff_ne];omega
    clear HT HQ hq hx
    generalize B[n - 1 - k]?.getD 0 = x at *
    generalize A[n - 1 - k]?.getD 0 = y at *
    go_wp2
    go_quiet (fail)
    obtain ⟨w2,hw2⟩:∃ w2,w2 = wr.drewN nq:=⟨_,rfl⟩
    have c3:w2.cell? ⟨b1,o1+(n - 1 - k),none⟩ = some (.int .u32 (y:Int)):=by rw [hw2];exact c1
    have c4:w2.cell? ⟨b2,o2+(n - 1 - k),none⟩ = some (.int .u32 (x:Int)):=by rw [hw2];exact c2
    rw [← hw2]
    have HW2:Hid (∃ q,w2 = wr.drewN q):=⟨nq,hw2⟩
    clear hw2 c1 c2
    go_wp2
    go_quiet ((go_at_call 305;exact quiet_eq (cmpu_any _ _ _)))
    go_wp2
    go_ret
    obtain ⟨m,rfl⟩:=hw.out
    obtain ⟨q,hq2⟩:=HW2.out
    exact ⟨ret_int (uH HS),m+q+nq,by rw [hq2];simp⟩
  ·have HS:=hide (uH HQ (fun i=>hq.out i (by omega)))
   clear HT HQ hc1 hc2 hwc
   go_wp2
   go_ret
   obtain ⟨m,rfl⟩:=hw.out
   exact ⟨ret_int (uH HS),m,rfl⟩
end Go.Proofs.YtcbcmlaogehimaaGreatDoor
namespace Go.Proofs.YtcbcmlaogehimaaGreatDoor
open Go.RowKit
theorem limb_any (ao:Option Addr) (cap:Nat) (L:List Nat) (i:Int) (k:Nat) (w:World) (h:LimbsAt w ao cap L) (hl:L.length≤35184372088830) (hk:i = (k:Int)) :
  Calls Tryz.prog 126 #[.slice ao L.length cap,.int .i64 i] w fun e w'=>e = .returned (.int .u64 ((L[k]?.getD 0:Nat):Int))∧w = w':=by
 subst hk
 by_cases hlt:k < L.length
 ·rcases h.2.2 with h0 | ⟨b,off,rfl,hb,hc⟩
  ·subst h0;simp at hlt
  ·have hc1:=hc k hlt
   have hx:L[k]?.getD 0 < 4294967296:=by rw [List.getElem?_eq_getElem hlt];exact h.2.1 _ (List.getElem_mem hlt)
   clear h hc
   generalize L[k]?.getD 0 = x at *
   generalize L.length = n at *
   go_enter Tryz.func126,Tryz.ntmps126
   go_wp2
   go_ret
   exact ⟨rfl,rfl⟩
 ·have hx:L[k]?.getD 0 = 0:=by rw [List.getElem?_eq_none (by omega)];rfl
  rw [hx]
  clear h hx
  generalize L.length = n at *
  go_enter Tryz.func126,Tryz.ntmps126
  go_wp2
  go_ret
  exact ⟨rfl,rfl⟩
end Go.Proofs.YtcbcmlaogehimaaGreatDoor
namespace Go.Proofs.YtcbcmlaogehimaaGreatDoor
open Go.RowKit
theorem cell_setCell_other (w:World) (a p:Addr) (u:Value) (h:a.block ≠ p.block):(w.setCell p u).cell? a = w.cell? a :=
 World.cell?_of_block (Below.heap_setCell w p u a.block h)
theorem LimbsAt.store {w:World} {ao:Option Addr} {cap B:Nat} {L:List Nat} (h:LimbsAt w ao cap L) (hn:NewAt B ao L) {p:Addr} (hp:p.block < B) (u:Value):LimbsAt (w.setCell p u) ao cap L:=by
 refine ⟨h.1,h.2.1,?_⟩
 rcases h.2.2 with h0 | ⟨b,off,h1,h2,h3⟩
 ·exact .inl h0
 ·rcases hn with h0 | ⟨b',off',h1',h2'⟩
  ·exact .inl h0
  ·rw [h1] at h1'
   simp only [Option.some.injEq,Addr.mk.injEq] at h1'
   obtain ⟨rfl,rfl,_⟩:=h1'
   refine .inr ⟨b,off,h1,by simpa [World.setCell] using h2,fun i hi=>?_⟩
   rw [cell_setCell_other w _ p u (by simp;omega)]
   exact h3 i hi
theorem IsNum.stored {B B':Nat} {w:World} {n:Bool} {ao:Option Addr} {cap:Nat} {L:List Nat} {x:Int} (h:LimbsAt w ao cap L∧NewAt B ao L∧Canon L∧n = decide (x < 0)∧val L = x.natAbs∧L.length≤35184372088832) {p q:Addr} (hp:p.block < B) (hq:q.block < B) (hB:B'≤B) (u u':Value) :
  IsNum B' ((w.setCell p u).setCell q u') (.agg #[.bool n,.slice ao L.length cap]) x :=
 ⟨n,ao,cap,L,rfl,(h.1.store h.2.1 hp u).store h.2.1 hq u',h.2.1.mono hB,h.2.2⟩
end Go.Proofs.YtcbcmlaogehimaaGreatDoor
