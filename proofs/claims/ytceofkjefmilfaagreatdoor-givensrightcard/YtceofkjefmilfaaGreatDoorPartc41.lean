/- Part 41 of the texts. -/
import Derived.Test.YtceofkjefmilfaaGreatDoorPartc40
import Derived.Test.YtceofkjefmilfaaGreatDoorPartc37
import Derived.Test.YtceofkjefmilfaaGreatDoorPartc38
import Derived.Test.YtceofkjefmilfaaGreatDoorChecked
import Derived.Test.YtceofkjefmilfaaGreatDoorPartc02
import Derived.ProofKit
import Derived.SizedLaws
import Derived.Lib.SmallJoins
import Derived.Test.YtceofkjefmilfaaGreatDoorRows
import Derived.Test.YtceofkjefmilfaaGreatDoorPartc11
import Derived.Lib.LaidTab
import Derived.OpenShut
import Derived.Deep.DeepHandedRow
/- The law GivensRight, walked by what givens.Turn answers. -/
namespace Go.Proofs.YtceofkjefmilfaaGreatDoor
open Go.RowKit
attribute [local go_sem ↓] Go.wp_at_zero Go.wp_at_succ

/-- Two rows of two numbers each, one behind the other. -/
theorem two_rows (W : World) (k a b c d : Nat) (hk : W.heap.size = k) (ha : a < 18446744073709551616) (hb : b < 18446744073709551616) (hc : c < 18446744073709551616) (hd : d < 18446744073709551616) :
    BitsAt ((W.alloc (.cells #[.int .u64 (a : Nat), .int .u64 (b : Nat)] 23)).alloc (.cells #[.int .u64 (c : Nat), .int .u64 (d : Nat)] 23)) (some ⟨k, 0, none⟩) 2 [(a : Int), (b : Int)] ∧
    BitsAt ((W.alloc (.cells #[.int .u64 (a : Nat), .int .u64 (b : Nat)] 23)).alloc (.cells #[.int .u64 (c : Nat), .int .u64 (d : Nat)] 23)) (some ⟨k + 1, 0, none⟩) 2 [(c : Int), (d : Int)] ∧
    Below W.heap.size W ((W.alloc (.cells #[.int .u64 (a : Nat), .int .u64 (b : Nat)] 23)).alloc (.cells #[.int .u64 (c : Nat), .int .u64 (d : Nat)] 23)) := by
  subst hk
  have t1 := two_bits W a b ha hb
  have b1 := below_alloc9 W (.cells #[.int .u64 (a : Nat), .int .u64 (b : Nat)] 23)
  have s1 := size_alloc9 W (.cells #[.int .u64 (a : Nat), .int .u64 (b : Nat)] 23)
  generalize W.alloc (.cells #[.int .u64 (a : Nat), .int .u64 (b : Nat)] 23) = W1 at *
  have t2 := two_bits W1 c d hc hd
  have b2 := below_alloc9 W1 (.cells #[.int .u64 (c : Nat), .int .u64 (d : Nat)] 23)
  rw [s1] at t2
  exact ⟨t1.below b2, t2, b1.trans (b2.mono b1.size)⟩

set_option maxRecDepth 20000 in
set_option maxHeartbeats 16000000 in
theorem givensRight_ok (f g c s r m : Nat) (lo1 lo2 lo3 zr ar za zb zd ad ab' k1 k2 : Int) (w : World) (hf : f < 18446744073709551616) (hg : g < 18446744073709551616) (hc : c < 18446744073709551616) (hs : s < 18446744073709551616) (hm : m < 18446744073709551616) (hk1 : k1 ≤ 0) (hk2 : k2 ≤ 0)
    (C1 : ∀ w' ao, Below w.heap.size w w' → BitsAt w' ao 2 [(f : Int), (g : Int)] → Calls Tryz.prog 19 #[.slice ao 2 2, .int .i64 400] w' fun e w'' => e = .returned (.bool true) ∧ Below w'.heap.size w' w'')
    (C2 : ∀ w', Below w.heap.size w w' → Calls Tryz.prog 8 #[.int .u64 f, .int .u64 g] w' fun e w'' => e = .returned (.tuple #[.int .u64 (c : Nat), .int .u64 (s : Nat), .int .u64 (r : Nat), .int .i64 0]) ∧ Below w'.heap.size w' w'')
    (F1 : ∀ w', Calls Tryz.prog 9 #[.int .u64 c] w' fun e w'' => e = .returned (.bool true) ∧ w' = w'')
    (F2 : ∀ w', Calls Tryz.prog 9 #[.int .u64 s] w' fun e w'' => e = .returned (.bool true) ∧ w' = w'')
    (F3 : ∀ w', Calls Tryz.prog 9 #[.int .u64 r] w' fun e w'' => e = .returned (.bool true) ∧ w' = w'')
    (VA : ∀ w', Calls Tryz.prog 25 #[.int .u64 r] w' fun e w'' => ∃ v, e = .returned v ∧ IsLv w'' v lo1 zr ∧ Below w'.heap.size w' w'')
    (AB1 : ∀ w' v, IsLv w' v lo1 zr → Calls Tryz.prog 24 #[v] w' fun e w'' => ∃ u, e = .returned u ∧ IsLv w'' u lo1 ar ∧ Below w'.heap.size w' w'')
    (D1 : ∀ w' xo yo, BitsAt w' xo 2 [(c : Int), (s : Int)] → BitsAt w' yo 2 [(f : Int), (g : Int)] → Calls Tryz.prog 26 #[.slice xo 2 2, .slice yo 2 2] w' fun e w'' => ∃ v, e = .returned v ∧ IsLv w'' v lo2 za ∧ Below w'.heap.size w' w'')
    (MI : ∀ w', Calls Tryz.prog 27 #[.int .u64 s] w' fun e w'' => e = .returned (.int .u64 (m : Nat)) ∧ w' = w'')
    (D2 : ∀ w' xo yo, BitsAt w' xo 2 [(c : Int), (m : Int)] → BitsAt w' yo 2 [(g : Int), (f : Int)] → Calls Tryz.prog 26 #[.slice xo 2 2, .slice yo 2 2] w' fun e w'' => ∃ v, e = .returned v ∧ IsLv w'' v lo2 zb ∧ Below w'.heap.size w' w'')
    (SC : ∀ w' v, IsLv w' v lo1 ar → Calls Tryz.prog 28 #[v, .int .i64 (-48)] w' fun e w'' => ∃ u, e = .returned u ∧ IsLv w'' u lo3 ar ∧ Below w'.heap.size w' w'')
    (SU : ∀ w' v u, IsLv w' v lo2 za → IsLv w' u lo1 zr → Calls Tryz.prog 30 #[v, u] w' fun e w'' => ∃ q, e = .returned q ∧ IsLv w'' q lo2 zd ∧ Below w'.heap.size w' w'')
    (AB2 : ∀ w' v, IsLv w' v lo2 zd → Calls Tryz.prog 24 #[v] w' fun e w'' => ∃ u, e = .returned u ∧ IsLv w'' u lo2 ad ∧ Below w'.heap.size w' w'')
    (CM1 : ∀ w' v u, IsLv w' v lo2 ad → IsLv w' u lo3 ar → Calls Tryz.prog 29 #[v, u] w' fun e w'' => e = .returned (.int .i64 k1) ∧ Below w'.heap.size w' w'')
    (AB3 : ∀ w' v, IsLv w' v lo2 zb → Calls Tryz.prog 24 #[v] w' fun e w'' => ∃ u, e = .returned u ∧ IsLv w'' u lo2 ab' ∧ Below w'.heap.size w' w'')
    (CM2 : ∀ w' v u, IsLv w' v lo2 ab' → IsLv w' u lo3 ar → Calls Tryz.prog 29 #[v, u] w' fun e w'' => e = .returned (.int .i64 k2) ∧ Below w'.heap.size w' w'')
    (CA : ∀ w', Below w.heap.size w w' → Calls Tryz.prog 10 #[] w' fun e w'' => e = .returned (.bool true) ∧ Below w'.heap.size w' w'') :
    Calls Tryz.prog 6 #[.int .u64 f, .int .u64 g] w fun e w' => e = .returned (.bool true) ∧ Below w.heap.size w w' := by
  have K1 := hide C1; have K2 := hide C2; have K3 := hide F1; have K4 := hide F2; have K5 := hide F3; have KV := hide VA; have KB1 := hide AB1; have KD1 := hide D1; have KM := hide MI; have KD2 := hide D2; have KS := hide SC; have KU := hide SU; have KB2 := hide AB2; have KC1 := hide CM1; have KB3 := hide AB3; have KC2 := hide CM2; have KA := hide CA
  have HC := hide hc; have HS := hide hs; have HM := hide hm; have HF := hide hf; have HG := hide hg
  have TB := hide (two_bits w f g hf hg)
  have BB := hide (below_alloc9 w (.cells #[.int .u64 (f : Nat), .int .u64 (g : Nat)] 23))
  clear C1 C2 F1 F2 F3 VA AB1 D1 MI D2 SC SU AB2 CM1 AB3 CM2 CA hc hs hm hf hg
  go_enter Tryz.func6, Tryz.ntmps6
  go_wp2_with fail
  refine (unhide K1 _ _ (unhide BB) (unhide TB)).mono ?_
  rintro e w1 ⟨rfl, hb⟩
  replace BB := hide ((unhide BB).trans (hb.mono (unhide BB).size))
  clear hb K1 TB
  go_wp2_with fail
  refine (unhide K2 _ (unhide BB)).mono ?_
  rintro e w2 ⟨rfl, hb⟩
  replace BB := hide ((unhide BB).trans (hb.mono (unhide BB).size))
  clear hb K2
  go_wp2_with fail
  refine (unhide K3 _).mono ?_
  rintro e w3 ⟨rfl, rfl⟩
  go_wp2_with fail
  refine (unhide K4 _).mono ?_
  rintro e w3 ⟨rfl, rfl⟩
  go_wp2_with fail
  refine (unhide K5 _).mono ?_
  rintro e w3 ⟨rfl, rfl⟩
  clear K3 K4 K5
  go_wp2_with fail
  refine (unhide KV _).mono ?_
  rintro e w3 ⟨v, rfl, lv, hb⟩
  replace BB := hide ((unhide BB).trans (hb.mono (unhide BB).size))
  have L1 := hide lv
  clear hb
  obtain ⟨n1, a1, c1, L, rfl, iv⟩ := lv
  generalize L.length = l1 at *
  generalize oE zr lo1 = E1 at *
  clear iv L
  go_wp2_with fail
  refine (unhide KB1 _ _ (unhide L1)).mono ?_
  rintro e w4 ⟨v, rfl, lv, hb⟩
  clear L1
  obtain ⟨n2, a2, c2, L, rfl, iv⟩ := lv
  have L2 := hide (show IsLv w4 (.agg #[.bool n2, .slice a2 L.length c2, .int .i64 (oE ar lo1)]) lo1 ar from ⟨n2, a2, c2, L, rfl, iv⟩)
  generalize L.length = l2 at *
  generalize oE ar lo1 = E2 at *
  clear iv L
  have ba := below_alloc9 w4 (.cells #[.bool n2, .slice a2 l2 c2, .int .i64 E2] 52)
  have hbb := hb.trans (ba.mono hb.size)
  replace BB := hide ((unhide BB).trans (hbb.mono (unhide BB).size))
  have X2 := hide (And.intro (Box3.new w4 (.bool n2) (.slice a2 l2 c2) (.int .i64 E2)) ((unhide L2).below ba))
  clear hb ba hbb L2 KB1
  go_wp2_with fail
  have hsz := size_alloc9 w4 (.cells #[.bool n2, .slice a2 l2 c2, .int .i64 E2] 52)
  obtain ⟨t1, t2, t3⟩ := two_rows (w4.alloc (.cells #[.bool n2, .slice a2 l2 c2, .int .i64 E2] 52)) (w4.heap.size + 1) c s f g hsz (unhide HC) (unhide HS) (unhide HF) (unhide HG)
  replace BB := hide ((unhide BB).trans (t3.mono (unhide BB).size))
  replace X2 := hide (And.intro ((unhide X2).1.all t3) ((unhide X2).2.below t3))
  refine (unhide KD1 _ _ _ t1 t2).mono ?_
  clear hsz t1 t2 t3
  rintro e w5 ⟨v, rfl, lv, hb⟩
  obtain ⟨n3, a3, c3, L, rfl, iv⟩ := lv
  have LL := hide (show IsLv w5 (.agg #[.bool n3, .slice a3 L.length c3, .int .i64 (oE za lo2)]) lo2 za from ⟨n3, a3, c3, L, rfl, iv⟩)
  generalize L.length = l3 at *
  generalize oE za lo2 = E3 at *
  clear iv L
  have ba := below_alloc9 w5 (.cells #[.bool n3, .slice a3 l3 c3, .int .i64 E3] 52)
  have hbb := hb.trans (ba.mono hb.size)
  replace BB := hide ((unhide BB).trans (hbb.mono (unhide BB).size))
  replace X2 := hide (And.intro ((unhide X2).1.all hbb) ((unhide X2).2.below hbb))
  have X3 := hide (And.intro (Box3.new w5 (.bool n3) (.slice a3 l3 c3) (.int .i64 E3)) ((unhide LL).below ba))
  clear hb ba hbb LL KD1
  generalize w4.heap.size = g2 at *
  go_wp2_with fail
  refine (unhide KM _).mono ?_
  rintro e w6 ⟨rfl, rfl⟩
  clear KM
  go_wp2_with fail
  have hsz := size_alloc9 w5 (.cells #[.bool n3, .slice a3 l3 c3, .int .i64 E3] 52)
  obtain ⟨t1, t2, t3⟩ := two_rows (w5.alloc (.cells #[.bool n3, .slice a3 l3 c3, .int .i64 E3] 52)) (w5.heap.size + 1) c m g f hsz (unhide HC) (unhide HM) (unhide HG) (unhide HF)
  replace BB := hide ((unhide BB).trans (t3.mono (unhide BB).size))
  replace X2 := hide (And.intro ((unhide X2).1.all t3) ((unhide X2).2.below t3))
  replace X3 := hide (And.intro ((unhide X3).1.all t3) ((unhide X3).2.below t3))
  refine (unhide KD2 _ _ _ t1 t2).mono ?_
  clear hsz t1 t2 t3
  rintro e w7 ⟨v, rfl, lv, hb⟩
  obtain ⟨n4, a4, c4, L, rfl, iv⟩ := lv
  have LL := hide (show IsLv w7 (.agg #[.bool n4, .slice a4 L.length c4, .int .i64 (oE zb lo2)]) lo2 zb from ⟨n4, a4, c4, L, rfl, iv⟩)
  generalize L.length = l4 at *
  generalize oE zb lo2 = E4 at *
  clear iv L
  have ba := below_alloc9 w7 (.cells #[.bool n4, .slice a4 l4 c4, .int .i64 E4] 52)
  have hbb := hb.trans (ba.mono hb.size)
  replace BB := hide ((unhide BB).trans (hbb.mono (unhide BB).size))
  replace X2 := hide (And.intro ((unhide X2).1.all hbb) ((unhide X2).2.below hbb))
  replace X3 := hide (And.intro ((unhide X3).1.all hbb) ((unhide X3).2.below hbb))
  have X4 := hide (And.intro (Box3.new w7 (.bool n4) (.slice a4 l4 c4) (.int .i64 E4)) ((unhide LL).below ba))
  clear hb ba hbb LL KD2 HC HS HM HF HG
  generalize w5.heap.size = g3 at *
  have y0 := (unhide X2).1.c0; have y1 := (unhide X2).1.c1; have y2 := (unhide X2).1.c2
  go_wp2_with fail
  refine (unhide KS _ _ (unhide X2).2).mono ?_
  rintro e w8 ⟨v, rfl, lv, hb⟩
  obtain ⟨n5, a5, c5, L, rfl, iv⟩ := lv
  have LL := hide (show IsLv w8 (.agg #[.bool n5, .slice a5 L.length c5, .int .i64 (oE ar lo3)]) lo3 ar from ⟨n5, a5, c5, L, rfl, iv⟩)
  generalize L.length = l5 at *
  generalize oE ar lo3 = E5 at *
  clear iv L
  have ba := below_alloc9 w8 (.cells #[.bool n5, .slice a5 l5 c5, .int .i64 E5] 52)
  have hbb := hb.trans (ba.mono hb.size)
  replace BB := hide ((unhide BB).trans (hbb.mono (unhide BB).size))
  replace X3 := hide (And.intro ((unhide X3).1.all hbb) ((unhide X3).2.below hbb))
  replace X4 := hide (And.intro ((unhide X4).1.all hbb) ((unhide X4).2.below hbb))
  have X5 := hide (And.intro (Box3.new w8 (.bool n5) (.slice a5 l5 c5) (.int .i64 E5)) ((unhide LL).below ba))
  clear hb ba hbb LL KS y0 y1 y2 X2
  generalize w7.heap.size = g4 at *
  go_wp2_with fail
  refine at_world (fun W => Below w.heap.size w W ∧ (Box3 W g3 (.bool n3) (.slice a3 l3 c3) (.int .i64 E3) ∧ IsLv W (.agg #[.bool n3, .slice a3 l3 c3, .int .i64 E3]) lo2 za) ∧ (Box3 W g4 (.bool n4) (.slice a4 l4 c4) (.int .i64 E4) ∧ IsLv W (.agg #[.bool n4, .slice a4 l4 c4, .int .i64 E4]) lo2 zb) ∧ (Box3 W w8.heap.size (.bool n5) (.slice a5 l5 c5) (.int .i64 E5) ∧ IsLv W (.agg #[.bool n5, .slice a5 l5 c5, .int .i64 E5]) lo3 ar)) ⟨unhide BB, unhide X3, unhide X4, unhide X5⟩ ?_
  clear BB X3 X4 X5
  generalize w8.heap.size = g5 at *
  rintro W0 ⟨bb, ⟨x3, v3⟩, ⟨x4, v4⟩, ⟨x5, v5⟩⟩
  have HK := hide (show ∀ w', Below W0.heap.size W0 w' → Below W0.heap.size W0 w' ∧ w'.cell? ⟨g3, 0, none⟩ = some (.bool n3) ∧ w'.cell? ⟨g3, 1, none⟩ = some (.slice a3 l3 c3) ∧ w'.cell? ⟨g3, 2, none⟩ = some (.int .i64 E3) ∧ w'.cell? ⟨g4, 0, none⟩ = some (.bool n4) ∧ w'.cell? ⟨g4, 1, none⟩ = some (.slice a4 l4 c4) ∧ w'.cell? ⟨g4, 2, none⟩ = some (.int .i64 E4) ∧ w'.cell? ⟨g5, 0, none⟩ = some (.bool n5) ∧ w'.cell? ⟨g5, 1, none⟩ = some (.slice a5 l5 c5) ∧ w'.cell? ⟨g5, 2, none⟩ = some (.int .i64 E5) from fun w' h => ⟨h, (x3.all h).c0, (x3.all h).c1, (x3.all h).c2, (x4.all h).c0, (x4.all h).c1, (x4.all h).c2, (x5.all h).c0, (x5.all h).c1, (x5.all h).c2⟩)
  have HW := hide (fun w' (h : Below W0.heap.size W0 w') => bb.trans (h.mono bb.size))
  have V3 := hide (fun w' (h : Below W0.heap.size W0 w') => v3.below h)
  have V4 := hide (fun w' (h : Below W0.heap.size W0 w') => v4.below h)
  have V5 := hide (fun w' (h : Below W0.heap.size W0 w') => v5.below h)
  clear bb x3 v3 x4 v4 x5 v5
  go_region_held3 (fun w' => Below W0.heap.size W0 w' ∧ w'.cell? ⟨g3, 0, none⟩ = some (.bool n3) ∧ w'.cell? ⟨g3, 1, none⟩ = some (.slice a3 l3 c3) ∧ w'.cell? ⟨g3, 2, none⟩ = some (.int .i64 E3) ∧ w'.cell? ⟨g4, 0, none⟩ = some (.bool n4) ∧ w'.cell? ⟨g4, 1, none⟩ = some (.slice a4 l4 c4) ∧ w'.cell? ⟨g4, 2, none⟩ = some (.int .i64 E4) ∧ w'.cell? ⟨g5, 0, none⟩ = some (.bool n5) ∧ w'.cell? ⟨g5, 1, none⟩ = some (.slice a5 l5 c5) ∧ w'.cell? ⟨g5, 2, none⟩ = some (.int .i64 E5))
    (first | exact unhide HK _ (Below.refl _ _).drew | exact unhide HK _ (by assumption))
    (first
      | (go_at_call 25; refine (unhide KV _).mono ?_; rintro e wa ⟨v, rfl, ⟨n6, a6, c6, L6, rfl, i6⟩, hb1⟩; have hBa : Below W0.heap.size W0 wa := Below.trans (And.left (by assumption)) (hb1.mono (Below.size (And.left (by assumption)))); have Q6 := hide (show IsLv wa (.agg #[.bool n6, .slice a6 L6.length c6, .int .i64 (oE zr lo1)]) lo1 zr from ⟨n6, a6, c6, L6, rfl, i6⟩); clear hb1 i6; generalize L6.length = l6 at *; generalize oE zr lo1 = E6 at *)
      | (go_at_call 30; refine (unhide KU _ _ _ (unhide V3 _ (And.left (by assumption))) (unhide Q6)).mono ?_; rintro e wb ⟨v, rfl, ⟨n7, a7, c7, L7, rfl, i7⟩, hb1⟩; have hBb : Below W0.heap.size W0 wb := Below.trans (And.left (by assumption)) (hb1.mono (Below.size (And.left (by assumption)))); have Q7 := hide (show IsLv wb (.agg #[.bool n7, .slice a7 L7.length c7, .int .i64 (oE zd lo2)]) lo2 zd from ⟨n7, a7, c7, L7, rfl, i7⟩); clear hb1 i7 Q6; generalize L7.length = l7 at *; generalize oE zd lo2 = E7 at *)
      | (go_at_call_of 24 (Value.agg #[.bool n4, .slice a4 l4 c4, .int .i64 E4]); refine (unhide KB3 _ _ (unhide V4 _ (And.left (by assumption)))).mono ?_; rintro e we ⟨v, rfl, ⟨n9, a9, c9, L9, rfl, i9⟩, hb1⟩; have hBe : Below W0.heap.size W0 we := Below.trans (And.left (by assumption)) (hb1.mono (Below.size (And.left (by assumption)))); have Q9 := hide (show IsLv we (.agg #[.bool n9, .slice a9 L9.length c9, .int .i64 (oE ab' lo2)]) lo2 ab' from ⟨n9, a9, c9, L9, rfl, i9⟩); clear hb1 i9; generalize L9.length = l9 at *; generalize oE ab' lo2 = E9 at *)
      | (go_at_call 24; refine (unhide KB2 _ _ (unhide Q7)).mono ?_; rintro e wc ⟨v, rfl, ⟨n8, a8, c8, L8, rfl, i8⟩, hb1⟩; have hBc : Below W0.heap.size W0 wc := Below.trans (And.left (by assumption)) (hb1.mono (Below.size (And.left (by assumption)))); have Q8 := hide (show IsLv wc (.agg #[.bool n8, .slice a8 L8.length c8, .int .i64 (oE ad lo2)]) lo2 ad from ⟨n8, a8, c8, L8, rfl, i8⟩); clear hb1 i8 Q7; generalize L8.length = l8 at *; generalize oE ad lo2 = E8 at *)
      | (go_at_call 29; refine (unhide KC1 _ _ _ (unhide Q8) (unhide V5 _ (And.left (by assumption)))).mono ?_; rintro e wd ⟨rfl, hb1⟩; have hBd : Below W0.heap.size W0 wd := Below.trans (And.left (by assumption)) (hb1.mono (Below.size (And.left (by assumption)))); clear hb1 Q8)
      | (go_at_call 29; refine (unhide KC2 _ _ _ (unhide Q9) (unhide V5 _ (And.left (by assumption)))).mono ?_; rintro e wf ⟨rfl, hb1⟩; have hBf : Below W0.heap.size W0 wf := Below.trans (And.left (by assumption)) (hb1.mono (Below.size (And.left (by assumption)))); clear hb1 Q9)
      | (go_at_call 10; refine (unhide KA _ (unhide HW _ (And.left (by assumption)))).mono ?_; rintro e wg ⟨rfl, hb1⟩; have hBg : Below W0.heap.size W0 wg := Below.trans (And.left (by assumption)) (hb1.mono (Below.size (And.left (by assumption)))); clear hb1)
      | fail "NO ARM")
  have hn : Below W0.heap.size W0 wg := And.left (by assumption)
  go_wp2_with fail
  go_ret
  exact ⟨rfl, unhide HW _ hn⟩

end Go.Proofs.YtceofkjefmilfaaGreatDoor

/- GivensRight by what givens.Turn answers. -/
namespace Go.Proofs.YtceofkjefmilfaaGreatDoor
open Go.RowKit
attribute [local go_sem ↓] Go.wp_at_zero Go.wp_at_succ

set_option maxRecDepth 20000 in
set_option maxHeartbeats 8000000 in
theorem givensRight_no (f g : Nat) (w : World) (hf : f < 18446744073709551616) (hg : g < 18446744073709551616)
    (C1 : ∀ w' ao, Below w.heap.size w w' → BitsAt w' ao 2 [(f : Int), (g : Int)] → Calls Tryz.prog 19 #[.slice ao 2 2, .int .i64 400] w' fun e w'' => e = .returned (.bool false) ∧ Below w'.heap.size w' w'')
    (CA : ∀ w', Below w.heap.size w w' → Calls Tryz.prog 10 #[] w' fun e w'' => e = .returned (.bool true) ∧ Below w'.heap.size w' w'') :
    Calls Tryz.prog 6 #[.int .u64 f, .int .u64 g] w fun e w' => e = .returned (.bool true) ∧ Below w.heap.size w w' := by
  have K1 := hide C1; have KA := hide CA
  have TB := hide (two_bits w f g hf hg)
  have BB := hide (below_alloc9 w (.cells #[.int .u64 (f : Nat), .int .u64 (g : Nat)] 23))
  clear C1 CA
  go_enter Tryz.func6, Tryz.ntmps6
  go_wp2_with fail
  refine (unhide K1 _ _ (unhide BB) (unhide TB)).mono ?_
  rintro e w1 ⟨rfl, hb⟩
  replace BB := hide ((unhide BB).trans (hb.mono (unhide BB).size))
  clear hb K1 TB
  go_wp2_with fail
  refine (unhide KA _ (unhide BB)).mono ?_
  rintro e w3 ⟨rfl, hb⟩
  replace BB := hide ((unhide BB).trans (hb.mono (unhide BB).size))
  clear hb KA
  go_wp2
  go_ret
  exact ⟨rfl, unhide BB⟩

theorem prod_lt12 {x y : Int} {m n : Nat} (hx : x.natAbs < 2 ^ m) (hy : y.natAbs < 2 ^ n) : (x * y).natAbs < 2 ^ (m + n) := by
  rw [Int.natAbs_mul, Nat.pow_add]
  exact Nat.mul_lt_mul'' hx hy
theorem abs_lt12 {z : Int} {n : Nat} (h : z.natAbs < 2 ^ n) : ((z.natAbs : Nat) : Int).natAbs < 2 ^ n := by
  rw [Int.natAbs_natCast]
  exact h
theorem sub_lt12 {x y : Int} {n : Nat} (hx : x.natAbs < 2 ^ n) (hy : y.natAbs < 2 ^ n) : (x - y).natAbs < 2 ^ (n + 1) := by
  rw [Nat.pow_succ]
  omega
theorem add_lt12 {x y : Int} {n : Nat} (hx : x.natAbs < 2 ^ n) (hy : y.natAbs < 2 ^ n) : (x + y).natAbs < 2 ^ (n + 1) := by
  rw [Nat.pow_succ]
  omega
theorem pow_lt12 {z : Nat} {m n : Nat} (h : z < 2 ^ m) (hmn : m ≤ n) : z < 2 ^ n := Nat.lt_of_lt_of_le h (Nat.pow_le_pow_right (by decide) hmn)

theorem sum_ltV {p q r t : Int} {m V : Nat} (h : m + m + 1 ≤ V) (hp : p.natAbs < 2 ^ m) (hq : q.natAbs < 2 ^ m) (hr : r.natAbs < 2 ^ m) (ht : t.natAbs < 2 ^ m) : (p * q + r * t).natAbs < 2 ^ V :=
  pow_lt12 (add_lt12 (prod_lt12 hp hq) (prod_lt12 hr ht)) h
theorem sub_lt12V {p q : Int} {m V : Nat} (h : m + 1 ≤ V) (hp : p.natAbs < 2 ^ m) (hq : q.natAbs < 2 ^ m) : (p - q).natAbs < 2 ^ V := pow_lt12 (sub_lt12 hp hq) h

/-- Two numbers at their levels compared. -/
theorem cmp12 {w : World} {v u : Value} {x y : Int} (hv : IsLv w v (-2148) x) (hu : IsLv w u (-1122) y) (l1 : x.natAbs < 2 ^ 4201) (l2 : y.natAbs < 2 ^ 2098) :
    Calls Tryz.prog 29 #[v, u] w fun e w' => e = .returned (.int .i64 (cmpI (x * 2 ^ 48) (y * 2 ^ 1074))) ∧ Below w.heap.size w w' := by
  have h1 := hv.lower 48
  have h2 := hu.lower 1074
  rw [show (-2148 : Int) - ((48 : Nat) : Int) = -2196 by decide] at h1
  rw [show (-1122 : Int) - ((1074 : Nat) : Int) = -2196 by decide] at h2
  exact rcmpN h1 h2 (W := 4300) ⟨up_ltV (j := 4201) (k := 48) (V := 4300) (by decide) l1, by decide, by decide, by decide⟩ ⟨up_ltV (j := 2098) (k := 1074) (V := 4300) (by decide) l2, by decide, by decide, by decide⟩

theorem two_sum (a b c d : Nat) : smI (fun j => fZ (atB [(a : Int), (b : Int)] j) * fZ (atB [(c : Int), (d : Int)] j)) 2 = fZ a * fZ c + fZ b * fZ d := by
  show (0 + fZ (atB [(a : Int), (b : Int)] 0) * fZ (atB [(c : Int), (d : Int)] 0)) + fZ (atB [(a : Int), (b : Int)] 1) * fZ (atB [(c : Int), (d : Int)] 1) = _
  rw [Int.zero_add]
  rfl
theorem two_fin {a b : Nat} (ha : fFin a = true) (hb : fFin b = true) : ∀ k, k < 2 → fFin (atB [(a : Int), (b : Int)] k) = true := fun k hk => by
  match k, hk with
  | 0, _ => exact ha
  | 1, _ => exact hb
theorem two_lt {a b c d : Nat} (ha : fFin a = true) (hb : fFin b = true) (hc : fFin c = true) (hd : fFin d = true) : (fZ a * fZ c + fZ b * fZ d).natAbs < 2 ^ 4200 := by
  exact sum_ltV (m := 2098) (V := 4200) (by decide) (fZ_lt a ha) (fZ_lt c hc) (fZ_lt b hb) (fZ_lt d hd)

/-- GivensRight, by what givens.Turn answers. -/
theorem givensRight_by (f g : Nat) (w : World) (hf : f < 18446744073709551616) (hg : g < 18446744073709551616)
    (CT : ∀ w' a b, Below w.heap.size w w' → a < 18446744073709551616 → b < 18446744073709551616 → fFin a = true → fFin b = true → Calls Tryz.prog 8 #[.int .u64 (a : Nat), .int .u64 (b : Nat)] w' fun e w'' => e = .returned (.tuple #[.int .u64 (gvC a b : Nat), .int .u64 (gvS a b : Nat), .int .u64 (gvR a b : Nat), .int .i64 0]) ∧ Below w'.heap.size w' w'')
    (CA : ∀ w', Below w.heap.size w w' → Calls Tryz.prog 10 #[] w' fun e w'' => e = .returned (.bool true) ∧ Below w'.heap.size w' w'') :
    Calls Tryz.prog 6 #[.int .u64 f, .int .u64 g] w fun e w' => e = .returned (.bool true) ∧ Below w.heap.size w w' := by
  have C1 := fun w' ao (_hb : Below w.heap.size w w') (h : BitsAt w' ao 2 [(f : Int), (g : Int)]) => r9tame_any ao 2 [(f : Int), (g : Int)] 400 w' h (by simp) (by omega)
  simp only [List.length_cons, List.length_nil, Nat.zero_add] at C1
  cases ht : tmK 400 [(f : Int), (g : Int)] (1 + 1)
  · rw [ht] at C1
    exact givensRight_no f g w hf hg C1 CA
  · rw [ht] at C1
    obtain ⟨tf, tg⟩ := tame_two hf hg ht
    obtain ⟨q1, q2, q3, q4, q5, q6, q7, q8, q9⟩ := gv_facts tf tg
    have CT2 := fun w' hb => CT w' f g hb hf hg tf.2.1 tg.2.1
    generalize gvC f g = c at *
    generalize gvS f g = s at *
    generalize gvR f g = r at *
    obtain ⟨i1, i2⟩ := right_int q8 q9
    have F1 := fun w' => rfinite_any c w' q4
    have F2 := fun w' => rfinite_any s w' q5
    have F3 := fun w' => rfinite_any r w' q6
    rw [q1] at F1
    rw [q2] at F2
    rw [q3] at F3
    have lm := fN_lt s q5
    have fm : fFin (fN s) = true := by rw [fFin_fN s q5]; exact q2
    have lr := fZ_lt r q3
    have e2 : fZ c * fZ g + fZ (fN s) * fZ f = fZ c * fZ g - fZ s * fZ f := by rw [fZ_fN s q5, Int.neg_mul]; omega
    have la := two_lt (a := c) (b := s) (c := f) (d := g) q1 q2 tf.2.1 tg.2.1
    have lb := two_lt (a := c) (b := fN s) (c := g) (d := f) q1 fm tg.2.1 tf.2.1
    rw [e2] at lb
    have ur := up_lvl r q3
    have ld : (fZ c * fZ f + fZ s * fZ g - fZ r * 2 ^ 1074).natAbs < 2 ^ 4201 := sub_lt12V (m := 4200) (V := 4201) (by decide) la ur.1
    refine givensRight_ok f g c s r (fN s) (-1074) (-2148) (-1122) (fZ r) (((fZ r).natAbs : Nat) : Int) (fZ c * fZ f + fZ s * fZ g) (fZ c * fZ g - fZ s * fZ f) (fZ c * fZ f + fZ s * fZ g - fZ r * 2 ^ 1074) (((fZ c * fZ f + fZ s * fZ g - fZ r * 2 ^ 1074).natAbs : Nat) : Int) (((fZ c * fZ g - fZ s * fZ f).natAbs : Nat) : Int) (cmpI ((((fZ c * fZ f + fZ s * fZ g - fZ r * 2 ^ 1074).natAbs : Nat) : Int) * 2 ^ 48) ((((fZ r).natAbs : Nat) : Int) * 2 ^ 1074)) (cmpI ((((fZ c * fZ g - fZ s * fZ f).natAbs : Nat) : Int) * 2 ^ 48) ((((fZ r).natAbs : Nat) : Int) * 2 ^ 1074)) w hf hg q4 q5 lm ((cmpI_le11 _ _).2 i1) ((cmpI_le11 _ _).2 i2) C1 CT2 F1 F2 F3 (fun w' => rvalueN r w' q6 q3) (fun w' v h => abs12_any h (fZ_lvl r q3)) (fun w' xo yo h1 h2 => ?_) (fun w' => rminus4_any s w' q5) (fun w' xo yo h1 h2 => ?_) (fun w' v h => ?_) (fun w' v u h1 h2 => ?_) (fun w' v h => ?_) (fun w' v u h1 h2 => ?_) (fun w' v h => ?_) (fun w' v u h1 h2 => ?_) CA
    · have := rdot_any xo yo 2 2 2 [(c : Int), (s : Int)] [(f : Int), (g : Int)] w' h1 h2 rfl rfl (by decide) (two_fin q1 q2) (two_fin tf.2.1 tg.2.1)
      rw [two_sum] at this
      exact this
    · have := rdot_any xo yo 2 2 2 [(c : Int), ((fN s : Nat) : Int)] [(g : Int), (f : Int)] w' h1 h2 rfl rfl (by decide) (two_fin q1 fm) (two_fin tg.2.1 tf.2.1)
      rw [two_sum, e2] at this
      exact this
    · exact rscaleL (-48) h (W := 2098) ⟨abs_lt12 (n := 2098) lr, by decide, by decide, by decide⟩ (by decide)
    · have h3 := h2.lower 1074
      rw [show (-1074 : Int) - ((1074 : Nat) : Int) = -2148 by decide] at h3
      exact rsubL h1 h3 ⟨la, by decide, by decide, by decide⟩ ur
    · exact abs12_any h (W := 4201) ⟨ld, by decide, by decide, by decide⟩
    · exact cmp12 h1 h2 (abs_lt12 (n := 4201) ld) (abs_lt12 (n := 2098) lr)
    · exact abs12_any h (W := 4200) ⟨lb, by decide, by decide, by decide⟩
    · exact cmp12 h1 h2 (abs_lt12 (n := 4201) (pow_lt12 (m := 4200) (n := 4201) lb (by decide))) (abs_lt12 (n := 2098) lr)

end Go.Proofs.YtceofkjefmilfaaGreatDoor

/- The laws GivensTurns, GivensOne, GivensRight, with the program's own Turn. -/
namespace Go.Proofs.YtceofkjefmilfaaGreatDoor
open Go.RowKit

theorem ct12 (w : World) (hT : Tab w) : ∀ w' a b, Below w.heap.size w w' → a < 18446744073709551616 → b < 18446744073709551616 → fFin a = true → fFin b = true → Calls Tryz.prog 8 #[.int .u64 (a : Nat), .int .u64 (b : Nat)] w' fun e w'' => e = .returned (.tuple #[.int .u64 (gvC a b : Nat), .int .u64 (gvS a b : Nat), .int .u64 (gvR a b : Nat), .int .i64 0]) ∧ Below w'.heap.size w' w'' :=
  fun w' a b hb ha hb' fa fb => gturn_ok a b w' ha hb' fa fb (hT.all hb)

theorem ca12 (w : World) (hT : Tab w) : ∀ w', Below w.heap.size w w' → Calls Tryz.prog 10 #[] w' fun e w'' => e = .returned (.bool true) ∧ Below w'.heap.size w' w'' := fun w' hb => by
  refine awake12_of (gvC 4613937818241073152 4616189618054758400) (gvS 4613937818241073152 4616189618054758400) w' (fun w'' hb2 => ?_)
  have := ct12 w hT w'' 4613937818241073152 4616189618054758400 (hb.trans (hb2.mono hb.size)) (by decide) (by decide) fin_345.1 fin_345.2
  rw [gvR_345] at this
  exact this

theorem givensRight_walk (f g : Nat) (w : World) (hf : f < 18446744073709551616) (hg : g < 18446744073709551616) (hT : Tab w) :
    Calls Tryz.prog 6 #[.int .u64 f, .int .u64 g] w fun e w' => e = .returned (.bool true) ∧ Below w.heap.size w w' :=
  givensRight_by f g w hf hg (ct12 w hT) (ca12 w hT)

end Go.Proofs.YtceofkjefmilfaaGreatDoor

/- A struct of a sign and limbs that came in, opened. -/
namespace Go.Proofs.YtceofkjefmilfaaGreatDoor
open Go.ChangeShapes Go.WideShapes Go.ChangeAt Go.RowKit Go.Joins

theorem Tryz.own : ownKnob Tryz.prog.godebug = none := by kernel_rfl
end Go.Proofs.YtceofkjefmilfaaGreatDoor

/- A dyadic number that came in, opened; the library's table, as the row lays it. -/
namespace Go.Proofs.YtceofkjefmilfaaGreatDoor
open Go.ChangeShapes Go.WideShapes Go.ChangeAt Go.RowKit Go.Joins
theorem Tryz.tabName : Tryz.prog.globalNamed "math/bits.deBruijn32tab" = some 1 := by kernel_rfl
theorem Tryz.tabType : (Tryz.prog.globals[1]?).map (·.type) = some 164 := by kernel_rfl
theorem Tryz.tabCells : Tryz.prog.cellsOf 164 = 32 := by kernel_rfl
theorem Tryz.byteCells : Tryz.prog.cellsOf 5 = 1 := by kernel_rfl

theorem tab_getD : ∀ j, j < Lib.deBruijn32tab.length → (List.map Int.ofNat Lib.deBruijn32tab).getD j 0 = ((Lib.deBruijn32tab.getD j 0 : Nat) : Int) := by decide

/-- What the rows' list gives: the table's cells. -/
theorem tab_of_laid {W : World} (h : laidMetH Tryz.prog [("math/bits.deBruijn32tab", Rows.laid_math_bits_deBruijn32tab)] W) : Tab W := by
  have ht := Lib.tabIs_of_head (zs := Lib.deBruijn32tab.map Int.ofNat) (rest := []) Tryz.tabName Tryz.tabType Tryz.underlying164 Tryz.underlying5 Tryz.byteCells Tryz.tabCells h
  intro j hj
  have := ht.cell Tryz.tabName j (by simpa using hj)
  rw [this]
  congr 2
  exact tab_getD j hj

end Go.Proofs.YtceofkjefmilfaaGreatDoor

