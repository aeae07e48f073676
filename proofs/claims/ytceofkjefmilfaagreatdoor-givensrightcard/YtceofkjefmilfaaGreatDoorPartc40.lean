/- Part 40 of the texts. -/
import Derived.Test.YtceofkjefmilfaaGreatDoorPartc38
import Derived.Test.YtceofkjefmilfaaGreatDoorPartc39
import Derived.Test.YtceofkjefmilfaaGreatDoorPartc35
import Derived.Test.YtceofkjefmilfaaGreatDoorPartc32
import Derived.Deep.RegionLaw
import Derived.Test.YtceofkjefmilfaaGreatDoorPartc31
import Derived.Test.YtceofkjefmilfaaGreatDoorPartc16
import Derived.Test.YtceofkjefmilfaaGreatDoorPartc27
import Derived.Test.YtceofkjefmilfaaGreatDoorPartc36
import Derived.Test.YtceofkjefmilfaaGreatDoorPartc34
import Derived.Test.YtceofkjefmilfaaGreatDoorPartc08
import Derived.Test.YtceofkjefmilfaaGreatDoorPartc30
import Derived.Test.YtceofkjefmilfaaGreatDoorPartc33
import Derived.Test.YtceofkjefmilfaaGreatDoorPartc37
/- The reference of layer 11: Within. -/
namespace Go.Proofs.YtceofkjefmilfaaGreatDoor
open Go.RowKit
attribute [local go_sem ↓] Go.wp_at_zero Go.wp_at_succ
theorem cmpI_le11 (u v : Int) : cmpI u v ≤ 0 ↔ u ≤ v := by
  rw [cmpI_sgn]
  unfold sgnI
  by_cases h : u - v < 0
  · rw [if_pos h]; omega
  · rw [if_neg h]
    by_cases h2 : u - v = 0
    · rw [if_pos h2]; omega
    · rw [if_neg h2]; omega
end Go.Proofs.YtceofkjefmilfaaGreatDoor

/- The laws of layer 12: awake; GivensTurns, GivensOne walked by what givens.Turn answers. -/
namespace Go.Proofs.YtceofkjefmilfaaGreatDoor
open Go.RowKit
attribute [local go_sem ↓] Go.wp_at_zero Go.wp_at_succ

theorem w12_facts : ¬ fK 4616189618054758400 = 0 ∧ ¬ fK 4613937818241073152 = 0 ∧ eX (max (fR 4613937818241073152) (fR 4616189618054758400)) = 2 ∧ aV (mV (xV 4613937818241073152 (-2)) (xV 4613937818241073152 (-2))) (mV (xV 4616189618054758400 (-2)) (xV 4616189618054758400 (-2))) = 4609715693590413312 ∧ xV 4608308318706860032 2 = 4617315517961601024 := by decide +kernel

theorem gvR_345 : gvR 4613937818241073152 4616189618054758400 = 4617315517961601024 := by
  obtain ⟨h1, h2, h3, h4, h5⟩ := w12_facts
  unfold gvR
  rw [if_neg h1, if_neg h2]
  unfold gvN gvK
  rw [h3, h4, w9_root, h5]
theorem fin_345 : fFin 4613937818241073152 = true ∧ fFin 4616189618054758400 = true := by decide +kernel

set_option maxRecDepth 20000 in
set_option maxHeartbeats 4000000 in
theorem awake12_of (c s : Nat) (w : World)
    (C1 : ∀ w', Below w.heap.size w w' → Calls Tryz.prog 8 #[.int .u64 4613937818241073152, .int .u64 4616189618054758400] w' fun e w'' => e = .returned (.tuple #[.int .u64 (c : Nat), .int .u64 (s : Nat), .int .u64 4617315517961601024, .int .i64 0]) ∧ Below w'.heap.size w' w'') :
    Calls Tryz.prog 10 #[] w fun e w' => e = .returned (.bool true) ∧ Below w.heap.size w w' := by
  have K1 := hide C1
  clear C1
  go_enter Tryz.func10, Tryz.ntmps10
  go_wp2_with fail
  refine (unhide K1 _ (Below.refl _ _)).mono ?_
  rintro e w1 ⟨rfl, hb⟩
  have BB := hide hb
  clear hb K1
  go_wp2
  go_ret
  exact ⟨rfl, unhide BB⟩

end Go.Proofs.YtceofkjefmilfaaGreatDoor

/- The law GivensOne, walked by what givens.Turn answers. -/
namespace Go.Proofs.YtceofkjefmilfaaGreatDoor
open Go.RowKit
attribute [local go_sem ↓] Go.wp_at_zero Go.wp_at_succ

/-- Two numbers laid in a row. -/
theorem two_bits (w : World) (a b : Nat) (ha : a < 18446744073709551616) (hb : b < 18446744073709551616) : BitsAt (w.alloc (.cells #[.int .u64 (a : Nat), .int .u64 (b : Nat)] 23)) (some ⟨w.heap.size, 0, none⟩) 2 [(a : Int), (b : Int)] := by
  have h : RowB (w.alloc (.cells #[.int .u64 (a : Nat), .int .u64 (b : Nat)] 23)) w.heap.size [a, b] := heap_alloc_new w _
  exact h.bits (fun x hx => by simp at hx; rcases hx with rfl | rfl; exact ha; exact hb)

end Go.Proofs.YtceofkjefmilfaaGreatDoor

/- GivensOne by what givens.Turn answers. -/
namespace Go.Proofs.YtceofkjefmilfaaGreatDoor
open Go.RowKit

theorem tame_two {f g : Nat} (hf : f < 18446744073709551616) (hg : g < 18446744073709551616) (h : tmK 400 [(f : Int), (g : Int)] 2 = true) : TameO f ∧ TameO g := by
  have h0 : tmB 400 (atB [(f : Int), (g : Int)] 0) = true := tmK_at 400 _ 2 0 (by omega) h
  have h1 : tmB 400 (atB [(f : Int), (g : Int)] 1) = true := tmK_at 400 _ 2 1 (by omega) h
  exact ⟨TameO.of hf h0, TameO.of hg h1⟩
end Go.Proofs.YtceofkjefmilfaaGreatDoor

/- The law GivensRight: a number without its sign. -/
namespace Go.Proofs.YtceofkjefmilfaaGreatDoor
open Go.RowKit
attribute [local go_sem ↓] Go.wp_at_zero Go.wp_at_succ

set_option maxRecDepth 20000 in
set_option maxHeartbeats 2000000 in
theorem abs12_neg (a : Option Addr) (l cp : Nat) (E lo z : Int) (w : World)
    (C : ∀ w', Below w.heap.size w w' → Calls Tryz.prog 56 #[.agg #[.bool true, .slice a l cp, .int .i64 E]] w' fun e w'' => ∃ u, e = .returned u ∧ IsLv w'' u lo z ∧ Below w'.heap.size w' w'') :
    Calls Tryz.prog 24 #[.agg #[.bool true, .slice a l cp, .int .i64 E]] w fun e w' => ∃ u, e = .returned u ∧ IsLv w' u lo z ∧ Below w.heap.size w w' := by
  have K := hide C
  clear C
  have X0 := Box3.new w (.bool true) (.slice a l cp) (.int .i64 E)
  have b0 := below_alloc9 w (.cells #[.bool true, .slice a l cp, .int .i64 E] 52)
  have s0 := size_alloc9 w (.cells #[.bool true, .slice a l cp, .int .i64 E] 52)
  have b1 := below_alloc9 (w.alloc (.cells #[.bool true, .slice a l cp, .int .i64 E] 52)) (.cells #[.bool false, .slice none 0 0, .int .i64 0] 52)
  have X1 := Box3.new (w.alloc (.cells #[.bool true, .slice a l cp, .int .i64 E] 52)) (.bool false) (.slice none 0 0) (.int .i64 0)
  rw [s0] at X1
  have ST := hide (And.intro X1 (b0.trans (b1.mono b0.size)))
  have X0' := X0.all b1
  have y0 := X0'.c0; have y1 := X0'.c1; have y2 := X0'.c2
  clear X0 b0 s0 b1 X1 X0'
  go_enter Tryz.func24, Tryz.ntmps24
  go_wp2_with fail
  refine (unhide K _ (unhide ST).2).mono ?_
  rintro e w3 ⟨u, rfl, lv, hb⟩
  have h2 := (unhide ST).1.all hb
  have h6 := (unhide ST).2.trans (hb.mono (unhide ST).2.size)
  have L1 := hide lv
  obtain ⟨n5, a5, c5, L5, rfl, i5⟩ := lv
  clear i5
  generalize L5.length = l5 at *
  generalize oE z lo = E5 at *
  have r0 := h2.c0; have r1 := h2.c1; have r2 := h2.c2
  have f0 := h2.free 0; have f1 := h2.free 1; have f2 := h2.free 2
  have XP := h2.put (.bool n5) (.slice a5 l5 c5) (.int .i64 E5)
  have z0 := XP.c0; have z1 := XP.c1; have z2 := XP.c2
  have Q := hide (IsDy.put3 (unhide L1) h2 (.bool n5) (.slice a5 l5 c5) (.int .i64 E5))
  have BP := hide (below_put3 h6 (show w.heap.size ≤ w.heap.size + 1 by omega) (.bool n5) (.slice a5 l5 c5) (.int .i64 E5))
  clear XP h2 h6 hb ST K L1
  go_wp2_with fail
  exact bodyPost_ret (v := .agg #[.bool n5, .slice a5 l5 c5, .int .i64 E5]) (by simp [results, Tryz.results24, go_sem, z0, z1, z2]) rfl ⟨_, rfl, unhide Q, unhide BP⟩

set_option maxRecDepth 20000 in
set_option maxHeartbeats 2000000 in
theorem abs12_pos (a : Option Addr) (l cp : Nat) (E lo z : Int) (w : World) (hv : IsLv w (.agg #[.bool false, .slice a l cp, .int .i64 E]) lo z) :
    Calls Tryz.prog 24 #[.agg #[.bool false, .slice a l cp, .int .i64 E]] w fun e w' => ∃ u, e = .returned u ∧ IsLv w' u lo z ∧ Below w.heap.size w w' := by
  have X0 := Box3.new w (.bool false) (.slice a l cp) (.int .i64 E)
  have b0 := below_alloc9 w (.cells #[.bool false, .slice a l cp, .int .i64 E] 52)
  have s0 := size_alloc9 w (.cells #[.bool false, .slice a l cp, .int .i64 E] 52)
  have b1 := below_alloc9 (w.alloc (.cells #[.bool false, .slice a l cp, .int .i64 E] 52)) (.cells #[.bool false, .slice a l cp, .int .i64 E] 52)
  have X1 := Box3.new (w.alloc (.cells #[.bool false, .slice a l cp, .int .i64 E] 52)) (.bool false) (.slice a l cp) (.int .i64 E)
  rw [s0] at X1
  have BP := hide (b0.trans (b1.mono b0.size))
  have Q := hide ((hv.below b0).below b1)
  have y0 := X0.c0; have y1 := X0.c1; have y2 := X0.c2
  have z0 := X1.c0; have z1 := X1.c1; have z2 := X1.c2
  clear X0 b0 s0 b1 X1 hv
  go_enter Tryz.func24, Tryz.ntmps24
  go_wp2_with fail
  exact bodyPost_ret (v := .agg #[.bool false, .slice a l cp, .int .i64 E]) (by simp [results, Tryz.results24, go_sem, z0, z1, z2]) rfl ⟨_, rfl, unhide Q, unhide BP⟩

theorem abs12_any {w : World} {v : Value} {lo z : Int} {W : Nat} (h : IsLv w v lo z) (hl : Lvl lo W z) :
    Calls Tryz.prog 24 #[v] w fun e w' => ∃ u, e = .returned u ∧ IsLv w' u lo ((z.natAbs : Nat) : Int) ∧ Below w.heap.size w w' := by
  have h0 := h
  obtain ⟨neg, a, cp, L, rfl, _⟩ := h
  have hn : neg = decide (z < 0) := by
    rw [dy_sign h0]
    exact decide_eq_decide.2 (oM_neg_iff z)
  rcases Int.lt_or_le z 0 with hz | hz
  · obtain rfl : neg = true := by rw [hn]; exact decide_eq_true hz
    refine abs12_neg a L.length cp (oE z lo) lo _ w (fun w' hb => ?_)
    rw [show ((z.natAbs : Nat) : Int) = -z by omega]
    exact rnegN (h0.below hb) hl
  · obtain rfl : neg = false := by rw [hn]; exact decide_eq_false (by omega)
    rw [show ((z.natAbs : Nat) : Int) = z by omega]
    exact abs12_pos a L.length cp (oE z lo) lo z w h0

end Go.Proofs.YtceofkjefmilfaaGreatDoor

