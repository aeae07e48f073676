/- The law WholeChecks, walked. -/
import Derived.Test.YtiebegjgaflfiaaWE
namespace Go.Proofs.Ytiebegjgaflfiaa
open Go.RowKit
attribute [local go_sem ↓] Go.wp_at_zero Go.wp_at_succ

set_option maxHeartbeats 1000000 in
theorem checks_no (neg : Bool) (ao : Option Addr) (cap : Nat) (L : List Nat) (w : World) (h : LimbsAt w ao cap L) (hl : L.length ≤ 35184372088830) (hr : rightB neg L = false) :
    Calls Try.prog 3 #[.agg #[.bool neg, .slice ao L.length cap]] w fun e w' => e = .returned (.bool true) ∧ Below w.heap.size w w' := by
  have hC := fun w' h' => check_any neg ao cap L w' h' hl
  have hR := fun w' h' => right_any neg ao cap L w' h' hl
  simp only [chkE, hr, Bool.false_eq_true, if_false] at hC hR
  have HC := hide hC
  have HR := hide hR
  clear hC hR hr
  go_enter Try.func3, Try.ntmps3
  go_wp2
  refine at_world (fun W => Below w.heap.size w W ∧ W.heap.size = w.heap.size + 1 ∧ Box2 W w.heap.size (.bool neg) (.slice ao L.length cap)) ⟨(Below.refl _ _).alloc (Nat.le_refl _) _, by simp, Box2.new _ _ _⟩ ?_
  rintro W0 ⟨hw0, hs0, x0⟩
  have hK : ∀ w', Below W0.heap.size W0 w' → Below W0.heap.size W0 w' ∧ w'.cell? ⟨w.heap.size, 0, none⟩ = some (.bool neg) ∧ w'.cell? ⟨w.heap.size, 1, none⟩ = some (.slice ao L.length cap) := fun w' h =>
    ⟨h, (x0.below h (by omega)).c0, (x0.below h (by omega)).c1⟩
  have HK := hide hK
  have HA := hide (h.below hw0)
  have HW0 := hide hw0
  clear hK h x0 hw0
  go_region_held3 (fun w' => Below W0.heap.size W0 w' ∧ w'.cell? ⟨w.heap.size, 0, none⟩ = some (.bool neg) ∧ w'.cell? ⟨w.heap.size, 1, none⟩ = some (.slice ao L.length cap))
    (first | exact unhide HK _ (Below.refl _ _).drew | exact unhide HK _ (by assumption))
    (first | (go_at_call 9; refine (unhide HC _ ((unhide HA).below (And.left (by assumption)))).mono ?_; rintro e w1 ⟨rfl, hb1⟩; have hB1 : Below W0.heap.size W0 w1 := Below.trans (And.left (by assumption)) (hb1.mono (Below.size (And.left (by assumption)))); clear hb1) | (go_at_call 10; refine (unhide HR _ ((unhide HA).below (And.left (by assumption)))).mono ?_; rintro e w1 ⟨rfl, hb1⟩; have hB1 : Below W0.heap.size W0 w1 := Below.trans (And.left (by assumption)) (hb1.mono (Below.size (And.left (by assumption)))); clear hb1) | (go_at_call 11; refine (awake_any _).mono ?_; rintro e w1 ⟨rfl, hb1⟩; have hB1 : Below W0.heap.size W0 w1 := Below.trans (And.left (by assumption)) (hb1.mono (Below.size (And.left (by assumption)))); clear hb1))
  go_wp2
  go_ret
  exact ⟨rfl, (unhide HW0).trans (Below.mono (And.left (by assumption)) (by omega))⟩

set_option maxHeartbeats 1000000 in
theorem checks_yes (neg : Bool) (ao : Option Addr) (cap : Nat) (L : List Nat) (w : World) (h : LimbsAt w ao cap L) (hl : L.length ≤ 35184372088830) (hr : rightB neg L = true) :
    Calls Try.prog 3 #[.agg #[.bool neg, .slice ao L.length cap]] w fun e w' => e = .returned (.bool true) ∧ Below w.heap.size w w' := by
  have hC := fun w' h' => check_any neg ao cap L w' h' hl
  have hR := fun w' h' => right_any neg ao cap L w' h' hl
  simp only [chkE, hr, if_true] at hC hR
  have HC := hide hC
  have HR := hide hR
  clear hC hR hr
  go_enter Try.func3, Try.ntmps3
  go_wp2
  refine at_world (fun W => Below w.heap.size w W ∧ W.heap.size = w.heap.size + 1 ∧ Box2 W w.heap.size (.bool neg) (.slice ao L.length cap)) ⟨(Below.refl _ _).alloc (Nat.le_refl _) _, by simp, Box2.new _ _ _⟩ ?_
  rintro W0 ⟨hw0, hs0, x0⟩
  have hK : ∀ w', Below W0.heap.size W0 w' → Below W0.heap.size W0 w' ∧ w'.cell? ⟨w.heap.size, 0, none⟩ = some (.bool neg) ∧ w'.cell? ⟨w.heap.size, 1, none⟩ = some (.slice ao L.length cap) := fun w' h =>
    ⟨h, (x0.below h (by omega)).c0, (x0.below h (by omega)).c1⟩
  have HK := hide hK
  have HA := hide (h.below hw0)
  have HW0 := hide hw0
  clear hK h x0 hw0
  obtain ⟨_, c0, c1⟩ := unhide HK _ (Below.refl _ _)
  have hB0 := (Below.refl W0.heap.size W0).drew
  go_region_with (first | (go_at_call 9; refine (unhide HC _ ((unhide HA).below (by assumption))).mono ?_; rintro e w1 ⟨rfl, hb1⟩; have hB1 : Below W0.heap.size W0 w1 := Below.trans (by assumption) (hb1.mono (Below.size (B := W0.heap.size) (w := W0) (by assumption))); clear hb1; obtain ⟨_, c0, c1⟩ := unhide HK _ hB1) | (go_at_call 10; refine (unhide HR _ ((unhide HA).below (by assumption))).mono ?_; rintro e w1 ⟨rfl, hb1⟩; have hB1 : Below W0.heap.size W0 w1 := Below.trans (by assumption) (hb1.mono (Below.size (B := W0.heap.size) (w := W0) (by assumption))); clear hb1; obtain ⟨_, c0, c1⟩ := unhide HK _ hB1) | (go_at_call 11; refine (awake_any _).mono ?_; rintro e w1 ⟨rfl, hb1⟩; have hB1 : Below W0.heap.size W0 w1 := Below.trans (by assumption) (hb1.mono (Below.size (B := W0.heap.size) (w := W0) (by assumption))); clear hb1; obtain ⟨_, c0, c1⟩ := unhide HK _ hB1))
  all_goals
    go_wp2
    go_ret
    exact ⟨rfl, (unhide HW0).trans (hB1.mono (by omega))⟩

theorem checks_walk (neg : Bool) (ao : Option Addr) (cap : Nat) (L : List Nat) (w : World) (h : LimbsAt w ao cap L) (hl : L.length ≤ 35184372088830) :
    Calls Try.prog 3 #[.agg #[.bool neg, .slice ao L.length cap]] w fun e w' => e = .returned (.bool true) ∧ Below w.heap.size w w' := by
  cases hr : rightB neg L
  · exact checks_no neg ao cap L w h hl hr
  · exact checks_yes neg ao cap L w h hl hr

end Go.Proofs.Ytiebegjgaflfiaa
