/- Part 6 of the texts. -/
import Derived.Test.YtkmkjeoblkdmnabDoorPart05
import Derived.Test.YtkmkjeoblkdmnabDoorPart02
import Derived.Test.YtkmkjeoblkdmnabDoorPart04
import Derived.Outline
import Derived.Deep.RegionWith
/- Contract of subLimbs. -/
namespace Go.Proofs.YtkmkjeoblkdmnabDoor
open Go.RowKit

theorem wrap_sub2 (x y c : Nat) (hx : x < 4294967296) (hy : y < 4294967296) (hc : c ≤ 1) (h : x < y) :
    IntKind.u64.wrap (IntKind.u64.wrap ((x : Int) - (y : Int)) - (c : Int)) = 18446744073709551616 + (x : Int) - (y : Int) - (c : Int) := by
  simp only [IntKind.wrap, IntKind.signed, IntKind.bits]
  simp
  omega

end Go.Proofs.YtkmkjeoblkdmnabDoor

/- Contracts of fit, Made. -/
namespace Go.Proofs.YtkmkjeoblkdmnabDoor
open Go.RowKit

set_option maxHeartbeats 400000 in
theorem fit_any (B : Nat) (neg : Bool) (ao : Option Addr) (cap : Nat) (L : List Nat) (w : World) (h : LimbsAt w ao cap L) (hn : NewAt B ao L) (hl : L.length ≤ 35184372088832) :
    Calls Tryd.prog 34 #[.bool neg, .slice ao L.length cap] w fun e w' => ∃ v, e = .returned (.tuple #[v, .int .i64 (errOf (sval neg L))]) ∧ IsNum B w' v (numOf (sval neg L)) ∧ Below w.heap.size w w' := by
  have hT : ∀ L' : List Nat, Canon L' → Fits L' → val L' = val L → (L' = [] → errOf (sval neg L) = 0 ∧ numOf (sval neg L) = 0) ∧ (512 < L'.length → errOf (sval neg L) = 2 ∧ numOf (sval neg L) = 0) ∧ (L'.length ≤ 512 → errOf (sval neg L) = 0 ∧ numOf (sval neg L) = sval neg L') := by
    intro L' c f hv
    have hi := val_lt_TOP L' f c
    refine ⟨?_, ?_, ?_⟩
    · rintro rfl
      have : val L = 0 := by rw [← hv]; rfl
      have hT : 0 < TOP := Nat.pow_pos (by decide)
      have e : sval neg L = 0 := by unfold sval; cases neg <;> simp [this]
      simp [errOf, numOf, e, hT]
    · intro h5
      have : ¬ val L' < TOP := fun h => by have := hi.1 h; omega
      simp [errOf, numOf, natAbs_sval, ← hv, this]
    · intro h5
      have := hi.2 h5
      rw [sval_congr (neg := neg) hv]
      simp [errOf, numOf, natAbs_sval, ← hv, this]
  generalize errOf (sval neg L) = er at *
  generalize numOf (sval neg L) = nu at *
  have HT := hide hT
  clear hT
  have HN := hide hn
  clear hn
  go_enter Tryd.func34, Tryd.ntmps34
  go_wp2_with fail
  refine (trim_any ao cap L _ (h.below ?_) hl).mono ?_
  · exact (Below.refl _ _).alloc (Nat.le_refl _) _
  rintro e w' ⟨v, rfl, ⟨ao', cap', L', rfl, h2, h3, h4, h5, h6⟩, rfl⟩
  have h1 := h5 w h
  have H := hide (unhide HT L' h2 h1.2.1 h3)
  have HA := hide (h6 B (unhide HN))
  have H1 := hide h1
  have H2 := hide h2
  clear HT h3 h5 h6 h1 h2 h HN
  by_cases h0 : L' = []
  · have H0 := hide ((unhide H).1 h0)
    have hz : L'.length = 0 := by rw [h0]; rfl
    clear h0
    go_wp2
    refine bodyPost_ret (v := .tuple #[.agg #[.bool false, .slice none 0 0], .int .i64 0]) (by simp [results, Tryd.results34, go_sem]) rfl ⟨.agg #[.bool false, .slice none 0 0], ?_, ?_, (Below.refl _ _).alloc (Nat.le_refl _) _⟩
    · rw [(unhide H0).1]
    · rw [(unhide H0).2]; exact IsNum.zero _ _ _ _
  · have hp : 0 < L'.length := List.length_pos_iff.2 h0
    have hne : ((L'.length : Int) == 0) = false := by simp; exact h0
    by_cases h5 : L'.length ≤ 512
    · have H0 := hide ((unhide H).2.2 h5)
      go_wp2
      refine bodyPost_ret (v := .tuple #[.agg #[.bool neg, .slice ao' L'.length cap'], .int .i64 0]) (by simp [results, Tryd.results34, go_sem]) rfl ⟨.agg #[.bool neg, .slice ao' L'.length cap'], ?_, ?_, ?_⟩
      · rw [(unhide H0).1]
      · rw [(unhide H0).2]
        exact IsNum.mk ((unhide H1).below ((Below.refl _ _).alloc (Nat.le_refl _) _)) (unhide HA) (unhide H2) h0 (by omega)
      · exact (Below.refl _ _).alloc (Nat.le_refl _) _
    · have H0 := hide ((unhide H).2.1 (by omega))
      go_wp2
      refine bodyPost_ret (v := .tuple #[.agg #[.bool false, .slice none 0 0], .int .i64 2]) (by simp [results, Tryd.results34, go_sem]) rfl ⟨.agg #[.bool false, .slice none 0 0], ?_, ?_, (Below.refl _ _).alloc (Nat.le_refl _) _⟩
      · rw [(unhide H0).1]
      · rw [(unhide H0).2]; exact IsNum.zero _ _ _ _

end Go.Proofs.YtkmkjeoblkdmnabDoor

/- Contracts of addSigned. -/
namespace Go.Proofs.YtkmkjeoblkdmnabDoor
open Go.RowKit
attribute [local go_sem ↓] Go.wp_at_zero Go.wp_at_succ

end Go.Proofs.YtkmkjeoblkdmnabDoor

/- Contracts of addSigned at different signs; of any two numbers without a 0 on top. -/
namespace Go.Proofs.YtkmkjeoblkdmnabDoor
open Go.RowKit
attribute [local go_sem ↓] Go.wp_at_zero Go.wp_at_succ

theorem cmpL_canon (A B : List Nat) (fA : Fits A) (fB : Fits B) (cA : Canon A) (cB : Canon B) : cmpL A B = cmpI (val A) (val B) := by
  unfold cmpL
  split
  · rfl
  · rename_i hl
    rcases Nat.lt_or_gt_of_ne hl with h | h
    · have : val A < val B := by
        have := length_le_of_val B A fA cB
        by_cases hv : val B ≤ val A
        · have := this hv; omega
        · omega
      rw [cmpI_lt (by omega), cmpI_lt (by omega)]
    · have : val B < val A := by
        have := length_le_of_val A B fB cA
        by_cases hv : val A ≤ val B
        · have := this hv; omega
        · omega
      rw [cmpI_gt (by omega), cmpI_gt (by omega)]

end Go.Proofs.YtkmkjeoblkdmnabDoor

/- Contract of the reference's Add. -/
namespace Go.Proofs.YtkmkjeoblkdmnabDoor
open Go.RowKit
attribute [local go_sem ↓] Go.wp_at_zero Go.wp_at_succ

end Go.Proofs.YtkmkjeoblkdmnabDoor

