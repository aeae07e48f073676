/- Contracts of fit, Made. -/
import Derived.Test.YtiebegjgaflfiaaW3
import Derived.Test.YtiebegjgaflfiaaReps
import Derived.Outline
import Derived.Deep.RegionWith
namespace Go.Proofs.Ytiebegjgaflfiaa
open Go.RowKit

set_option maxHeartbeats 400000 in
theorem fit_any (B : Nat) (neg : Bool) (ao : Option Addr) (cap : Nat) (L : List Nat) (w : World) (h : LimbsAt w ao cap L) (hn : NewAt B ao L) (hl : L.length ≤ 35184372088832) :
    Calls Try.prog 40 #[.bool neg, .slice ao L.length cap] w fun e w' => ∃ v, e = .returned (.tuple #[v, .int .i64 (errOf (sval neg L))]) ∧ IsNum B w' v (numOf (sval neg L)) ∧ Below w.heap.size w w' := by
  have hT : ∀ L' : List Nat, Canon L' → Fits L' → val L' = val L → (L' = [] → errOf (sval neg L) = 0 ∧ numOf (sval neg L) = 0) ∧ (512 < L'.length → errOf (sval neg L) = 2 ∧ numOf (sval neg L) = 0) ∧ (L'.length ≤ 512 → errOf (sval neg L) = 0 ∧ numOf (sval neg L) = sval neg L') := by
    intro L' c f hv
    have hi := val_lt_TOP L' f c
    refine ⟨?_, ?_, ?_⟩
    · rintro rfl
      have : val L = 0 := by rw [← hv]; rfl
      have hT : 0 < TOP := Nat.pow_pos (by decide)
      have e : sval neg L = 0 := by unfold sval; cases neg <;> simp [this]
      simp [errOf, numOf, e, hT]
    · intro h5
      have : ¬ val L' < TOP := fun h => by have := hi.1 h; omega
      simp [errOf, numOf, natAbs_sval, ← hv, this]
    · intro h5
      have := hi.2 h5
      rw [sval_congr (neg := neg) hv]
      simp [errOf, numOf, natAbs_sval, ← hv, this]
  generalize errOf (sval neg L) = er at *
  generalize numOf (sval neg L) = nu at *
  have HT := hide hT
  clear hT
  have HN := hide hn
  clear hn
  go_enter Try.func40, Try.ntmps40
  go_wp2_with fail
  refine (trim_any ao cap L _ (h.below ?_) hl).mono ?_
  · exact (Below.refl _ _).alloc (Nat.le_refl _) _
  rintro e w' ⟨v, rfl, ⟨ao', cap', L', rfl, h2, h3, h4, h5, h6⟩, rfl⟩
  have h1 := h5 w h
  have H := hide (unhide HT L' h2 h1.2.1 h3)
  have HA := hide (h6 B (unhide HN))
  have H1 := hide h1
  have H2 := hide h2
  clear HT h3 h5 h6 h1 h2 h HN
  by_cases h0 : L' = []
  · have H0 := hide ((unhide H).1 h0)
    have hz : L'.length = 0 := by rw [h0]; rfl
    clear h0
    go_wp2
    refine bodyPost_ret (v := .tuple #[.agg #[.bool false, .slice none 0 0], .int .i64 0]) (by simp [results, Try.results40, go_sem]) rfl ⟨.agg #[.bool false, .slice none 0 0], ?_, ?_, (Below.refl _ _).alloc (Nat.le_refl _) _⟩
    · rw [(unhide H0).1]
    · rw [(unhide H0).2]; exact IsNum.zero _ _ _ _
  · have hp : 0 < L'.length := List.length_pos_iff.2 h0
    have hne : ((L'.length : Int) == 0) = false := by simp; exact h0
    by_cases h5 : L'.length ≤ 512
    · have H0 := hide ((unhide H).2.2 h5)
      go_wp2
      refine bodyPost_ret (v := .tuple #[.agg #[.bool neg, .slice ao' L'.length cap'], .int .i64 0]) (by simp [results, Try.results40, go_sem]) rfl ⟨.agg #[.bool neg, .slice ao' L'.length cap'], ?_, ?_, ?_⟩
      · rw [(unhide H0).1]
      · rw [(unhide H0).2]
        exact IsNum.mk ((unhide H1).below ((Below.refl _ _).alloc (Nat.le_refl _) _)) (unhide HA) (unhide H2) h0 (by omega)
      · exact (Below.refl _ _).alloc (Nat.le_refl _) _
    · have H0 := hide ((unhide H).2.1 (by omega))
      go_wp2
      refine bodyPost_ret (v := .tuple #[.agg #[.bool false, .slice none 0 0], .int .i64 2]) (by simp [results, Try.results40, go_sem]) rfl ⟨.agg #[.bool false, .slice none 0 0], ?_, ?_, (Below.refl _ _).alloc (Nat.le_refl _) _⟩
      · rw [(unhide H0).1]
      · rw [(unhide H0).2]; exact IsNum.zero _ _ _ _

end Go.Proofs.Ytiebegjgaflfiaa
