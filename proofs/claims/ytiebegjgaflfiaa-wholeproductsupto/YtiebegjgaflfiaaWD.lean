/- Contract of Of. -/
import Derived.Test.YtiebegjgaflfiaaW6
import Derived.Test.YtiebegjgaflfiaaReps2
namespace Go.Proofs.Ytiebegjgaflfiaa
open Go.RowKit

/-- A new block of two limbs. -/
theorem two_row (w : World) (g : Nat) (a b : Int) (lo hi : Nat) (hg : w.heap.size = g) (ha : a = (lo : Int)) (hb : b = (hi : Int)) :
    RowAt (w.alloc (.cells #[.int .u32 a, .int .u32 b] 48)) g [lo, hi] := by
  subst hg; subst ha; subst hb
  exact heap_alloc_new w _

theorem wrap_neg (n : Int) (h0 : -9223372036854775808 ≤ n) (h1 : n < 0) : IntKind.u64.wrap (-IntKind.u64.wrap n) = -n := by
  simp only [IntKind.wrap, IntKind.signed, IntKind.bits]
  simp
  omega

theorem val_two (m : Nat) : val [m % 4294967296, m / 4294967296] = m := by simp only [val]; omega

set_option maxHeartbeats 400000 in
theorem of_any (n : Int) (w : World) (h0 : -9223372036854775808 ≤ n) (h1 : n ≤ 9223372036854775807) :
    Calls Try.prog 30 #[.int .i64 n] w fun e w' => ∃ v, e = .returned v ∧ IsNum w.heap.size w' v n ∧ Below w.heap.size w w' := by
  obtain ⟨m, hm⟩ : ∃ m, m = n.natAbs := ⟨_, rfl⟩
  have hf : Fits [m % 4294967296, m / 4294967296] := by intro x hx; simp at hx; omega
  have HF := hide hf
  have HM := hide hm
  clear hf hm
  by_cases hn : n < 0
  · have hw := wrap_neg n h0 hn
    have HW := hide hw
    clear hw
    go_enter Try.func30, Try.ntmps30
    go_wp2_with fail
    have hm := unhide HM
    have hR := two_row (w.alloc (.cells #[.bool false, .slice none 0 0] 24)) (w.heap.size + 1) (IntKind.u64.wrap (-IntKind.u64.wrap n) % 4294967296) (IntKind.u64.wrap (-IntKind.u64.wrap n) / 4294967296 % 4294967296) (m % 4294967296) (m / 4294967296) (by simp) (by rw [unhide HW]; omega) (by rw [unhide HW]; omega)
    refine (trim_any (some ⟨w.heap.size + 1, 0, none⟩) 2 [m % 4294967296, m / 4294967296] _ (hR.limbs (unhide HF) 2 (by simp)) (by simp)).mono ?_
    rintro e w' ⟨v, rfl, ⟨ao', cap', L', rfl, g1, g2, g3, g4, g5⟩, rfl⟩
    have G4 := hide g4
    have G1 := hide g1
    have G2 := hide g2
    have G5 := hide g5
    clear g1 g2 g4 g5 hR hm
    go_wp2
    refine bodyPost_ret (v := .agg #[.bool true, .slice ao' L'.length cap']) (by simp [results, Try.results30, go_sem]) rfl ⟨.agg #[.bool true, .slice ao' L'.length cap'], rfl, ⟨true, ao', cap', L', rfl, unhide G4 _ ?_, unhide G5 _ (.inr ⟨_, _, rfl, by omega⟩), unhide G1, by simp [hn], ?_⟩, ?_⟩
    · refine (two_row _ (w.heap.size + 1) _ _ _ _ (by simp) ?_ ?_).limbs (unhide HF) 2 (by simp)
      · have hm := unhide HM; rw [unhide HW]; omega
      · have hm := unhide HM; rw [unhide HW]; omega
    · exact ⟨by rw [unhide G2, val_two]; exact unhide HM, by simp at g3; omega⟩
    · exact ((Below.refl _ _).alloc (Nat.le_refl _) _).alloc (by simp) _
  · go_enter Try.func30, Try.ntmps30
    go_wp2_with fail
    have hm := unhide HM
    have hR := two_row (w.alloc (.cells #[.bool false, .slice none 0 0] 24)) (w.heap.size + 1) (n % 4294967296) (n / 4294967296) (m % 4294967296) (m / 4294967296) (by simp) (by omega) (by omega)
    refine (trim_any (some ⟨w.heap.size + 1, 0, none⟩) 2 [m % 4294967296, m / 4294967296] _ (hR.limbs (unhide HF) 2 (by simp)) (by simp)).mono ?_
    rintro e w' ⟨v, rfl, ⟨ao', cap', L', rfl, g1, g2, g3, g4, g5⟩, rfl⟩
    have G4 := hide g4
    have G1 := hide g1
    have G2 := hide g2
    have G5 := hide g5
    clear g1 g2 g4 g5 hR hm
    go_wp2
    refine bodyPost_ret (v := .agg #[.bool false, .slice ao' L'.length cap']) (by simp [results, Try.results30, go_sem]) rfl ⟨.agg #[.bool false, .slice ao' L'.length cap'], rfl, ⟨false, ao', cap', L', rfl, unhide G4 _ ?_, unhide G5 _ (.inr ⟨_, _, rfl, by omega⟩), unhide G1, by simp; omega, ?_⟩, ?_⟩
    · refine (two_row _ (w.heap.size + 1) _ _ _ _ (by simp) ?_ ?_).limbs (unhide HF) 2 (by simp)
      · have hm := unhide HM; omega
      · have hm := unhide HM; omega
    · exact ⟨by rw [unhide G2, val_two]; exact unhide HM, by simp at g3; omega⟩
    · exact ((Below.refl _ _).alloc (Nat.le_refl _) _).alloc (by simp) _

end Go.Proofs.Ytiebegjgaflfiaa
