/- Same of two numbers; awake. -/
import Derived.Test.YtiebegjgaflfiaaWB
import Derived.Test.YtiebegjgaflfiaaWD
namespace Go.Proofs.Ytiebegjgaflfiaa
open Go.RowKit

theorem sameB_num {na nb : Bool} {A B : List Nat} {x y : Int} (fA : Fits A) (fB : Fits B) (cA : Canon A) (cB : Canon B) (ea : na = decide (x < 0)) (eb : nb = decide (y < 0)) (va : val A = x.natAbs) (vb : val B = y.natAbs) : sameB na A nb B = decide (x = y) := by
  unfold sameB
  rw [decide_eq_decide]
  constructor
  · rintro ⟨h1, h2⟩
    subst h2
    rw [ea, eb, decide_eq_decide] at h1
    omega
  · rintro rfl
    exact ⟨by rw [ea, eb], eq_of_canon A B fA fB cA cB (by omega)⟩

theorem same_num {B B' : Nat} {w : World} {v u : Value} {x y : Int} (hv : IsNum B w v x) (hu : IsNum B' w u y) :
    Calls Try.prog 15 #[v, u] w fun e w' => e = .returned (.bool (decide (x = y))) ∧ Below w.heap.size w w' := by
  obtain ⟨na, ao, ca, A, rfl, a1, a2, a3, a4, a5, a6⟩ := hv
  obtain ⟨nb, bo, cb, C, rfl, b1, b2, b3, b4, b5, b6⟩ := hu
  have := same_any na nb ao bo ca cb A C w a1 b1 a6 b6
  rwa [sameB_num a1.2.1 b1.2.1 a3 b3 a4 b4 a5 b5] at this

/-- A right number's struct: what Add and the like ask. -/
theorem IsNum.right {B : Nat} {w : World} {v : Value} {x : Int} (h : IsNum B w v x) (hx : x.natAbs < TOP) :
    ∃ neg ao cap L, v = .agg #[.bool neg, .slice ao L.length cap] ∧ LimbsAt w ao cap L ∧ rightB neg L = true ∧ sval neg L = x ∧ L.length ≤ 512 := by
  obtain ⟨neg, ao, cap, L, rfl, h1, h2, h3, h4, h5, h6⟩ := h
  have hl : L.length ≤ 512 := (val_lt_TOP L h1.2.1 h3).1 (by omega)
  refine ⟨neg, ao, cap, L, rfl, h1, ?_, ?_, hl⟩
  · have e0 : L.length = 0 → neg = false := fun e => by
      have : L = [] := List.length_eq_zero_iff.1 e
      subst this
      rw [h4]; simp [val] at h5; simp; omega
    have e1 : L.length = 0 ∨ L[L.length - 1]?.getD 0 ≠ 0 := by
      rcases h3 with h | h
      · left; rw [h]; rfl
      · exact .inr h
    simp only [rightB, Bool.and_eq_true, decide_eq_true_eq, Bool.not_eq_true', Bool.and_eq_false_iff, decide_eq_false_iff_not, Bool.or_eq_true]
    refine ⟨⟨hl, ?_⟩, e1⟩
    by_cases e : L.length = 0
    · exact .inr (e0 e)
    · exact .inl e
  · unfold sval
    rw [h4]
    by_cases hx0 : x < 0
    · simp [hx0]; omega
    · simp [hx0]; omega

/-- Add of two right numbers. -/
theorem add_num {B B' : Nat} {w : World} {v u : Value} {x y : Int} (hv : IsNum B w v x) (hu : IsNum B' w u y) (hx : x.natAbs < TOP) (hy : y.natAbs < TOP) :
    Calls Try.prog 13 #[v, u] w fun e w' => ∃ r, e = .returned (.tuple #[r, .int .i64 (errOf (x + y))]) ∧ IsNum w.heap.size w' r (numOf (x + y)) ∧ Below w.heap.size w w' := by
  obtain ⟨na, ao, ca, A, rfl, a1, a2, a3, a4⟩ := hv.right hx
  obtain ⟨nb, bo, cb, C, rfl, b1, b2, b3, b4⟩ := hu.right hy
  have := add_any na nb ao bo ca cb A C w a1 b1 (by omega) (by omega)
  rwa [a2, b2, a3, b3, Bool.and_self, opErr_true, opNum_true] at this

theorem small_TOP (x : Nat) (h : x < 18446744073709551616) : x < TOP := by
  have : (4294967296 ^ 2 : Nat) ≤ 4294967296 ^ TOPN := Nat.pow_le_pow_right (by decide) (by decide)
  unfold TOP
  omega

theorem errOf_small (x : Int) (h : x.natAbs < TOP) : errOf x = 0 := by unfold errOf; rw [if_pos h]
theorem numOf_small (x : Int) (h : x.natAbs < TOP) : numOf x = x := by unfold numOf; rw [if_pos h]

set_option maxHeartbeats 400000 in
theorem awake_any (w : World) : Calls Try.prog 11 #[] w fun e w' => e = .returned (.bool true) ∧ Below w.heap.size w w' := by
  go_enter Try.func11, Try.ntmps11
  go_wp2_with fail
  refine (of_any 4294967295 _ (by decide) (by decide)).mono ?_
  rintro e w1 ⟨v1, rfl, i1, hb1⟩
  have I1 := hide i1
  have HB1 := hide hb1
  clear i1 hb1
  go_wp2_with fail
  refine (of_any 1 _ (by decide) (by decide)).mono ?_
  rintro e w2 ⟨v2, rfl, i2, hb2⟩
  have I2 := hide i2
  have I1' := hide ((unhide I1).below hb2)
  have HB2 := hide ((unhide HB1).trans (hb2.mono (unhide HB1).size))
  clear i2 hb2 I1 HB1
  go_wp2_with fail
  refine (add_num (unhide I1') (unhide I2) (small_TOP _ (by decide)) (small_TOP _ (by decide))).mono ?_
  rw [errOf_small _ (small_TOP _ (by decide)), numOf_small _ (small_TOP _ (by decide))]
  rintro e w3 ⟨r, rfl, ⟨n3, a3, c3, L3, rfl, i3⟩, hb3⟩
  have I3 := hide i3
  have HB3 := hide ((unhide HB2).trans (hb3.mono (unhide HB2).size))
  clear i3 hb3 HB2 I2 I1'
  go_wp2_with fail
  have hr := two_row (w3.alloc (.cells #[.bool n3, .slice a3 L3.length c3] 24)) (w3.heap.size + 1) 0 1 0 1 (by simp) rfl rfl
  have hb : Below w3.heap.size w3 ((w3.alloc (.cells #[.bool n3, .slice a3 L3.length c3] 24)).alloc (.cells #[.int .u32 0, .int .u32 1] 48)) := ((Below.refl _ _).alloc (Nat.le_refl _) _).alloc (by simp) _
  have j3 : IsNum w2.heap.size w3 (.agg #[.bool n3, .slice a3 L3.length c3]) (4294967295 + 1) := ⟨n3, a3, c3, L3, rfl, unhide I3⟩
  have j4 : IsNum 0 ((w3.alloc (.cells #[.bool n3, .slice a3 L3.length c3] 24)).alloc (.cells #[.int .u32 0, .int .u32 1] 48)) (.agg #[.bool false, .slice (some ⟨w3.heap.size + 1, 0, none⟩) 2 2]) 4294967296 :=
    ⟨false, _, 2, [0, 1], rfl, hr.limbs (by intro x hx; simp at hx; omega) 2 (by simp), .inr ⟨_, _, rfl, Nat.zero_le _⟩, .inr (by simp), rfl, rfl, by simp⟩
  refine (same_num (j3.below hb) j4).mono ?_
  rintro e w4 ⟨rfl, hb4⟩
  have HB4 := hide ((unhide HB3).trans ((hb.trans (hb4.mono hb.size)).mono (unhide HB3).size))
  clear hr hb j3 j4 hb4
  go_wp2
  go_ret
  exact ⟨rfl, unhide HB4⟩

end Go.Proofs.Ytiebegjgaflfiaa
