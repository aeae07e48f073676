/- Part 15 of the texts. -/
import Derived.Test.YtfkndkaneffgdaaGreatDoorPartD14
import Derived.Test.YtfkndkaneffgdaaGreatDoorPartD13
import Derived.Test.YtfkndkaneffgdaaGreatDoorPartD12
import Ieee.Arith
/- Round of a number at hand; awake (layer 4); the law SoftKinds, walked. -/
namespace Go.Proofs.YtfkndkaneffgdaaGreatDoor
open Go.RowKit

theorem round_dy {w : World} {v : Value} {m e : Int} (h : IsDy w v m e) (hm : m.natAbs < TOP) (hr : dRt m e = true) (hT : Tab w) :
    Calls Tryz.prog 143 #[v] w fun r w' => r = .returned (.tuple #[.int .u64 (wrd (decide (m < 0)) (rnd m.natAbs e) : Nat), .int .u8 (rflag m.natAbs e), .int .i64 0]) ∧ Below w.heap.size w w' := by
  obtain ⟨n, a, c, L, rfl, h1, h2, h3, h4, h5⟩ := h.right hm
  have hn : n = decide (m < 0) := by
    obtain ⟨n', a', c', L', e1, _, _, e4, _⟩ := h.parts
    simp only [Value.agg.injEq, Array.mk.injEq, List.cons.injEq, Value.bool.injEq] at e1
    rw [e1.1]; exact e4
  have hv : val L = m.natAbs := by rw [← h3, natAbs_sval]
  have := round_right n a c L e w h1 (h5.trans hr) hT
  rw [hv, hn] at this
  rw [hn]
  exact this

end Go.Proofs.YtfkndkaneffgdaaGreatDoor

/- What a finite number's value is rounded to; the laws SoftKinds, SoftBack, walked. -/
namespace Go.Proofs.YtfkndkaneffgdaaGreatDoor
open Go.RowKit
theorem oM_abs (z : Int) (h : z ≠ 0) : z.natAbs = (oM z).natAbs * 2 ^ tz z.natAbs := by
  have h1 := (oddOf z h).1
  have h2 := congrArg Int.natAbs h1
  rw [Int.natAbs_mul, Int.natAbs_pow] at h2
  exact h2

theorem oM_sign (z : Int) : decide (oM z < 0) = decide (z < 0) := by
  have h := sgnI_oM z
  unfold sgnI at h
  by_cases h1 : oM z < 0
  · rw [if_pos h1] at h
    by_cases h2 : z < 0
    · rw [decide_eq_true h1, decide_eq_true h2]
    · rw [if_neg h2] at h
      split at h <;> omega
  · rw [if_neg h1] at h
    by_cases h2 : z < 0
    · rw [if_pos h2] at h
      split at h <;> omega
    · rw [decide_eq_false h1, decide_eq_false h2]

/-- A number and its odd part are rounded alike. -/
theorem rnd_odd (z e : Int) : rnd (oM z).natAbs (oE z e) = rnd z.natAbs e ∧ (z ≠ 0 → lastE (oM z).natAbs (oE z e) = lastE z.natAbs e ∧ (bl (oM z).natAbs : Int) + oE z e = (bl z.natAbs : Int) + e) := by
  by_cases h : z = 0
  · subst h
    refine ⟨by rw [oM_zero]; simp [rnd], fun h => absurd rfl h⟩
  · have ha := oM_abs z h
    have hne : (oM z).natAbs ≠ 0 := by have := (oM_ne z h).1; omega
    rw [oE_ne z e h]
    generalize tz z.natAbs = k at *
    rw [ha, rnd_scale]
    refine ⟨rfl, fun _ => ?_⟩
    have hb := bl_scale (oM z).natAbs k hne
    refine ⟨?_, by rw [hb]; omega⟩
    unfold lastE
    rw [hb]
    congr 1
    omega

end Go.Proofs.YtfkndkaneffgdaaGreatDoor

/- No number is nearer than the rounded one: plain mathematics. -/
namespace Go.Proofs.YtfkndkaneffgdaaGreatDoor
theorem fS_wrd (n : Bool) (s : Nat) (h : s < 9223372036854775808) : fS (wrd n s) = n := by
  unfold fS
  cases n
  · rw [wrd_false]; exact decide_eq_false (by omega)
  · rw [wrd_true]; exact decide_eq_true (by omega)
theorem fP_wrd (n : Bool) (s : Nat) (h : s < 9223372036854775808) : fP (wrd n s) = s / 4503599627370496 := by
  unfold fP
  cases n
  · rw [wrd_false]; omega
  · rw [wrd_true]; omega
theorem fF_wrd (n : Bool) (s : Nat) (_h : s < 9223372036854775808) : fF (wrd n s) = s % 4503599627370496 := by
  unfold fF
  cases n
  · rw [wrd_false]
  · rw [wrd_true]; omega

/-- What a finite number is worth, at a level. -/
theorem fM_wrd (n : Bool) (s : Nat) (h : s < 9218868437227405312) : ∃ j : Nat, fE (wrd n s) = -1074 + (j : Int) ∧ fM (wrd n s) * 2 ^ j = sg n (rv s) := by
  have e1 := fP_wrd n s (by omega)
  have e2 := fF_wrd n s (by omega)
  have e3 := fS_wrd n s (by omega)
  unfold fM fE fA rv
  rw [e1, e2, e3]
  by_cases c1 : s < 4503599627370496
  · rw [if_pos (by omega), if_pos (by omega), if_pos c1]
    refine ⟨0, by simp, ?_⟩
    rw [Nat.mod_eq_of_lt c1]
    simp
  · rw [if_neg (by omega), if_neg (by omega), if_neg c1]
    refine ⟨s / 4503599627370496 - 1, by omega, ?_⟩
    rw [Nat.add_comm 4503599627370496]
    generalize s % 4503599627370496 + 4503599627370496 = m
    generalize s / 4503599627370496 - 1 = j
    unfold sg
    cases n
    · simp
    · simp [Int.neg_mul]

end Go.Proofs.YtfkndkaneffgdaaGreatDoor

/- How numbers of binary64 stand to one another: by what their rungs are worth. -/
namespace Go.Proofs.YtfkndkaneffgdaaGreatDoor
open Go.RowKit

/-- What a rung with its sign is worth (Inf as the next number would be). -/
def pv (n : Bool) (r : Nat) : Int := if n = true then -(rv r : Int) else (rv r : Int)

theorem dbl_sw : Ieee.double.signWeight = 9223372036854775808 := by decide
theorem dbl_bin : Ieee.double.binade = 4503599627370496 := by decide
theorem dbl_inf : Ieee.double.infRung = 9218868437227405312 := by decide
theorem dbl_lp : Ieee.double.leastPlace = -1074 := by decide

theorem wrd_parts (n : Bool) (r : Nat) (h : r < 9223372036854775808) : (wrd n r / 9223372036854775808 % 2 == 1) = n ∧ wrd n r % 9223372036854775808 = r := by
  cases n
  · rw [wrd_false]; exact ⟨by simp; omega, by omega⟩
  · rw [wrd_true]; exact ⟨by simp; omega, by omega⟩

theorem read_wrd (n : Bool) (r : Nat) (h : r ≤ 9218868437227405312) :
    (r < 9218868437227405312 ∧ ∃ (m : Nat) (k : Nat), Ieee.double.read (wrd n r) = .number n m (-1074 + (k : Int)) ∧ m * 2 ^ k = rv r) ∨ (r = 9218868437227405312 ∧ Ieee.double.read (wrd n r) = .infinity n) := by
  obtain ⟨h1, h2⟩ := wrd_parts n r (by omega)
  unfold Ieee.Format.read
  rw [dbl_sw, dbl_bin, dbl_inf, dbl_lp]
  simp only [h1, h2]
  by_cases c1 : r < 4503599627370496
  · left
    refine ⟨by omega, r, 0, ?_, ?_⟩
    · rw [if_pos c1]; rfl
    · unfold rv; rw [if_pos c1]; simp
  · by_cases c2 : r < 9218868437227405312
    · left
      refine ⟨c2, _, _, by rw [if_neg c1, if_pos c2], ?_⟩
      unfold rv; rw [if_neg c1]
    · right
      have : r = 9218868437227405312 := by omega
      exact ⟨this, by rw [if_neg c1, if_neg c2, if_pos this]⟩

theorem signed_pv (n : Bool) (m k u : Nat) (r : Nat) (h : m * 2 ^ k = rv r) (hu : u ≤ k) : Ieee.signed n m u * 2 ^ (k - u) = pv n r := by
  have h1 : m <<< u * 2 ^ (k - u) = rv r := by
    rw [Nat.shiftLeft_eq, Nat.mul_assoc, ← Nat.pow_add, show u + (k - u) = k by omega]; exact h
  have h2 : ((m <<< u : Nat) : Int) * 2 ^ (k - u) = (rv r : Int) := by
    rw [← h1, Int.natCast_mul, Int.natCast_pow]; rfl
  unfold Ieee.signed pv
  cases n
  · simp only [Bool.false_eq_true, if_false]; exact h2
  · simp only [if_true]; rw [Int.neg_mul, h2]

theorem rv_lt {r s : Nat} (h : r < s) : rv r < rv s := Nat.lt_of_lt_of_le (rv_succ r) (rv_mono h)

/-- What z times 2 to the l is rounded to. -/
def pvZ (z l : Int) : Int := pv (decide (z < 0)) (rnd z.natAbs l)

end Go.Proofs.YtfkndkaneffgdaaGreatDoor

/- The reference's dyadic numbers at a level: Sub, Compare, Scale by 1, Neg. -/
namespace Go.Proofs.YtfkndkaneffgdaaGreatDoor
open Go.RowKit
theorem Lvl.neg {lo : Int} {W : Nat} {z : Int} (h : Lvl lo W z) : Lvl lo W (-z) := ⟨by rw [Int.natAbs_neg]; exact h.1, h.2⟩

end Go.Proofs.YtfkndkaneffgdaaGreatDoor

