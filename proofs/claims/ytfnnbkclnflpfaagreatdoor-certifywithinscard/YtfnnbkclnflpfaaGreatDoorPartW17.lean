/- Part 17 of the texts. -/
import Derived.Test.YtfnnbkclnflpfaaGreatDoorPartW16
import Derived.Deep.Cut
import Derived.Test.YtfnnbkclnflpfaaGreatDoorPartW15
import Ieee.Arith
/- Contracts of soft's roundSize, Round, any number. -/
namespace Go.Proofs.YtfnnbkclnflpfaaGreatDoor
open Go.RowKit
/-- A rung with its sign. -/
def wrd (neg : Bool) (r : Nat) : Nat := if neg = true then r + 9223372036854775808 else r
theorem wrd_true (r : Nat) : wrd true r = r + 9223372036854775808 := if_pos rfl
theorem wrd_false (r : Nat) : wrd false r = r := if_neg Bool.false_ne_true
end Go.Proofs.YtfnnbkclnflpfaaGreatDoor

/- No number is nearer than the rounded one: plain mathematics. -/
namespace Go.Proofs.YtfnnbkclnflpfaaGreatDoor
theorem fS_wrd (n : Bool) (s : Nat) (h : s < 9223372036854775808) : fS (wrd n s) = n := by
  unfold fS
  cases n
  · rw [wrd_false]; exact decide_eq_false (by omega)
  · rw [wrd_true]; exact decide_eq_true (by omega)
theorem fP_wrd (n : Bool) (s : Nat) (h : s < 9223372036854775808) : fP (wrd n s) = s / 4503599627370496 := by
  unfold fP
  cases n
  · rw [wrd_false]; omega
  · rw [wrd_true]; omega
theorem fF_wrd (n : Bool) (s : Nat) (_h : s < 9223372036854775808) : fF (wrd n s) = s % 4503599627370496 := by
  unfold fF
  cases n
  · rw [wrd_false]
  · rw [wrd_true]; omega

/-- What a finite number is worth, at a level. -/
theorem fM_wrd (n : Bool) (s : Nat) (h : s < 9218868437227405312) : ∃ j : Nat, fE (wrd n s) = -1074 + (j : Int) ∧ fM (wrd n s) * 2 ^ j = sg n (rv s) := by
  have e1 := fP_wrd n s (by omega)
  have e2 := fF_wrd n s (by omega)
  have e3 := fS_wrd n s (by omega)
  unfold fM fE fA rv
  rw [e1, e2, e3]
  by_cases c1 : s < 4503599627370496
  · rw [if_pos (by omega), if_pos (by omega), if_pos c1]
    refine ⟨0, by simp, ?_⟩
    rw [Nat.mod_eq_of_lt c1]
    simp
  · rw [if_neg (by omega), if_neg (by omega), if_neg c1]
    refine ⟨s / 4503599627370496 - 1, by omega, ?_⟩
    rw [Nat.add_comm 4503599627370496]
    generalize s % 4503599627370496 + 4503599627370496 = m
    generalize s / 4503599627370496 - 1 = j
    unfold sg
    cases n
    · simp
    · simp [Int.neg_mul]

end Go.Proofs.YtfnnbkclnflpfaaGreatDoor

/- How numbers of binary64 stand to one another: by what their rungs are worth. -/
namespace Go.Proofs.YtfnnbkclnflpfaaGreatDoor
open Go.RowKit

/-- What a rung with its sign is worth (Inf as the next number would be). -/
def pv (n : Bool) (r : Nat) : Int := if n = true then -(rv r : Int) else (rv r : Int)

theorem rv_lt {r s : Nat} (h : r < s) : rv r < rv s := Nat.lt_of_lt_of_le (rv_succ r) (rv_mono h)

end Go.Proofs.YtfnnbkclnflpfaaGreatDoor

/- The reference's dyadic numbers at a level: Sub, Compare, Scale by 1, Neg. -/
namespace Go.Proofs.YtfnnbkclnflpfaaGreatDoor
open Go.RowKit

theorem up_level (z lo : Int) (k : Nat) (h : z ≠ 0 → lo + k ≤ oE z lo) : up (oM z) (oE z lo) (lo + k) * 2 ^ k = z := by
  by_cases h0 : z = 0
  · subst h0; rw [oM_zero, up_zero]; simp
  · have h1 := h h0
    conv => rhs; rw [← oM_level z lo h0]
    unfold up
    rw [Int.mul_assoc, ← Int.pow_add]
    congr 2
    omega

theorem low_level {lo : Int} {W : Nat} {z1 z2 : Int} (h1 : Lvl lo W z1) (h2 : Lvl lo W z2) (h0 : ¬ (z1 = 0 ∧ z2 = 0)) :
    ∃ k : Nat, lowE (oM z1) (oE z1 lo) (oM z2) (oE z2 lo) = lo + k ∧ up (oM z1) (oE z1 lo) (lo + k) * 2 ^ k = z1 ∧ up (oM z2) (oE z2 lo) (lo + k) * 2 ^ k = z2 ∧ oE z1 lo - (lo + k) ≤ 16384 ∧ oE z2 lo - (lo + k) ≤ 16384 := by
  have b1 := h1.2.1
  have b2 := h1.2.2.1
  have b3 := h1.2.2.2
  have hb : ∀ z, Lvl lo W z → (z = 0 ∧ oM z = 0 ∧ oE z lo = 0) ∨ (z ≠ 0 ∧ oM z ≠ 0 ∧ oE z lo = lo + (tz z.natAbs : Int) ∧ tz z.natAbs < W) := fun z hz => by
    by_cases e : z = 0
    · left; subst e; exact ⟨rfl, oM_zero, oE_zero _⟩
    · right; exact ⟨e, (oM_ne z e).1, oE_ne z lo e, hz.tzs e⟩
  rcases hb z1 h1 with ⟨e1, m1, x1⟩ | ⟨e1, m1, x1, t1⟩
  · rcases hb z2 h2 with ⟨e2, m2, x2⟩ | ⟨e2, m2, x2, t2⟩
    · exact absurd ⟨e1, e2⟩ h0
    · refine ⟨tz z2.natAbs, ?_, up_level z1 lo _ (fun h => absurd e1 h), up_level z2 lo _ (fun _ => by omega), by omega, by omega⟩
      unfold lowE; rw [if_pos m1]; exact x2
  · rcases hb z2 h2 with ⟨e2, m2, x2⟩ | ⟨e2, m2, x2, t2⟩
    · refine ⟨tz z1.natAbs, ?_, up_level z1 lo _ (fun _ => by omega), up_level z2 lo _ (fun h => absurd e2 h), by omega, by omega⟩
      unfold lowE; rw [if_neg m1, if_pos m2]; exact x1
    · refine ⟨min (tz z1.natAbs) (tz z2.natAbs), ?_, up_level z1 lo _ (fun _ => by omega), up_level z2 lo _ (fun _ => by omega), by omega, by omega⟩
      rw [lowE_ne _ _ _ _ m1 m2, x1, x2]; omega

theorem le_scaled {u z : Int} {k : Nat} (h : u * 2 ^ k = z) : u.natAbs ≤ z.natAbs := by
  rw [← h, Int.natAbs_mul, Int.natAbs_pow]
  exact Nat.le_mul_of_pos_right _ (Nat.pow_pos (by decide))

theorem Lvl.neg {lo : Int} {W : Nat} {z : Int} (h : Lvl lo W z) : Lvl lo W (-z) := ⟨by rw [Int.natAbs_neg]; exact h.1, h.2⟩

theorem dRt_in {m e : Int} (h : dRt m e = true) : -16384 ≤ e ∧ e ≤ 16384 := by
  unfold dRt at h
  by_cases h0 : m = 0
  · rw [if_pos h0] at h; have := of_decide_eq_true h; omega
  · rw [if_neg h0, Bool.and_eq_true] at h; exact of_decide_eq_true h.2

end Go.Proofs.YtfnnbkclnflpfaaGreatDoor

/- What sums of binary64 are: a number's value in units of the least one, the sum's bits and flags. -/
namespace Go.Proofs.YtfnnbkclnflpfaaGreatDoor
open Go.RowKit

/-- The rung; the value in units of the least number. -/
def fR (b : Nat) : Nat := b % 9223372036854775808
def fZ (b : Nat) : Int := pv (fS b) (fR b)

theorem b_wrd (b : Nat) (h : b < 18446744073709551616) : wrd (fS b) (fR b) = b := by
  unfold fS fR
  by_cases c : 9223372036854775808 ≤ b
  · rw [decide_eq_true c, wrd_true]; omega
  · rw [decide_eq_false c, wrd_false]; omega
theorem fR_fin (b : Nat) (hf : fFin b = true) : fR b < 9218868437227405312 := by
  have h1 := of_decide_eq_true hf
  unfold fP at h1
  unfold fR
  omega
theorem sg_pv (n : Bool) (s : Nat) : sg n (rv s) = pv n s := rfl

theorem fZ_level (b : Nat) (h : b < 18446744073709551616) (hf : fFin b = true) : oM (fZ b) = fD b ∧ oE (fZ b) (-1074) = fX b := by
  obtain ⟨j, h1, h2⟩ := fM_wrd (fS b) (fR b) (fR_fin b hf)
  rw [b_wrd b h] at h1 h2
  have h3 := oM_scale (fM b) j (-1074)
  rw [h2, sg_pv, ← h1] at h3
  exact h3

theorem rv_inf : rv 9218868437227405312 = 2 ^ 2098 := by decide +kernel
theorem pv_abs (n : Bool) (r : Nat) : (pv n r).natAbs = rv r := by unfold pv; split <;> omega
theorem fZ_abs (b : Nat) : (fZ b).natAbs = rv (fR b) := pv_abs _ _
theorem fZ_lt (b : Nat) (hf : fFin b = true) : (fZ b).natAbs < 2 ^ 2098 := by
  rw [fZ_abs, ← rv_inf]; exact rv_lt (fR_fin b hf)

end Go.Proofs.YtfnnbkclnflpfaaGreatDoor

