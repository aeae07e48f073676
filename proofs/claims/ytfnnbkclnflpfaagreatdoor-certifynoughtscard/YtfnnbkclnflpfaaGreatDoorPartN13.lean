/- Part 13 of the texts. -/
import Derived.Test.YtfnnbkclnflpfaaGreatDoorPartN12
import Derived.Test.YtfnnbkclnflpfaaGreatDoorPartN11
import Ieee.Arith
/- No number is nearer than the rounded one: plain mathematics. -/
namespace Go.Proofs.YtfnnbkclnflpfaaGreatDoor
theorem fS_wrd (n : Bool) (s : Nat) (h : s < 9223372036854775808) : fS (wrd n s) = n := by
  unfold fS
  cases n
  · rw [wrd_false]; exact decide_eq_false (by omega)
  · rw [wrd_true]; exact decide_eq_true (by omega)
theorem fP_wrd (n : Bool) (s : Nat) (h : s < 9223372036854775808) : fP (wrd n s) = s / 4503599627370496 := by
  unfold fP
  cases n
  · rw [wrd_false]; omega
  · rw [wrd_true]; omega
theorem fF_wrd (n : Bool) (s : Nat) (_h : s < 9223372036854775808) : fF (wrd n s) = s % 4503599627370496 := by
  unfold fF
  cases n
  · rw [wrd_false]
  · rw [wrd_true]; omega

/-- What a finite number is worth, at a level. -/
theorem fM_wrd (n : Bool) (s : Nat) (h : s < 9218868437227405312) : ∃ j : Nat, fE (wrd n s) = -1074 + (j : Int) ∧ fM (wrd n s) * 2 ^ j = sg n (rv s) := by
  have e1 := fP_wrd n s (by omega)
  have e2 := fF_wrd n s (by omega)
  have e3 := fS_wrd n s (by omega)
  unfold fM fE fA rv
  rw [e1, e2, e3]
  by_cases c1 : s < 4503599627370496
  · rw [if_pos (by omega), if_pos (by omega), if_pos c1]
    refine ⟨0, by simp, ?_⟩
    rw [Nat.mod_eq_of_lt c1]
    simp
  · rw [if_neg (by omega), if_neg (by omega), if_neg c1]
    refine ⟨s / 4503599627370496 - 1, by omega, ?_⟩
    rw [Nat.add_comm 4503599627370496]
    generalize s % 4503599627370496 + 4503599627370496 = m
    generalize s / 4503599627370496 - 1 = j
    unfold sg
    cases n
    · simp
    · simp [Int.neg_mul]

end Go.Proofs.YtfnnbkclnflpfaaGreatDoor

/- How numbers of binary64 stand to one another: by what their rungs are worth. -/
namespace Go.Proofs.YtfnnbkclnflpfaaGreatDoor
open Go.RowKit

/-- What a rung with its sign is worth (Inf as the next number would be). -/
def pv (n : Bool) (r : Nat) : Int := if n = true then -(rv r : Int) else (rv r : Int)

theorem rv_lt {r s : Nat} (h : r < s) : rv r < rv s := Nat.lt_of_lt_of_le (rv_succ r) (rv_mono h)

end Go.Proofs.YtfnnbkclnflpfaaGreatDoor

/- The reference's dyadic numbers at a level: Sub, Compare, Scale by 1, Neg. -/
namespace Go.Proofs.YtfnnbkclnflpfaaGreatDoor
open Go.RowKit
theorem Lvl.neg {lo : Int} {W : Nat} {z : Int} (h : Lvl lo W z) : Lvl lo W (-z) := ⟨by rw [Int.natAbs_neg]; exact h.1, h.2⟩

end Go.Proofs.YtfnnbkclnflpfaaGreatDoor

/- What sums of binary64 are: a number's value in units of the least one, the sum's bits and flags. -/
namespace Go.Proofs.YtfnnbkclnflpfaaGreatDoor
open Go.RowKit

/-- The rung; the value in units of the least number. -/
def fR (b : Nat) : Nat := b % 9223372036854775808
def fZ (b : Nat) : Int := pv (fS b) (fR b)

theorem b_wrd (b : Nat) (h : b < 18446744073709551616) : wrd (fS b) (fR b) = b := by
  unfold fS fR
  by_cases c : 9223372036854775808 ≤ b
  · rw [decide_eq_true c, wrd_true]; omega
  · rw [decide_eq_false c, wrd_false]; omega
theorem fR_lt (b : Nat) : fR b < 9223372036854775808 := by unfold fR; omega
theorem fR_fin (b : Nat) (hf : fFin b = true) : fR b < 9218868437227405312 := by
  have h1 := of_decide_eq_true hf
  unfold fP at h1
  unfold fR
  omega
theorem sg_pv (n : Bool) (s : Nat) : sg n (rv s) = pv n s := rfl

theorem fZ_level (b : Nat) (h : b < 18446744073709551616) (hf : fFin b = true) : oM (fZ b) = fD b ∧ oE (fZ b) (-1074) = fX b := by
  obtain ⟨j, h1, h2⟩ := fM_wrd (fS b) (fR b) (fR_fin b hf)
  rw [b_wrd b h] at h1 h2
  have h3 := oM_scale (fM b) j (-1074)
  rw [h2, sg_pv, ← h1] at h3
  exact h3

theorem rv_inf : rv 9218868437227405312 = 2 ^ 2098 := by decide +kernel
theorem pv_abs (n : Bool) (r : Nat) : (pv n r).natAbs = rv r := by unfold pv; split <;> omega
theorem fZ_abs (b : Nat) : (fZ b).natAbs = rv (fR b) := pv_abs _ _
theorem fZ_lt (b : Nat) (hf : fFin b = true) : (fZ b).natAbs < 2 ^ 2098 := by
  rw [fZ_abs, ← rv_inf]; exact rv_lt (fR_fin b hf)

end Go.Proofs.YtfnnbkclnflpfaaGreatDoor

/- Products and quotients of binary64: what they are, and that the model's own are these. -/
namespace Go.Proofs.YtfnnbkclnflpfaaGreatDoor
open Go.RowKit

theorem rv_eq0 (r : Nat) : rv r = 0 ↔ r = 0 := by
  constructor
  · intro h
    rcases Nat.eq_zero_or_pos r with e | e
    · exact e
    · have := rv_lt e; rw [rv_zero] at this; omega
  · intro h; rw [h, rv_zero]
theorem fK_zero (b : Nat) : fK b = 0 ↔ fR b = 0 := by
  have h := fR_lt b
  have hF : fF b = fR b % 4503599627370496 := by unfold fF fR; omega
  have hP : fP b = fR b / 4503599627370496 := rfl
  unfold fK
  rw [hF, hP]
  generalize fR b = r at *
  split
  · split <;> constructor <;> intro _ <;> omega
  · split
    · split <;> constructor <;> intro _ <;> omega
    · constructor <;> intro _ <;> omega

end Go.Proofs.YtfnnbkclnflpfaaGreatDoor

