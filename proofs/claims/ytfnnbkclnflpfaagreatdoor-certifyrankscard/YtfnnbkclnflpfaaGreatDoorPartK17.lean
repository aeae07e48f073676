/- Part 17 of the texts. -/
import Derived.Test.YtfnnbkclnflpfaaGreatDoorPartK15
import Derived.Test.YtfnnbkclnflpfaaGreatDoorPartK14
import Derived.Test.YtfnnbkclnflpfaaGreatDoorPartK16
/- The reference's dyadic numbers at a level: Sub, Compare, Scale by 1, Neg. -/
namespace Go.Proofs.YtfnnbkclnflpfaaGreatDoor
open Go.RowKit
theorem Lvl.neg {lo : Int} {W : Nat} {z : Int} (h : Lvl lo W z) : Lvl lo W (-z) := ⟨by rw [Int.natAbs_neg]; exact h.1, h.2⟩

end Go.Proofs.YtfnnbkclnflpfaaGreatDoor

/- What sums of binary64 are: a number's value in units of the least one, the sum's bits and flags. -/
namespace Go.Proofs.YtfnnbkclnflpfaaGreatDoor
open Go.RowKit

/-- The rung; the value in units of the least number. -/
def fR (b : Nat) : Nat := b % 9223372036854775808
def fZ (b : Nat) : Int := pv (fS b) (fR b)

theorem b_wrd (b : Nat) (h : b < 18446744073709551616) : wrd (fS b) (fR b) = b := by
  unfold fS fR
  by_cases c : 9223372036854775808 ≤ b
  · rw [decide_eq_true c, wrd_true]; omega
  · rw [decide_eq_false c, wrd_false]; omega
theorem fR_lt (b : Nat) : fR b < 9223372036854775808 := by unfold fR; omega
theorem fR_fin (b : Nat) (hf : fFin b = true) : fR b < 9218868437227405312 := by
  have h1 := of_decide_eq_true hf
  unfold fP at h1
  unfold fR
  omega
theorem sg_pv (n : Bool) (s : Nat) : sg n (rv s) = pv n s := rfl

theorem fZ_level (b : Nat) (h : b < 18446744073709551616) (hf : fFin b = true) : oM (fZ b) = fD b ∧ oE (fZ b) (-1074) = fX b := by
  obtain ⟨j, h1, h2⟩ := fM_wrd (fS b) (fR b) (fR_fin b hf)
  rw [b_wrd b h] at h1 h2
  have h3 := oM_scale (fM b) j (-1074)
  rw [h2, sg_pv, ← h1] at h3
  exact h3

theorem rv_inf : rv 9218868437227405312 = 2 ^ 2098 := by decide +kernel
theorem pv_abs (n : Bool) (r : Nat) : (pv n r).natAbs = rv r := by unfold pv; split <;> omega
theorem fZ_abs (b : Nat) : (fZ b).natAbs = rv (fR b) := pv_abs _ _
theorem fZ_lt (b : Nat) (hf : fFin b = true) : (fZ b).natAbs < 2 ^ 2098 := by
  rw [fZ_abs, ← rv_inf]; exact rv_lt (fR_fin b hf)

end Go.Proofs.YtfnnbkclnflpfaaGreatDoor

/- The model's own sum of two words is this sum. -/
namespace Go.Proofs.YtfnnbkclnflpfaaGreatDoor
open Go.RowKit
theorem fin_of (b : Nat) (h3 : fK b ≠ 3) (h4 : fK b ≠ 4) : fFin b = true := by
  rcases fK_cases b with ⟨_, h | h⟩ | ⟨h, _⟩
  · exact absurd h h3
  · exact absurd h h4
  · exact h

end Go.Proofs.YtfnnbkclnflpfaaGreatDoor

/- Contracts of package compare: Abs, place, Order, Less, Equal, Max. -/
namespace Go.Proofs.YtfnnbkclnflpfaaGreatDoor
open Go.RowKit
theorem rv8_lt {r s : Nat} (h : r < s) : rv r < rv s := Nat.lt_of_lt_of_le (rv_succ r) (rv_mono h)
theorem rv_pos {r : Nat} (h : 0 < r) : 0 < rv r := by have := rv8_lt h; rw [rv_zero] at this; exact this
end Go.Proofs.YtfnnbkclnflpfaaGreatDoor

/- Products and quotients of binary64: what they are, and that the model's own are these. -/
namespace Go.Proofs.YtfnnbkclnflpfaaGreatDoor
open Go.RowKit

theorem rv_eq0 (r : Nat) : rv r = 0 ↔ r = 0 := by
  constructor
  · intro h
    rcases Nat.eq_zero_or_pos r with e | e
    · exact e
    · have := rv_lt e; rw [rv_zero] at this; omega
  · intro h; rw [h, rv_zero]
theorem fK_zero (b : Nat) : fK b = 0 ↔ fR b = 0 := by
  have h := fR_lt b
  have hF : fF b = fR b % 4503599627370496 := by unfold fF fR; omega
  have hP : fP b = fR b / 4503599627370496 := rfl
  unfold fK
  rw [hF, hP]
  generalize fR b = r at *
  split
  · split <;> constructor <;> intro _ <;> omega
  · split
    · split <;> constructor <;> intro _ <;> omega
    · constructor <;> intro _ <;> omega

/-- The quotient's odd parts, and where they stand. -/
theorem odd_mag (b : Nat) (hb : b < 18446744073709551616) (hf : fFin b = true) (h0 : fK b ≠ 0) :
    ∃ β : Nat, fX b = -1074 + (β : Int) ∧ rv (fR b) = (fD b).natAbs * 2 ^ β ∧ (fD b).natAbs % 2 = 1 ∧ (fD b).natAbs < 9007199254740992 := by
  obtain ⟨d1, d2⟩ := fZ_level b hb hf
  have hr : fR b ≠ 0 := fun e => h0 ((fK_zero b).2 e)
  have hz : fZ b ≠ 0 := fun e => hr ((rv_eq0 _).1 (by rw [← fZ_abs, e]; rfl))
  have h1 := oM_abs (fZ b) hz
  have h2 := oE_ne (fZ b) (-1074) hz
  refine ⟨tz (fZ b).natAbs, by rw [← d2, h2], by rw [← fZ_abs, h1, d1]; congr 2; rw [← d1, ← h1], ?_, ?_⟩
  · have := (oM_ne (fZ b) hz).2
    rw [d1] at this
    omega
  · have : (oM (fM b)).natAbs ≤ (fM b).natAbs := oM_le _
    have h3 := fM_lt b
    show (oM (fM b)).natAbs < _
    omega

end Go.Proofs.YtfnnbkclnflpfaaGreatDoor

