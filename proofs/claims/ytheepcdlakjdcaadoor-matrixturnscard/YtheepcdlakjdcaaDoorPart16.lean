/- Part 16 of the texts. -/
import Derived.Test.YtheepcdlakjdcaaDoorPart15
import Derived.Test.YtheepcdlakjdcaaDoorPart13
import Derived.Test.YtheepcdlakjdcaaDoorPart12
/- What sums of binary64 are: a number's value in units of the least one, the sum's bits and flags. -/
namespace Go.Proofs.YtheepcdlakjdcaaDoor
open Go.RowKit

/-- The rung; the value in units of the least number. -/
def fR (b : Nat) : Nat := b % 9223372036854775808
def fZ (b : Nat) : Int := pv (fS b) (fR b)

theorem b_wrd (b : Nat) (h : b < 18446744073709551616) : wrd (fS b) (fR b) = b := by
  unfold fS fR
  by_cases c : 9223372036854775808 ≤ b
  · rw [decide_eq_true c, wrd_true]; omega
  · rw [decide_eq_false c, wrd_false]; omega
theorem fR_lt (b : Nat) : fR b < 9223372036854775808 := by unfold fR; omega
theorem fR_fin (b : Nat) (hf : fFin b = true) : fR b < 9218868437227405312 := by
  have h1 := of_decide_eq_true hf
  unfold fP at h1
  unfold fR
  omega
theorem sg_pv (n : Bool) (s : Nat) : sg n (rv s) = pv n s := rfl

theorem fZ_level (b : Nat) (h : b < 18446744073709551616) (hf : fFin b = true) : oM (fZ b) = fD b ∧ oE (fZ b) (-1074) = fX b := by
  obtain ⟨j, h1, h2⟩ := fM_wrd (fS b) (fR b) (fR_fin b hf)
  rw [b_wrd b h] at h1 h2
  have h3 := oM_scale (fM b) j (-1074)
  rw [h2, sg_pv, ← h1] at h3
  exact h3

theorem rv_inf : rv 9218868437227405312 = 2 ^ 2098 := by decide +kernel
theorem pv_abs (n : Bool) (r : Nat) : (pv n r).natAbs = rv r := by unfold pv; split <;> omega
theorem fZ_abs (b : Nat) : (fZ b).natAbs = rv (fR b) := pv_abs _ _
theorem fZ_lt (b : Nat) (hf : fFin b = true) : (fZ b).natAbs < 2 ^ 2098 := by
  rw [fZ_abs, ← rv_inf]; exact rv_lt (fR_fin b hf)

/-- The exact sum; what comes of it; its flags. -/
def aZ (a b : Nat) : Int := fZ a + fZ b
def aV (a b : Nat) : Nat :=
  if fK a = 4 ∨ fK b = 4 then 9221120237041090560
  else if fK a = 3 then (if fK b = 3 ∧ a ≠ b then 9221120237041090560 else a)
  else if fK b = 3 then b
  else if aZ a b = 0 then (if (fS a && fS b) = true then 9223372036854775808 else 0)
  else wrd (decide (aZ a b < 0)) (rnd (aZ a b).natAbs (-1074))
def aF (a b : Nat) : Int :=
  if fK a = 4 ∨ fK b = 4 then 0
  else if fK a = 3 then (if fK b = 3 ∧ a ≠ b then 16 else 0)
  else if fK b = 3 then 0
  else if aZ a b = 0 then 0
  else rflag (oM (aZ a b)).natAbs (oE (aZ a b) (-1074))

theorem p2098 : (2 : Nat) ^ 2098 + 2 ^ 2098 = 2 ^ 2099 := by decide +kernel
theorem fZ_Lvl (b : Nat) (hf : fFin b = true) : Lvl (-1074) 2099 (fZ b) := by
  have h1 := fZ_lt b hf
  have h2 := p2098
  have h3 := Nat.two_pow_pos 2098
  generalize (2 : Nat) ^ 2098 = P at *
  exact ⟨by rw [← h2]; omega, by decide, by decide, by decide⟩
theorem aZ_Lvl (a b : Nat) (ha : fFin a = true) (hb : fFin b = true) : Lvl (-1074) 2099 (fZ a + fZ b) := by
  have h1 := fZ_lt a ha
  have h4 := fZ_lt b hb
  have h2 := p2098
  generalize (2 : Nat) ^ 2098 = P at *
  exact ⟨by rw [← h2]; omega, by decide, by decide, by decide⟩

theorem wrd_lt (n : Bool) (r : Nat) (h : r < 9223372036854775808) : wrd n r < 18446744073709551616 := by unfold wrd; split <;> omega
theorem aV_lt (a b : Nat) (ha : a < 18446744073709551616) (hb : b < 18446744073709551616) : aV a b < 18446744073709551616 := by
  unfold aV
  split
  · omega
  · split
    · split <;> omega
    · split
      · omega
      · split
        · split <;> omega
        · have := rnd_le (aZ a b).natAbs (-1074)
          exact wrd_lt _ _ (by omega)

theorem add_f (a b : Nat) (a3 : fK a ≠ 3) (a4 : fK a ≠ 4) (b3 : fK b ≠ 3) (b4 : fK b ≠ 4) :
    aV a b = (if aZ a b = 0 then (if (fS a && fS b) = true then 9223372036854775808 else 0) else wrd (decide (aZ a b < 0)) (rnd (aZ a b).natAbs (-1074))) ∧ aF a b = (if aZ a b = 0 then 0 else rflag (oM (aZ a b)).natAbs (oE (aZ a b) (-1074))) := by
  have h : ¬ (fK a = 4 ∨ fK b = 4) := by omega
  unfold aV aF
  simp only [if_neg h, if_neg a3, if_neg b3, and_self]
theorem rnd_0 (E : Int) : rnd 0 E = 0 := by unfold rnd; exact if_pos rfl

theorem aZ_comm (a b : Nat) : aZ a b = aZ b a := Int.add_comm _ _
theorem add_comm5 (a b : Nat) : aV a b = aV b a ∧ aF a b = aF b a := by
  unfold aV aF
  rw [aZ_comm b a, Bool.and_comm (fS b) (fS a)]
  by_cases c1 : fK a = 4
  · simp [c1]
  by_cases c2 : fK b = 4
  · simp [c2]
  by_cases c3 : fK a = 3
  · by_cases c4 : fK b = 3
    · by_cases c5 : a = b
      · subst c5; exact ⟨rfl, rfl⟩
      · have c6 : ¬ b = a := fun h => c5 h.symm
        simp [c3, c4, c5, c6]
    · simp [c2, c3, c4]
  · by_cases c4 : fK b = 3
    · simp [c1, c3, c4]
    · simp [c1, c2, c3, c4]

end Go.Proofs.YtheepcdlakjdcaaDoor

/- The model's own sum of two words is this sum. -/
namespace Go.Proofs.YtheepcdlakjdcaaDoor
open Go.RowKit
theorem fK_rungs (b : Nat) : (fK b = 4 ↔ 9218868437227405312 < fR b) ∧ (fK b = 3 ↔ fR b = 9218868437227405312) ∧ (fFin b = true ↔ fR b < 9218868437227405312) := by
  have h := fR_lt b
  have hF : fF b = fR b % 4503599627370496 := by unfold fF fR; omega
  have hP : fP b = fR b / 4503599627370496 := rfl
  unfold fK fFin
  rw [hF, hP]
  generalize fR b = r at *
  refine ⟨?_, ?_, ?_⟩
  · split
    · split <;> constructor <;> intro _ <;> omega
    · split
      · split <;> constructor <;> intro _ <;> omega
      · constructor <;> intro _ <;> omega
  · split
    · split <;> constructor <;> intro _ <;> omega
    · split
      · split <;> constructor <;> intro _ <;> omega
      · constructor <;> intro _ <;> omega
  · rw [decide_eq_true_iff]; omega

theorem fin_of (b : Nat) (h3 : fK b ≠ 3) (h4 : fK b ≠ 4) : fFin b = true := by
  rcases fK_cases b with ⟨_, h | h⟩ | ⟨h, _⟩
  · exact absurd h h3
  · exact absurd h h4
  · exact h

end Go.Proofs.YtheepcdlakjdcaaDoor

/- Sums rise; the difference of two near numbers is exact. -/
namespace Go.Proofs.YtheepcdlakjdcaaDoor
open Go.RowKit

theorem fR_wrd (n : Bool) (r : Nat) (h : r < 9223372036854775808) : fR (wrd n r) = r := (wrd_parts n r h).2
theorem fin_kind {b : Nat} (hf : fFin b = true) : fK b ≠ 3 ∧ fK b ≠ 4 := by
  rcases fK_cases b with ⟨h, _⟩ | ⟨_, h⟩
  · rw [hf] at h; cases h
  · omega

end Go.Proofs.YtheepcdlakjdcaaDoor

/- Contracts of package compare: Abs, place, Order, Less, Equal, Max. -/
namespace Go.Proofs.YtheepcdlakjdcaaDoor
open Go.RowKit
theorem rv8_lt {r s : Nat} (h : r < s) : rv r < rv s := Nat.lt_of_lt_of_le (rv_succ r) (rv_mono h)
theorem rv_pos {r : Nat} (h : 0 < r) : 0 < rv r := by have := rv8_lt h; rw [rv_zero] at this; exact this
end Go.Proofs.YtheepcdlakjdcaaDoor

/- Products and quotients of binary64: what they are, and that the model's own are these. -/
namespace Go.Proofs.YtheepcdlakjdcaaDoor
open Go.RowKit

theorem rv_eq0 (r : Nat) : rv r = 0 ↔ r = 0 := by
  constructor
  · intro h
    rcases Nat.eq_zero_or_pos r with e | e
    · exact e
    · have := rv_lt e; rw [rv_zero] at this; omega
  · intro h; rw [h, rv_zero]
theorem fK_zero (b : Nat) : fK b = 0 ↔ fR b = 0 := by
  have h := fR_lt b
  have hF : fF b = fR b % 4503599627370496 := by unfold fF fR; omega
  have hP : fP b = fR b / 4503599627370496 := rfl
  unfold fK
  rw [hF, hP]
  generalize fR b = r at *
  split
  · split <;> constructor <;> intro _ <;> omega
  · split
    · split <;> constructor <;> intro _ <;> omega
    · constructor <;> intro _ <;> omega

/-- The product, and its flags. -/
def mV (a b : Nat) : Nat :=
  if fK a = 4 ∨ fK b = 4 then 9221120237041090560
  else if fK a = 3 ∨ fK b = 3 then (if fK a = 0 ∨ fK b = 0 then 9221120237041090560 else wrd (fS a ^^ fS b) 9218868437227405312)
  else wrd (fS a ^^ fS b) (rnd (rv (fR a) * rv (fR b)) (-2148))
def mF (a b : Nat) : Int :=
  if fK a = 4 ∨ fK b = 4 then 0
  else if fK a = 3 ∨ fK b = 3 then (if fK a = 0 ∨ fK b = 0 then 16 else 0)
  else if fK a = 0 ∨ fK b = 0 then 0
  else rflag (oM (fZ a * fZ b)).natAbs (oE (fZ a * fZ b) (-2148))
theorem mV_lt (a b : Nat) : mV a b < 18446744073709551616 := by
  have h := rnd_le (rv (fR a) * rv (fR b)) (-2148)
  unfold mV
  split
  · omega
  · split
    · split
      · omega
      · exact wrd_lt _ _ (by omega)
    · exact wrd_lt _ _ (by omega)

theorem mul_comm6 (a b : Nat) : mV a b = mV b a ∧ mF a b = mF b a := by
  have h1 : (fK a = 4 ∨ fK b = 4) ↔ (fK b = 4 ∨ fK a = 4) := Or.comm
  have h2 : (fK a = 3 ∨ fK b = 3) ↔ (fK b = 3 ∨ fK a = 3) := Or.comm
  have h3 : (fK a = 0 ∨ fK b = 0) ↔ (fK b = 0 ∨ fK a = 0) := Or.comm
  unfold mV mF
  rw [Bool.xor_comm (fS b) (fS a), Nat.mul_comm (rv (fR b)), Int.mul_comm (fZ b)]
  simp only [h1, h2, h3, and_self]

end Go.Proofs.YtheepcdlakjdcaaDoor

