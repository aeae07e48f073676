/- Part 16 of the texts. -/
import Derived.Test.YtheepcdlakjdcabDoorPart15
/- The model's own sum of two words is this sum. -/
namespace Go.Proofs.YtheepcdlakjdcabDoor
open Go.RowKit
theorem fK_rungs (b : Nat) : (fK b = 4 ↔ 9218868437227405312 < fR b) ∧ (fK b = 3 ↔ fR b = 9218868437227405312) ∧ (fFin b = true ↔ fR b < 9218868437227405312) := by
  have h := fR_lt b
  have hF : fF b = fR b % 4503599627370496 := by unfold fF fR; omega
  have hP : fP b = fR b / 4503599627370496 := rfl
  unfold fK fFin
  rw [hF, hP]
  generalize fR b = r at *
  refine ⟨?_, ?_, ?_⟩
  · split
    · split <;> constructor <;> intro _ <;> omega
    · split
      · split <;> constructor <;> intro _ <;> omega
      · constructor <;> intro _ <;> omega
  · split
    · split <;> constructor <;> intro _ <;> omega
    · split
      · split <;> constructor <;> intro _ <;> omega
      · constructor <;> intro _ <;> omega
  · rw [decide_eq_true_iff]; omega

theorem fin_of (b : Nat) (h3 : fK b ≠ 3) (h4 : fK b ≠ 4) : fFin b = true := by
  rcases fK_cases b with ⟨_, h | h⟩ | ⟨h, _⟩
  · exact absurd h h3
  · exact absurd h h4
  · exact h

end Go.Proofs.YtheepcdlakjdcabDoor

/- Sums rise; the difference of two near numbers is exact. -/
namespace Go.Proofs.YtheepcdlakjdcabDoor
open Go.RowKit

theorem fR_wrd (n : Bool) (r : Nat) (h : r < 9223372036854775808) : fR (wrd n r) = r := (wrd_parts n r h).2
theorem fin_kind {b : Nat} (hf : fFin b = true) : fK b ≠ 3 ∧ fK b ≠ 4 := by
  rcases fK_cases b with ⟨h, _⟩ | ⟨_, h⟩
  · rw [hf] at h; cases h
  · omega

end Go.Proofs.YtheepcdlakjdcabDoor

/- Contracts of package compare: Abs, place, Order, Less, Equal, Max. -/
namespace Go.Proofs.YtheepcdlakjdcabDoor
open Go.RowKit
theorem rv8_lt {r s : Nat} (h : r < s) : rv r < rv s := Nat.lt_of_lt_of_le (rv_succ r) (rv_mono h)
theorem rv_pos {r : Nat} (h : 0 < r) : 0 < rv r := by have := rv8_lt h; rw [rv_zero] at this; exact this
end Go.Proofs.YtheepcdlakjdcabDoor

/- Products and quotients of binary64: what they are, and that the model's own are these. -/
namespace Go.Proofs.YtheepcdlakjdcabDoor
open Go.RowKit

theorem rv_eq0 (r : Nat) : rv r = 0 ↔ r = 0 := by
  constructor
  · intro h
    rcases Nat.eq_zero_or_pos r with e | e
    · exact e
    · have := rv_lt e; rw [rv_zero] at this; omega
  · intro h; rw [h, rv_zero]
theorem fK_zero (b : Nat) : fK b = 0 ↔ fR b = 0 := by
  have h := fR_lt b
  have hF : fF b = fR b % 4503599627370496 := by unfold fF fR; omega
  have hP : fP b = fR b / 4503599627370496 := rfl
  unfold fK
  rw [hF, hP]
  generalize fR b = r at *
  split
  · split <;> constructor <;> intro _ <;> omega
  · split
    · split <;> constructor <;> intro _ <;> omega
    · constructor <;> intro _ <;> omega

/-- The product, and its flags. -/
def mV (a b : Nat) : Nat :=
  if fK a = 4 ∨ fK b = 4 then 9221120237041090560
  else if fK a = 3 ∨ fK b = 3 then (if fK a = 0 ∨ fK b = 0 then 9221120237041090560 else wrd (fS a ^^ fS b) 9218868437227405312)
  else wrd (fS a ^^ fS b) (rnd (rv (fR a) * rv (fR b)) (-2148))
def mF (a b : Nat) : Int :=
  if fK a = 4 ∨ fK b = 4 then 0
  else if fK a = 3 ∨ fK b = 3 then (if fK a = 0 ∨ fK b = 0 then 16 else 0)
  else if fK a = 0 ∨ fK b = 0 then 0
  else rflag (oM (fZ a * fZ b)).natAbs (oE (fZ a * fZ b) (-2148))
theorem mV_lt (a b : Nat) : mV a b < 18446744073709551616 := by
  have h := rnd_le (rv (fR a) * rv (fR b)) (-2148)
  unfold mV
  split
  · omega
  · split
    · split
      · omega
      · exact wrd_lt _ _ (by omega)
    · exact wrd_lt _ _ (by omega)

theorem mul_comm6 (a b : Nat) : mV a b = mV b a ∧ mF a b = mF b a := by
  have h1 : (fK a = 4 ∨ fK b = 4) ↔ (fK b = 4 ∨ fK a = 4) := Or.comm
  have h2 : (fK a = 3 ∨ fK b = 3) ↔ (fK b = 3 ∨ fK a = 3) := Or.comm
  have h3 : (fK a = 0 ∨ fK b = 0) ↔ (fK b = 0 ∨ fK a = 0) := Or.comm
  unfold mV mF
  rw [Bool.xor_comm (fS b) (fS a), Nat.mul_comm (rv (fR b)), Int.mul_comm (fZ b)]
  simp only [h1, h2, h3, and_self]

end Go.Proofs.YtheepcdlakjdcabDoor

/- A number by itself, by One, times and by a power of two. -/
namespace Go.Proofs.YtheepcdlakjdcabDoor
open Go.RowKit

theorem rnd_D (b : Nat) (hf : fFin b = true) : rnd (fD b).natAbs (fX b) = fR b := by
  have hr := rnd_bits b hf
  have ho := rnd_odd (fM b) (fE b)
  rw [fM_abs] at ho
  exact ho.1.trans hr.1
theorem rnd_rv (b : Nat) (hb : b < 18446744073709551616) (hf : fFin b = true) : rnd (rv (fR b)) (-1074) = fR b := by
  obtain ⟨d1, d2⟩ := fZ_level b hb hf
  have h := (rnd_odd (fZ b) (-1074)).1
  rw [d1, d2, fZ_abs, rnd_D b hf] at h
  exact h.symm
theorem kind_pos (a : Nat) (fa : fFin a = true) (a0 : fK a ≠ 0) : fK a ≠ 3 ∧ fK a ≠ 4 ∧ fK a ≠ 0 := ⟨(fin_kind fa).1, (fin_kind fa).2, a0⟩

theorem mV_fin (a b : Nat) (fa : fFin a = true) (fb : fFin b = true) (a0 : fK a ≠ 0) (b0 : fK b ≠ 0) : mV a b = wrd (fS a ^^ fS b) (rnd (rv (fR a) * rv (fR b)) (-2148)) ∧ mF a b = rflag (oM (fZ a * fZ b)).natAbs (oE (fZ a * fZ b) (-2148)) := by
  obtain ⟨a3, a4, _⟩ := kind_pos a fa a0
  obtain ⟨b3, b4, _⟩ := kind_pos b fb b0
  have h1 : ¬ (fK a = 4 ∨ fK b = 4) := by omega
  have h2 : ¬ (fK a = 3 ∨ fK b = 3) := by omega
  have h3 : ¬ (fK a = 0 ∨ fK b = 0) := by omega
  unfold mV mF
  simp only [if_neg h1, if_neg h2, if_neg h3, and_self]

end Go.Proofs.YtheepcdlakjdcabDoor

