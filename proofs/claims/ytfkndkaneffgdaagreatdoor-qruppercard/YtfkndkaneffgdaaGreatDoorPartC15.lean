/- Part 15 of the texts. -/
import Derived.Test.YtfkndkaneffgdaaGreatDoorPartC14
import Derived.Test.YtfkndkaneffgdaaGreatDoorPartC13
import Derived.Test.YtfkndkaneffgdaaGreatDoorPartC12
import Ieee.Arith
/- What a finite number's value is rounded to; the laws SoftKinds, SoftBack, walked. -/
namespace Go.Proofs.YtfkndkaneffgdaaGreatDoor
open Go.RowKit
theorem oM_abs (z : Int) (h : z ≠ 0) : z.natAbs = (oM z).natAbs * 2 ^ tz z.natAbs := by
  have h1 := (oddOf z h).1
  have h2 := congrArg Int.natAbs h1
  rw [Int.natAbs_mul, Int.natAbs_pow] at h2
  exact h2

theorem oM_sign (z : Int) : decide (oM z < 0) = decide (z < 0) := by
  have h := sgnI_oM z
  unfold sgnI at h
  by_cases h1 : oM z < 0
  · rw [if_pos h1] at h
    by_cases h2 : z < 0
    · rw [decide_eq_true h1, decide_eq_true h2]
    · rw [if_neg h2] at h
      split at h <;> omega
  · rw [if_neg h1] at h
    by_cases h2 : z < 0
    · rw [if_pos h2] at h
      split at h <;> omega
    · rw [decide_eq_false h1, decide_eq_false h2]

/-- A number and its odd part are rounded alike. -/
theorem rnd_odd (z e : Int) : rnd (oM z).natAbs (oE z e) = rnd z.natAbs e ∧ (z ≠ 0 → lastE (oM z).natAbs (oE z e) = lastE z.natAbs e ∧ (bl (oM z).natAbs : Int) + oE z e = (bl z.natAbs : Int) + e) := by
  by_cases h : z = 0
  · subst h
    refine ⟨by rw [oM_zero]; simp [rnd], fun h => absurd rfl h⟩
  · have ha := oM_abs z h
    have hne : (oM z).natAbs ≠ 0 := by have := (oM_ne z h).1; omega
    rw [oE_ne z e h]
    generalize tz z.natAbs = k at *
    rw [ha, rnd_scale]
    refine ⟨rfl, fun _ => ?_⟩
    have hb := bl_scale (oM z).natAbs k hne
    refine ⟨?_, by rw [hb]; omega⟩
    unfold lastE
    rw [hb]
    congr 1
    omega

end Go.Proofs.YtfkndkaneffgdaaGreatDoor

/- No number is nearer than the rounded one: plain mathematics. -/
namespace Go.Proofs.YtfkndkaneffgdaaGreatDoor
theorem fS_wrd (n : Bool) (s : Nat) (h : s < 9223372036854775808) : fS (wrd n s) = n := by
  unfold fS
  cases n
  · rw [wrd_false]; exact decide_eq_false (by omega)
  · rw [wrd_true]; exact decide_eq_true (by omega)
theorem fP_wrd (n : Bool) (s : Nat) (h : s < 9223372036854775808) : fP (wrd n s) = s / 4503599627370496 := by
  unfold fP
  cases n
  · rw [wrd_false]; omega
  · rw [wrd_true]; omega
theorem fF_wrd (n : Bool) (s : Nat) (_h : s < 9223372036854775808) : fF (wrd n s) = s % 4503599627370496 := by
  unfold fF
  cases n
  · rw [wrd_false]
  · rw [wrd_true]; omega

/-- What a finite number is worth, at a level. -/
theorem fM_wrd (n : Bool) (s : Nat) (h : s < 9218868437227405312) : ∃ j : Nat, fE (wrd n s) = -1074 + (j : Int) ∧ fM (wrd n s) * 2 ^ j = sg n (rv s) := by
  have e1 := fP_wrd n s (by omega)
  have e2 := fF_wrd n s (by omega)
  have e3 := fS_wrd n s (by omega)
  unfold fM fE fA rv
  rw [e1, e2, e3]
  by_cases c1 : s < 4503599627370496
  · rw [if_pos (by omega), if_pos (by omega), if_pos c1]
    refine ⟨0, by simp, ?_⟩
    rw [Nat.mod_eq_of_lt c1]
    simp
  · rw [if_neg (by omega), if_neg (by omega), if_neg c1]
    refine ⟨s / 4503599627370496 - 1, by omega, ?_⟩
    rw [Nat.add_comm 4503599627370496]
    generalize s % 4503599627370496 + 4503599627370496 = m
    generalize s / 4503599627370496 - 1 = j
    unfold sg
    cases n
    · simp
    · simp [Int.neg_mul]

end Go.Proofs.YtfkndkaneffgdaaGreatDoor

/- How numbers of binary64 stand to one another: by what their rungs are worth. -/
namespace Go.Proofs.YtfkndkaneffgdaaGreatDoor
open Go.RowKit

/-- What a rung with its sign is worth (Inf as the next number would be). -/
def pv (n : Bool) (r : Nat) : Int := if n = true then -(rv r : Int) else (rv r : Int)

theorem rv_lt {r s : Nat} (h : r < s) : rv r < rv s := Nat.lt_of_lt_of_le (rv_succ r) (rv_mono h)

end Go.Proofs.YtfkndkaneffgdaaGreatDoor

/- The reference's dyadic numbers at a level: Sub, Compare, Scale by 1, Neg. -/
namespace Go.Proofs.YtfkndkaneffgdaaGreatDoor
open Go.RowKit
theorem Lvl.neg {lo : Int} {W : Nat} {z : Int} (h : Lvl lo W z) : Lvl lo W (-z) := ⟨by rw [Int.natAbs_neg]; exact h.1, h.2⟩

end Go.Proofs.YtfkndkaneffgdaaGreatDoor

/- What sums of binary64 are: a number's value in units of the least one, the sum's bits and flags. -/
namespace Go.Proofs.YtfkndkaneffgdaaGreatDoor
open Go.RowKit

/-- The rung; the value in units of the least number. -/
def fR (b : Nat) : Nat := b % 9223372036854775808
def fZ (b : Nat) : Int := pv (fS b) (fR b)

theorem b_wrd (b : Nat) (h : b < 18446744073709551616) : wrd (fS b) (fR b) = b := by
  unfold fS fR
  by_cases c : 9223372036854775808 ≤ b
  · rw [decide_eq_true c, wrd_true]; omega
  · rw [decide_eq_false c, wrd_false]; omega
theorem fR_lt (b : Nat) : fR b < 9223372036854775808 := by unfold fR; omega
theorem fR_fin (b : Nat) (hf : fFin b = true) : fR b < 9218868437227405312 := by
  have h1 := of_decide_eq_true hf
  unfold fP at h1
  unfold fR
  omega
theorem sg_pv (n : Bool) (s : Nat) : sg n (rv s) = pv n s := rfl

theorem fZ_level (b : Nat) (h : b < 18446744073709551616) (hf : fFin b = true) : oM (fZ b) = fD b ∧ oE (fZ b) (-1074) = fX b := by
  obtain ⟨j, h1, h2⟩ := fM_wrd (fS b) (fR b) (fR_fin b hf)
  rw [b_wrd b h] at h1 h2
  have h3 := oM_scale (fM b) j (-1074)
  rw [h2, sg_pv, ← h1] at h3
  exact h3

theorem rv_inf : rv 9218868437227405312 = 2 ^ 2098 := by decide +kernel
theorem pv_abs (n : Bool) (r : Nat) : (pv n r).natAbs = rv r := by unfold pv; split <;> omega
theorem fZ_abs (b : Nat) : (fZ b).natAbs = rv (fR b) := pv_abs _ _
theorem fZ_lt (b : Nat) (hf : fFin b = true) : (fZ b).natAbs < 2 ^ 2098 := by
  rw [fZ_abs, ← rv_inf]; exact rv_lt (fR_fin b hf)

/-- The exact sum; what comes of it; its flags. -/
def aZ (a b : Nat) : Int := fZ a + fZ b
def aV (a b : Nat) : Nat :=
  if fK a = 4 ∨ fK b = 4 then 9221120237041090560
  else if fK a = 3 then (if fK b = 3 ∧ a ≠ b then 9221120237041090560 else a)
  else if fK b = 3 then b
  else if aZ a b = 0 then (if (fS a && fS b) = true then 9223372036854775808 else 0)
  else wrd (decide (aZ a b < 0)) (rnd (aZ a b).natAbs (-1074))
def aF (a b : Nat) : Int :=
  if fK a = 4 ∨ fK b = 4 then 0
  else if fK a = 3 then (if fK b = 3 ∧ a ≠ b then 16 else 0)
  else if fK b = 3 then 0
  else if aZ a b = 0 then 0
  else rflag (oM (aZ a b)).natAbs (oE (aZ a b) (-1074))

theorem p2098 : (2 : Nat) ^ 2098 + 2 ^ 2098 = 2 ^ 2099 := by decide +kernel
theorem fZ_Lvl (b : Nat) (hf : fFin b = true) : Lvl (-1074) 2099 (fZ b) := by
  have h1 := fZ_lt b hf
  have h2 := p2098
  have h3 := Nat.two_pow_pos 2098
  generalize (2 : Nat) ^ 2098 = P at *
  exact ⟨by rw [← h2]; omega, by decide, by decide, by decide⟩
theorem aZ_Lvl (a b : Nat) (ha : fFin a = true) (hb : fFin b = true) : Lvl (-1074) 2099 (fZ a + fZ b) := by
  have h1 := fZ_lt a ha
  have h4 := fZ_lt b hb
  have h2 := p2098
  generalize (2 : Nat) ^ 2098 = P at *
  exact ⟨by rw [← h2]; omega, by decide, by decide, by decide⟩

theorem wrd_lt (n : Bool) (r : Nat) (h : r < 9223372036854775808) : wrd n r < 18446744073709551616 := by unfold wrd; split <;> omega
theorem aV_lt (a b : Nat) (ha : a < 18446744073709551616) (hb : b < 18446744073709551616) : aV a b < 18446744073709551616 := by
  unfold aV
  split
  · omega
  · split
    · split <;> omega
    · split
      · omega
      · split
        · split <;> omega
        · have := rnd_le (aZ a b).natAbs (-1074)
          exact wrd_lt _ _ (by omega)

theorem add_f (a b : Nat) (a3 : fK a ≠ 3) (a4 : fK a ≠ 4) (b3 : fK b ≠ 3) (b4 : fK b ≠ 4) :
    aV a b = (if aZ a b = 0 then (if (fS a && fS b) = true then 9223372036854775808 else 0) else wrd (decide (aZ a b < 0)) (rnd (aZ a b).natAbs (-1074))) ∧ aF a b = (if aZ a b = 0 then 0 else rflag (oM (aZ a b)).natAbs (oE (aZ a b) (-1074))) := by
  have h : ¬ (fK a = 4 ∨ fK b = 4) := by omega
  unfold aV aF
  simp only [if_neg h, if_neg a3, if_neg b3, and_self]
theorem rnd_0 (E : Int) : rnd 0 E = 0 := by unfold rnd; exact if_pos rfl

end Go.Proofs.YtfkndkaneffgdaaGreatDoor

