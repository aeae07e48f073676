/- Part 15 of the texts. -/
import Derived.Test.YtfnnbkclnflpfaaGreatDoorPartS14
import Derived.Test.YtfnnbkclnflpfaaGreatDoorPartS13
import Derived.Test.YtfnnbkclnflpfaaGreatDoorPartS12
import Ieee.Arith
/- What a finite number's value is rounded to; the laws SoftKinds, SoftBack, walked. -/
namespace Go.Proofs.YtfnnbkclnflpfaaGreatDoor
open Go.RowKit

theorem fM_abs (b : Nat) : (fM b).natAbs = fA b := by unfold fM sg; split <;> simp

theorem fin_lt (b : Nat) (hf : fFin b = true) : fP b < 2047 := by
  have := fP_lt b
  unfold fFin at hf
  simp at hf
  omega

theorem rnd_bits (b : Nat) (hf : fFin b = true) : rnd (fA b) (fE b) = b % 9223372036854775808 ∧ lastE (fA b) (fE b) = fE b ∧ (bl (fA b) : Int) + fE b ≤ 1024 := by
  have hp := fin_lt b hf
  have hb : b % 9223372036854775808 = fF b + fP b * 4503599627370496 := by unfold fF fP; omega
  have hfl := fF_lt b
  rw [hb]
  by_cases h0 : fP b = 0
  · have e1 : fA b = fF b := by unfold fA; rw [if_pos h0]
    have e2 : fE b = -1074 := by unfold fE; rw [if_pos h0]
    rw [e1, e2, h0]
    generalize fF b = f at *
    by_cases hz : f = 0
    · subst hz
      exact ⟨by simp [rnd], by decide, by decide⟩
    · obtain ⟨a1, a2, a3⟩ := bl_spec f hz
      have hbl : bl f ≤ 52 := by
        have h1 : (2 : Nat) ^ (bl f - 1) < 2 ^ 52 := by rw [p52]; omega
        have := pow_lt_of h1
        omega
      have hl : lastE f (-1074) = -1074 := by unfold lastE; omega
      refine ⟨?_, hl, by omega⟩
      rw [rnd_fin f _ hz (by omega)]
      unfold rndM
      rw [hl]
      have := mS_up f 0
      simp at this
      simp [this]
  · have e1 : fA b = fF b + 4503599627370496 := by unfold fA; rw [if_neg h0]
    have e2 : fE b = (fP b : Int) - 1075 := by unfold fE; rw [if_neg h0]
    rw [e1, e2]
    generalize fF b = f at *
    generalize fP b = p at *
    have hbl : bl (f + 4503599627370496) = 53 := bl_of (by decide) (by show 2 ^ 52 ≤ _; rw [p52]; omega) (by rw [p53]; omega)
    have hl : lastE (f + 4503599627370496) ((p : Int) - 1075) = (p : Int) - 1075 := by unfold lastE; rw [hbl]; omega
    refine ⟨?_, hl, by rw [hbl]; omega⟩
    rw [rnd_fin _ _ (by omega) (by rw [hbl]; omega)]
    unfold rndM
    rw [hl]
    have := mS_up (f + 4503599627370496) 0
    simp at this
    rw [show (p : Int) - 1075 - ((p : Int) - 1075) = 0 by omega, this]
    omega

theorem oM_abs (z : Int) (h : z ≠ 0) : z.natAbs = (oM z).natAbs * 2 ^ tz z.natAbs := by
  have h1 := (oddOf z h).1
  have h2 := congrArg Int.natAbs h1
  rw [Int.natAbs_mul, Int.natAbs_pow] at h2
  exact h2

theorem oM_sign (z : Int) : decide (oM z < 0) = decide (z < 0) := by
  have h := sgnI_oM z
  unfold sgnI at h
  by_cases h1 : oM z < 0
  · rw [if_pos h1] at h
    by_cases h2 : z < 0
    · rw [decide_eq_true h1, decide_eq_true h2]
    · rw [if_neg h2] at h
      split at h <;> omega
  · rw [if_neg h1] at h
    by_cases h2 : z < 0
    · rw [if_pos h2] at h
      split at h <;> omega
    · rw [decide_eq_false h1, decide_eq_false h2]

/-- A number and its odd part are rounded alike. -/
theorem rnd_odd (z e : Int) : rnd (oM z).natAbs (oE z e) = rnd z.natAbs e ∧ (z ≠ 0 → lastE (oM z).natAbs (oE z e) = lastE z.natAbs e ∧ (bl (oM z).natAbs : Int) + oE z e = (bl z.natAbs : Int) + e) := by
  by_cases h : z = 0
  · subst h
    refine ⟨by rw [oM_zero]; simp [rnd], fun h => absurd rfl h⟩
  · have ha := oM_abs z h
    have hne : (oM z).natAbs ≠ 0 := by have := (oM_ne z h).1; omega
    rw [oE_ne z e h]
    generalize tz z.natAbs = k at *
    rw [ha, rnd_scale]
    refine ⟨rfl, fun _ => ?_⟩
    have hb := bl_scale (oM z).natAbs k hne
    refine ⟨?_, by rw [hb]; omega⟩
    unfold lastE
    rw [hb]
    congr 1
    omega

end Go.Proofs.YtfnnbkclnflpfaaGreatDoor

/- No number is nearer than the rounded one: plain mathematics. -/
namespace Go.Proofs.YtfnnbkclnflpfaaGreatDoor
theorem fS_wrd (n : Bool) (s : Nat) (h : s < 9223372036854775808) : fS (wrd n s) = n := by
  unfold fS
  cases n
  · rw [wrd_false]; exact decide_eq_false (by omega)
  · rw [wrd_true]; exact decide_eq_true (by omega)
theorem fP_wrd (n : Bool) (s : Nat) (h : s < 9223372036854775808) : fP (wrd n s) = s / 4503599627370496 := by
  unfold fP
  cases n
  · rw [wrd_false]; omega
  · rw [wrd_true]; omega
theorem fF_wrd (n : Bool) (s : Nat) (_h : s < 9223372036854775808) : fF (wrd n s) = s % 4503599627370496 := by
  unfold fF
  cases n
  · rw [wrd_false]
  · rw [wrd_true]; omega

/-- What a finite number is worth, at a level. -/
theorem fM_wrd (n : Bool) (s : Nat) (h : s < 9218868437227405312) : ∃ j : Nat, fE (wrd n s) = -1074 + (j : Int) ∧ fM (wrd n s) * 2 ^ j = sg n (rv s) := by
  have e1 := fP_wrd n s (by omega)
  have e2 := fF_wrd n s (by omega)
  have e3 := fS_wrd n s (by omega)
  unfold fM fE fA rv
  rw [e1, e2, e3]
  by_cases c1 : s < 4503599627370496
  · rw [if_pos (by omega), if_pos (by omega), if_pos c1]
    refine ⟨0, by simp, ?_⟩
    rw [Nat.mod_eq_of_lt c1]
    simp
  · rw [if_neg (by omega), if_neg (by omega), if_neg c1]
    refine ⟨s / 4503599627370496 - 1, by omega, ?_⟩
    rw [Nat.add_comm 4503599627370496]
    generalize s % 4503599627370496 + 4503599627370496 = m
    generalize s / 4503599627370496 - 1 = j
    unfold sg
    cases n
    · simp
    · simp [Int.neg_mul]

end Go.Proofs.YtfnnbkclnflpfaaGreatDoor

/- How numbers of binary64 stand to one another: by what their rungs are worth. -/
namespace Go.Proofs.YtfnnbkclnflpfaaGreatDoor
open Go.RowKit

/-- What a rung with its sign is worth (Inf as the next number would be). -/
def pv (n : Bool) (r : Nat) : Int := if n = true then -(rv r : Int) else (rv r : Int)

theorem dbl_sw : Ieee.double.signWeight = 9223372036854775808 := by decide
theorem dbl_bin : Ieee.double.binade = 4503599627370496 := by decide
theorem dbl_inf : Ieee.double.infRung = 9218868437227405312 := by decide
theorem dbl_lp : Ieee.double.leastPlace = -1074 := by decide

theorem wrd_parts (n : Bool) (r : Nat) (h : r < 9223372036854775808) : (wrd n r / 9223372036854775808 % 2 == 1) = n ∧ wrd n r % 9223372036854775808 = r := by
  cases n
  · rw [wrd_false]; exact ⟨by simp; omega, by omega⟩
  · rw [wrd_true]; exact ⟨by simp; omega, by omega⟩

theorem read_wrd (n : Bool) (r : Nat) (h : r ≤ 9218868437227405312) :
    (r < 9218868437227405312 ∧ ∃ (m : Nat) (k : Nat), Ieee.double.read (wrd n r) = .number n m (-1074 + (k : Int)) ∧ m * 2 ^ k = rv r) ∨ (r = 9218868437227405312 ∧ Ieee.double.read (wrd n r) = .infinity n) := by
  obtain ⟨h1, h2⟩ := wrd_parts n r (by omega)
  unfold Ieee.Format.read
  rw [dbl_sw, dbl_bin, dbl_inf, dbl_lp]
  simp only [h1, h2]
  by_cases c1 : r < 4503599627370496
  · left
    refine ⟨by omega, r, 0, ?_, ?_⟩
    · rw [if_pos c1]; rfl
    · unfold rv; rw [if_pos c1]; simp
  · by_cases c2 : r < 9218868437227405312
    · left
      refine ⟨c2, _, _, by rw [if_neg c1, if_pos c2], ?_⟩
      unfold rv; rw [if_neg c1]
    · right
      have : r = 9218868437227405312 := by omega
      exact ⟨this, by rw [if_neg c1, if_neg c2, if_pos this]⟩

theorem signed_pv (n : Bool) (m k u : Nat) (r : Nat) (h : m * 2 ^ k = rv r) (hu : u ≤ k) : Ieee.signed n m u * 2 ^ (k - u) = pv n r := by
  have h1 : m <<< u * 2 ^ (k - u) = rv r := by
    rw [Nat.shiftLeft_eq, Nat.mul_assoc, ← Nat.pow_add, show u + (k - u) = k by omega]; exact h
  have h2 : ((m <<< u : Nat) : Int) * 2 ^ (k - u) = (rv r : Int) := by
    rw [← h1, Int.natCast_mul, Int.natCast_pow]; rfl
  unfold Ieee.signed pv
  cases n
  · simp only [Bool.false_eq_true, if_false]; exact h2
  · simp only [if_true]; rw [Int.neg_mul, h2]

theorem compare_scale (a b : Int) (k : Nat) : compare (a * 2 ^ k) (b * 2 ^ k) = compare a b := by
  have hp : (0 : Int) < 2 ^ k := Int.pow_pos (by decide)
  rcases Int.lt_trichotomy a b with h | h | h
  · have h1 : a * 2 ^ k < b * 2 ^ k := Int.mul_lt_mul_of_pos_right h hp
    rw [Int.compare_eq_lt.2 h, Int.compare_eq_lt.2 h1]
  · subst h; simp
  · have h1 : b * 2 ^ k < a * 2 ^ k := Int.mul_lt_mul_of_pos_right h hp
    rw [Int.compare_eq_gt.2 h, Int.compare_eq_gt.2 h1]

theorem order_num (n m : Bool) (r s a b k j : Nat) (h1 : a * 2 ^ k = rv r) (h2 : b * 2 ^ j = rv s) :
    Ieee.Datum.order (.number n a (-1074 + (k : Int))) (.number m b (-1074 + (j : Int))) = some (compare (pv n r) (pv m s)) := by
  unfold Ieee.Datum.order
  simp only
  congr 1
  generalize hc : min k j = c
  have e1 : (-1074 + (k : Int) - min (-1074 + (k : Int)) (-1074 + (j : Int))).toNat = k - c := by omega
  have e2 : (-1074 + (j : Int) - min (-1074 + (k : Int)) (-1074 + (j : Int))).toNat = j - c := by omega
  rw [e1, e2, ← compare_scale _ _ c]
  have s1 := signed_pv n a k (k - c) r h1 (by omega)
  have s2 := signed_pv m b j (j - c) s h2 (by omega)
  rw [show k - (k - c) = c by omega] at s1
  rw [show j - (j - c) = c by omega] at s2
  rw [s1, s2]

theorem rv_lt {r s : Nat} (h : r < s) : rv r < rv s := Nat.lt_of_lt_of_le (rv_succ r) (rv_mono h)

theorem order_wrd (n m : Bool) (r s : Nat) (hr : r ≤ 9218868437227405312) (hs : s ≤ 9218868437227405312) : Ieee.double.order (wrd n r) (wrd m s) = some (compare (pv n r) (pv m s)) := by
  unfold Ieee.Format.order
  rcases read_wrd n r hr with ⟨c1, a, k, e1, h1⟩ | ⟨c1, e1⟩
  · rcases read_wrd m s hs with ⟨c2, b, j, e2, h2⟩ | ⟨c2, e2⟩
    · rw [e1, e2]; exact order_num n m r s a b k j h1 h2
    · rw [e1, e2]
      have hlt : rv r < rv s := rv_lt (by omega)
      have hn : Ieee.Datum.order (.number n a (-1074 + (k : Int))) (.infinity m) = some (if m then .gt else .lt) := rfl
      rw [hn]
      congr 1
      unfold pv
      cases m <;> cases n <;> simp only [Bool.false_eq_true, if_true, if_false] <;> symm <;> first | exact Int.compare_eq_lt.2 (by omega) | exact Int.compare_eq_gt.2 (by omega)
  · rcases read_wrd m s hs with ⟨c2, b, j, e2, h2⟩ | ⟨c2, e2⟩
    · rw [e1, e2]
      have hlt : rv s < rv r := rv_lt (by omega)
      have hn : Ieee.Datum.order (.infinity n) (.number m b (-1074 + (j : Int))) = some (if n then .lt else .gt) := rfl
      rw [hn]
      congr 1
      unfold pv
      cases m <;> cases n <;> simp only [Bool.false_eq_true, if_true, if_false] <;> symm <;> first | exact Int.compare_eq_lt.2 (by omega) | exact Int.compare_eq_gt.2 (by omega)
    · rw [e1, e2]
      have hrs : rv r = rv s := by rw [c1, c2]
      have hpos : 0 < rv s := by have := rv_lt (r := 0) (s := s) (by omega); rw [rv_zero] at this; exact this
      have hn : Ieee.Datum.order (.infinity n) (.infinity m) = some (compare m.toNat n.toNat) := rfl
      rw [hn]
      congr 1
      unfold pv
      rw [hrs]
      cases n <;> cases m
      · simp
      · rw [if_neg (by decide), if_pos rfl]
        rw [Int.compare_eq_gt.2 (by omega)]
        decide
      · rw [if_pos rfl, if_neg (by decide)]
        rw [Int.compare_eq_lt.2 (by omega)]
        decide
      · simp

end Go.Proofs.YtfnnbkclnflpfaaGreatDoor

/- The reference's dyadic numbers at a level: Sub, Compare, Scale by 1, Neg. -/
namespace Go.Proofs.YtfnnbkclnflpfaaGreatDoor
open Go.RowKit
theorem Lvl.neg {lo : Int} {W : Nat} {z : Int} (h : Lvl lo W z) : Lvl lo W (-z) := ⟨by rw [Int.natAbs_neg]; exact h.1, h.2⟩

end Go.Proofs.YtfnnbkclnflpfaaGreatDoor

/- What sums of binary64 are: a number's value in units of the least one, the sum's bits and flags. -/
namespace Go.Proofs.YtfnnbkclnflpfaaGreatDoor
open Go.RowKit

/-- The rung; the value in units of the least number. -/
def fR (b : Nat) : Nat := b % 9223372036854775808
def fZ (b : Nat) : Int := pv (fS b) (fR b)

theorem b_wrd (b : Nat) (h : b < 18446744073709551616) : wrd (fS b) (fR b) = b := by
  unfold fS fR
  by_cases c : 9223372036854775808 ≤ b
  · rw [decide_eq_true c, wrd_true]; omega
  · rw [decide_eq_false c, wrd_false]; omega
theorem fR_lt (b : Nat) : fR b < 9223372036854775808 := by unfold fR; omega
theorem fR_fin (b : Nat) (hf : fFin b = true) : fR b < 9218868437227405312 := by
  have h1 := of_decide_eq_true hf
  unfold fP at h1
  unfold fR
  omega
theorem sg_pv (n : Bool) (s : Nat) : sg n (rv s) = pv n s := rfl

theorem fZ_level (b : Nat) (h : b < 18446744073709551616) (hf : fFin b = true) : oM (fZ b) = fD b ∧ oE (fZ b) (-1074) = fX b := by
  obtain ⟨j, h1, h2⟩ := fM_wrd (fS b) (fR b) (fR_fin b hf)
  rw [b_wrd b h] at h1 h2
  have h3 := oM_scale (fM b) j (-1074)
  rw [h2, sg_pv, ← h1] at h3
  exact h3

theorem rv_inf : rv 9218868437227405312 = 2 ^ 2098 := by decide +kernel
theorem pv_abs (n : Bool) (r : Nat) : (pv n r).natAbs = rv r := by unfold pv; split <;> omega
theorem fZ_abs (b : Nat) : (fZ b).natAbs = rv (fR b) := pv_abs _ _
theorem fZ_lt (b : Nat) (hf : fFin b = true) : (fZ b).natAbs < 2 ^ 2098 := by
  rw [fZ_abs, ← rv_inf]; exact rv_lt (fR_fin b hf)

theorem wrd_lt (n : Bool) (r : Nat) (h : r < 9223372036854775808) : wrd n r < 18446744073709551616 := by unfold wrd; split <;> omega
theorem rnd_0 (E : Int) : rnd 0 E = 0 := by unfold rnd; exact if_pos rfl

end Go.Proofs.YtfnnbkclnflpfaaGreatDoor

