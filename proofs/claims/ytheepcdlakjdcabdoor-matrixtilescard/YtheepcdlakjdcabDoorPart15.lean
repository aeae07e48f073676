/- Part 15 of the texts. -/
import Derived.Test.YtheepcdlakjdcabDoorPart14
import Derived.Test.YtheepcdlakjdcabDoorPart13
import Derived.Test.YtheepcdlakjdcabDoorPart12
import Ieee.Arith
/- Round of a number at hand; awake (layer 4); the law SoftKinds, walked. -/
namespace Go.Proofs.YtheepcdlakjdcabDoor
open Go.RowKit

theorem round_dy {w : World} {v : Value} {m e : Int} (h : IsDy w v m e) (hm : m.natAbs < TOP) (hr : dRt m e = true) (hT : Tab w) :
    Calls Tryd.prog 49 #[v] w fun r w' => r = .returned (.tuple #[.int .u64 (wrd (decide (m < 0)) (rnd m.natAbs e) : Nat), .int .u8 (rflag m.natAbs e), .int .i64 0]) ∧ Below w.heap.size w w' := by
  obtain ⟨n, a, c, L, rfl, h1, h2, h3, h4, h5⟩ := h.right hm
  have hn : n = decide (m < 0) := by
    obtain ⟨n', a', c', L', e1, _, _, e4, _⟩ := h.parts
    simp only [Value.agg.injEq, Array.mk.injEq, List.cons.injEq, Value.bool.injEq] at e1
    rw [e1.1]; exact e4
  have hv : val L = m.natAbs := by rw [← h3, natAbs_sval]
  have := round_right n a c L e w h1 (h5.trans hr) hT
  rw [hv, hn] at this
  rw [hn]
  exact this

end Go.Proofs.YtheepcdlakjdcabDoor

/- What a finite number's value is rounded to; the laws SoftKinds, SoftBack, walked. -/
namespace Go.Proofs.YtheepcdlakjdcabDoor
open Go.RowKit

theorem fM_abs (b : Nat) : (fM b).natAbs = fA b := by unfold fM sg; split <;> simp

theorem fin_lt (b : Nat) (hf : fFin b = true) : fP b < 2047 := by
  have := fP_lt b
  unfold fFin at hf
  simp at hf
  omega

theorem rnd_bits (b : Nat) (hf : fFin b = true) : rnd (fA b) (fE b) = b % 9223372036854775808 ∧ lastE (fA b) (fE b) = fE b ∧ (bl (fA b) : Int) + fE b ≤ 1024 := by
  have hp := fin_lt b hf
  have hb : b % 9223372036854775808 = fF b + fP b * 4503599627370496 := by unfold fF fP; omega
  have hfl := fF_lt b
  rw [hb]
  by_cases h0 : fP b = 0
  · have e1 : fA b = fF b := by unfold fA; rw [if_pos h0]
    have e2 : fE b = -1074 := by unfold fE; rw [if_pos h0]
    rw [e1, e2, h0]
    generalize fF b = f at *
    by_cases hz : f = 0
    · subst hz
      exact ⟨by simp [rnd], by decide, by decide⟩
    · obtain ⟨a1, a2, a3⟩ := bl_spec f hz
      have hbl : bl f ≤ 52 := by
        have h1 : (2 : Nat) ^ (bl f - 1) < 2 ^ 52 := by rw [p52]; omega
        have := pow_lt_of h1
        omega
      have hl : lastE f (-1074) = -1074 := by unfold lastE; omega
      refine ⟨?_, hl, by omega⟩
      rw [rnd_fin f _ hz (by omega)]
      unfold rndM
      rw [hl]
      have := mS_up f 0
      simp at this
      simp [this]
  · have e1 : fA b = fF b + 4503599627370496 := by unfold fA; rw [if_neg h0]
    have e2 : fE b = (fP b : Int) - 1075 := by unfold fE; rw [if_neg h0]
    rw [e1, e2]
    generalize fF b = f at *
    generalize fP b = p at *
    have hbl : bl (f + 4503599627370496) = 53 := bl_of (by decide) (by show 2 ^ 52 ≤ _; rw [p52]; omega) (by rw [p53]; omega)
    have hl : lastE (f + 4503599627370496) ((p : Int) - 1075) = (p : Int) - 1075 := by unfold lastE; rw [hbl]; omega
    refine ⟨?_, hl, by rw [hbl]; omega⟩
    rw [rnd_fin _ _ (by omega) (by rw [hbl]; omega)]
    unfold rndM
    rw [hl]
    have := mS_up (f + 4503599627370496) 0
    simp at this
    rw [show (p : Int) - 1075 - ((p : Int) - 1075) = 0 by omega, this]
    omega

theorem oM_abs (z : Int) (h : z ≠ 0) : z.natAbs = (oM z).natAbs * 2 ^ tz z.natAbs := by
  have h1 := (oddOf z h).1
  have h2 := congrArg Int.natAbs h1
  rw [Int.natAbs_mul, Int.natAbs_pow] at h2
  exact h2

theorem oM_sign (z : Int) : decide (oM z < 0) = decide (z < 0) := by
  have h := sgnI_oM z
  unfold sgnI at h
  by_cases h1 : oM z < 0
  · rw [if_pos h1] at h
    by_cases h2 : z < 0
    · rw [decide_eq_true h1, decide_eq_true h2]
    · rw [if_neg h2] at h
      split at h <;> omega
  · rw [if_neg h1] at h
    by_cases h2 : z < 0
    · rw [if_pos h2] at h
      split at h <;> omega
    · rw [decide_eq_false h1, decide_eq_false h2]

/-- A number and its odd part are rounded alike. -/
theorem rnd_odd (z e : Int) : rnd (oM z).natAbs (oE z e) = rnd z.natAbs e ∧ (z ≠ 0 → lastE (oM z).natAbs (oE z e) = lastE z.natAbs e ∧ (bl (oM z).natAbs : Int) + oE z e = (bl z.natAbs : Int) + e) := by
  by_cases h : z = 0
  · subst h
    refine ⟨by rw [oM_zero]; simp [rnd], fun h => absurd rfl h⟩
  · have ha := oM_abs z h
    have hne : (oM z).natAbs ≠ 0 := by have := (oM_ne z h).1; omega
    rw [oE_ne z e h]
    generalize tz z.natAbs = k at *
    rw [ha, rnd_scale]
    refine ⟨rfl, fun _ => ?_⟩
    have hb := bl_scale (oM z).natAbs k hne
    refine ⟨?_, by rw [hb]; omega⟩
    unfold lastE
    rw [hb]
    congr 1
    omega

end Go.Proofs.YtheepcdlakjdcabDoor

/- No number is nearer than the rounded one: plain mathematics. -/
namespace Go.Proofs.YtheepcdlakjdcabDoor
theorem fS_wrd (n : Bool) (s : Nat) (h : s < 9223372036854775808) : fS (wrd n s) = n := by
  unfold fS
  cases n
  · rw [wrd_false]; exact decide_eq_false (by omega)
  · rw [wrd_true]; exact decide_eq_true (by omega)
theorem fP_wrd (n : Bool) (s : Nat) (h : s < 9223372036854775808) : fP (wrd n s) = s / 4503599627370496 := by
  unfold fP
  cases n
  · rw [wrd_false]; omega
  · rw [wrd_true]; omega
theorem fF_wrd (n : Bool) (s : Nat) (_h : s < 9223372036854775808) : fF (wrd n s) = s % 4503599627370496 := by
  unfold fF
  cases n
  · rw [wrd_false]
  · rw [wrd_true]; omega

/-- What a finite number is worth, at a level. -/
theorem fM_wrd (n : Bool) (s : Nat) (h : s < 9218868437227405312) : ∃ j : Nat, fE (wrd n s) = -1074 + (j : Int) ∧ fM (wrd n s) * 2 ^ j = sg n (rv s) := by
  have e1 := fP_wrd n s (by omega)
  have e2 := fF_wrd n s (by omega)
  have e3 := fS_wrd n s (by omega)
  unfold fM fE fA rv
  rw [e1, e2, e3]
  by_cases c1 : s < 4503599627370496
  · rw [if_pos (by omega), if_pos (by omega), if_pos c1]
    refine ⟨0, by simp, ?_⟩
    rw [Nat.mod_eq_of_lt c1]
    simp
  · rw [if_neg (by omega), if_neg (by omega), if_neg c1]
    refine ⟨s / 4503599627370496 - 1, by omega, ?_⟩
    rw [Nat.add_comm 4503599627370496]
    generalize s % 4503599627370496 + 4503599627370496 = m
    generalize s / 4503599627370496 - 1 = j
    unfold sg
    cases n
    · simp
    · simp [Int.neg_mul]

end Go.Proofs.YtheepcdlakjdcabDoor

/- How numbers of binary64 stand to one another: by what their rungs are worth. -/
namespace Go.Proofs.YtheepcdlakjdcabDoor
open Go.RowKit

/-- What a rung with its sign is worth (Inf as the next number would be). -/
def pv (n : Bool) (r : Nat) : Int := if n = true then -(rv r : Int) else (rv r : Int)

theorem wrd_parts (n : Bool) (r : Nat) (h : r < 9223372036854775808) : (wrd n r / 9223372036854775808 % 2 == 1) = n ∧ wrd n r % 9223372036854775808 = r := by
  cases n
  · rw [wrd_false]; exact ⟨by simp; omega, by omega⟩
  · rw [wrd_true]; exact ⟨by simp; omega, by omega⟩

theorem rv_lt {r s : Nat} (h : r < s) : rv r < rv s := Nat.lt_of_lt_of_le (rv_succ r) (rv_mono h)

end Go.Proofs.YtheepcdlakjdcabDoor

/- What sums of binary64 are: a number's value in units of the least one, the sum's bits and flags. -/
namespace Go.Proofs.YtheepcdlakjdcabDoor
open Go.RowKit

/-- The rung; the value in units of the least number. -/
def fR (b : Nat) : Nat := b % 9223372036854775808
def fZ (b : Nat) : Int := pv (fS b) (fR b)

theorem b_wrd (b : Nat) (h : b < 18446744073709551616) : wrd (fS b) (fR b) = b := by
  unfold fS fR
  by_cases c : 9223372036854775808 ≤ b
  · rw [decide_eq_true c, wrd_true]; omega
  · rw [decide_eq_false c, wrd_false]; omega
theorem fR_lt (b : Nat) : fR b < 9223372036854775808 := by unfold fR; omega
theorem fR_fin (b : Nat) (hf : fFin b = true) : fR b < 9218868437227405312 := by
  have h1 := of_decide_eq_true hf
  unfold fP at h1
  unfold fR
  omega
theorem sg_pv (n : Bool) (s : Nat) : sg n (rv s) = pv n s := rfl

theorem fZ_level (b : Nat) (h : b < 18446744073709551616) (hf : fFin b = true) : oM (fZ b) = fD b ∧ oE (fZ b) (-1074) = fX b := by
  obtain ⟨j, h1, h2⟩ := fM_wrd (fS b) (fR b) (fR_fin b hf)
  rw [b_wrd b h] at h1 h2
  have h3 := oM_scale (fM b) j (-1074)
  rw [h2, sg_pv, ← h1] at h3
  exact h3

theorem rv_inf : rv 9218868437227405312 = 2 ^ 2098 := by decide +kernel
theorem pv_abs (n : Bool) (r : Nat) : (pv n r).natAbs = rv r := by unfold pv; split <;> omega
theorem fZ_abs (b : Nat) : (fZ b).natAbs = rv (fR b) := pv_abs _ _
theorem fZ_lt (b : Nat) (hf : fFin b = true) : (fZ b).natAbs < 2 ^ 2098 := by
  rw [fZ_abs, ← rv_inf]; exact rv_lt (fR_fin b hf)

/-- The exact sum; what comes of it; its flags. -/
def aZ (a b : Nat) : Int := fZ a + fZ b
def aV (a b : Nat) : Nat :=
  if fK a = 4 ∨ fK b = 4 then 9221120237041090560
  else if fK a = 3 then (if fK b = 3 ∧ a ≠ b then 9221120237041090560 else a)
  else if fK b = 3 then b
  else if aZ a b = 0 then (if (fS a && fS b) = true then 9223372036854775808 else 0)
  else wrd (decide (aZ a b < 0)) (rnd (aZ a b).natAbs (-1074))
def aF (a b : Nat) : Int :=
  if fK a = 4 ∨ fK b = 4 then 0
  else if fK a = 3 then (if fK b = 3 ∧ a ≠ b then 16 else 0)
  else if fK b = 3 then 0
  else if aZ a b = 0 then 0
  else rflag (oM (aZ a b)).natAbs (oE (aZ a b) (-1074))

theorem p2098 : (2 : Nat) ^ 2098 + 2 ^ 2098 = 2 ^ 2099 := by decide +kernel
theorem fZ_Lvl (b : Nat) (hf : fFin b = true) : Lvl (-1074) 2099 (fZ b) := by
  have h1 := fZ_lt b hf
  have h2 := p2098
  have h3 := Nat.two_pow_pos 2098
  generalize (2 : Nat) ^ 2098 = P at *
  exact ⟨by rw [← h2]; omega, by decide, by decide, by decide⟩
theorem aZ_Lvl (a b : Nat) (ha : fFin a = true) (hb : fFin b = true) : Lvl (-1074) 2099 (fZ a + fZ b) := by
  have h1 := fZ_lt a ha
  have h4 := fZ_lt b hb
  have h2 := p2098
  generalize (2 : Nat) ^ 2098 = P at *
  exact ⟨by rw [← h2]; omega, by decide, by decide, by decide⟩

theorem wrd_lt (n : Bool) (r : Nat) (h : r < 9223372036854775808) : wrd n r < 18446744073709551616 := by unfold wrd; split <;> omega
theorem aV_lt (a b : Nat) (ha : a < 18446744073709551616) (hb : b < 18446744073709551616) : aV a b < 18446744073709551616 := by
  unfold aV
  split
  · omega
  · split
    · split <;> omega
    · split
      · omega
      · split
        · split <;> omega
        · have := rnd_le (aZ a b).natAbs (-1074)
          exact wrd_lt _ _ (by omega)

theorem add_f (a b : Nat) (a3 : fK a ≠ 3) (a4 : fK a ≠ 4) (b3 : fK b ≠ 3) (b4 : fK b ≠ 4) :
    aV a b = (if aZ a b = 0 then (if (fS a && fS b) = true then 9223372036854775808 else 0) else wrd (decide (aZ a b < 0)) (rnd (aZ a b).natAbs (-1074))) ∧ aF a b = (if aZ a b = 0 then 0 else rflag (oM (aZ a b)).natAbs (oE (aZ a b) (-1074))) := by
  have h : ¬ (fK a = 4 ∨ fK b = 4) := by omega
  unfold aV aF
  simp only [if_neg h, if_neg a3, if_neg b3, and_self]
theorem rnd_0 (E : Int) : rnd 0 E = 0 := by unfold rnd; exact if_pos rfl

theorem aZ_comm (a b : Nat) : aZ a b = aZ b a := Int.add_comm _ _
theorem add_comm5 (a b : Nat) : aV a b = aV b a ∧ aF a b = aF b a := by
  unfold aV aF
  rw [aZ_comm b a, Bool.and_comm (fS b) (fS a)]
  by_cases c1 : fK a = 4
  · simp [c1]
  by_cases c2 : fK b = 4
  · simp [c2]
  by_cases c3 : fK a = 3
  · by_cases c4 : fK b = 3
    · by_cases c5 : a = b
      · subst c5; exact ⟨rfl, rfl⟩
      · have c6 : ¬ b = a := fun h => c5 h.symm
        simp [c3, c4, c5, c6]
    · simp [c2, c3, c4]
  · by_cases c4 : fK b = 3
    · simp [c1, c3, c4]
    · simp [c1, c2, c3, c4]

end Go.Proofs.YtheepcdlakjdcabDoor

