/- Part 26 of the texts. -/
import Derived.Test.YtceofkjefmilfaaGreatDoorPartc25
import Derived.Test.YtceofkjefmilfaaGreatDoorPartc21
import Derived.Test.YtceofkjefmilfaaGreatDoorPartc22
import Derived.Test.YtceofkjefmilfaaGreatDoorPartc19
import Derived.Test.YtceofkjefmilfaaGreatDoorPartc17
import Derived.Test.YtceofkjefmilfaaGreatDoorPartc09
import Derived.Deep.RegionHeld3
import Derived.Laws.Cover2
import Derived.Laws.Externs
import Derived.Test.YtceofkjefmilfaaGreatDoorPartc04
import Derived.Laws.FloatArith
import Derived.Test.YtceofkjefmilfaaGreatDoorPartc23
import Derived.Laws.BitsAllLaws
import Derived.Test.YtceofkjefmilfaaGreatDoorPartc11
/- Powers of two and roots of numbers, as rational ones: how far they err; when what is rounded is finite. Ahead of stage 9. -/
namespace Go.Proofs.YtceofkjefmilfaaGreatDoor
open Go.RowKit

theorem p2_lt {a b : Int} (h : a < b) : p2 a < p2 b := by
  have h1 := p2_mono (show a + 1 ≤ b by omega)
  rw [p2_succ] at h1
  have := p2_pos a
  grind
theorem lt_of_p2 {a b : Int} (h : p2 a < p2 b) : a < b := by
  rcases Int.lt_or_le a b with g | g
  · exact g
  · have := p2_mono g
    grind
/-- A number lies from its highest digit on, below twice that. -/
theorem xE_top (v : Nat) (E : Int) (h : v ≠ 0) : p2 ((bl v : Int) + E - 1) ≤ xE v E ∧ xE v E < p2 ((bl v : Int) + E) := by
  obtain ⟨b1, b2, b3⟩ := bl_spec v h
  have hp := p2_pos E
  constructor
  · rw [show (bl v : Int) + E - 1 = ((bl v - 1 : Nat) : Int) + E by omega, p2_add, p2_nat]
    unfold xE
    have := Rat.mul_le_mul_of_nonneg_left (Rat.natCast_le_natCast.2 b2) (Rat.le_of_lt hp)
    grind
  · rw [p2_add, p2_nat]
    unfold xE
    have := Rat.mul_lt_mul_of_pos_left (Rat.natCast_lt_natCast.2 b3) hp
    grind
/-- What is rounded is finite, if it is not too great. -/
theorem rnd_finite (v : Nat) (E : Int) (h : xE v E < p2 1023) : rnd v E < 9218868437227405312 := by
  by_cases h0 : v = 0
  · rw [h0, rnd_0]; decide
  · have h1 := (xE_top v E h0).1
    have h2 : (bl v : Int) + E - 1 < 1023 := lt_of_p2 (by grind)
    by_cases h3 : (bl v : Int) + E ≤ 1022
    · obtain ⟨m1, m2, m3⟩ := rndM_bounds v E h0
      obtain ⟨l1, l2, l3⟩ := lastE_ge v E
      rw [rnd_fin v E h0 (by omega)]
      have : (lastE v E + 1074).toNat ≤ 2043 := by omega
      omega
    · obtain ⟨m1, m2, m3⟩ := rndM_bounds v E h0
      obtain ⟨l1, l2, l3⟩ := lastE_ge v E
      rw [rnd_fin v E h0 (by omega)]
      have : (lastE v E + 1074).toNat ≤ 2044 := by omega
      omega
/-- Of at most 53 digits: exact, or below the least normal number and wrong by at most half of the least one. -/
theorem rnd_short (v : Nat) (E : Int) (hb : bl v ≤ 53) (hf : rnd v E < 9218868437227405312) :
    yE v E = xE v E ∨ (xE v E < p2 (-1022) ∧ rnd v E ≤ 4503599627370496 ∧ 2 * yE v E ≤ 2 * xE v E + p2 (-1074) ∧ 2 * xE v E ≤ 2 * yE v E + p2 (-1074)) := by
  by_cases h : v = 0
  · subst h
    refine .inl ?_
    have e : yE 0 E = 0 := by unfold yE; rw [rnd_0, rv_zero]; exact Rat.zero_mul _
    have e2 : xE 0 E = 0 := Rat.zero_mul _
    rw [e, e2]
  have ht := fin_top v E h hf
  obtain ⟨l1, l2, l3⟩ := lastE_ge v E
  obtain ⟨r1, r2, r3⟩ := rnd_half v E h ht
  by_cases hl : lastE v E ≤ E
  · exact .inl (r1 hl)
  · have l4 : lastE v E = -1074 ∧ (bl v : Int) + E < -1021 := by omega
    have hx := (xE_top v E h).2
    have hx2 := p2_mono (show (bl v : Int) + E ≤ -1022 by omega)
    rcases rnd_err v E hf with e | e
    · refine .inr ⟨by grind, ?_, by rw [l4.1] at r2; exact r2, by rw [l4.1] at r3; exact r3⟩
      obtain ⟨b1, b2, b3⟩ := bl_spec v h
      obtain ⟨k, hk, hk1⟩ : ∃ k : Nat, E - lastE v E = -(k : Int) ∧ 1 ≤ k := ⟨(lastE v E - E).toNat, by omega, by omega⟩
      have hM : rndM v E ≤ 4503599627370496 := by
        unfold rndM
        rw [hk, mS_down _ _ hk1]
        refine cutE_upto ?_
        have h1 : v < 2 ^ (52 + k) := Nat.lt_of_lt_of_le b3 (pow_le2 (by omega))
        rw [Nat.pow_add, p52] at h1
        exact Nat.le_of_lt h1
      have h0 : (lastE v E + 1074).toNat = 0 := by omega
      rw [rnd_fin v E h ht, h0, Nat.zero_mul, Nat.add_zero]
      exact hM
    · exact .inr ⟨by grind, e.1, e.2.2⟩

theorem fD_mag (a : Nat) (ha : a < 18446744073709551616) (fa : fFin a = true) (a0 : fK a ≠ 0) (n : Int) : xE (fD a).natAbs (fX a + n) = (rv (fR a) : Rat) * p2 (-1074) * p2 n := by
  obtain ⟨β, x1, x2, x3, x4⟩ := odd_mag a ha fa a0
  unfold xE
  rw [x2, Rat.natCast_mul, ← p2_nat, show fX a + n = (β : Int) + -1074 + n by omega, p2_add, p2_add]
  grind
theorem xV_fin (a : Nat) (n : Int) (fa : fFin a = true) (a0 : fK a ≠ 0) : xV a n = wrd (fS a) (rnd (fD a).natAbs (fX a + n)) := by
  obtain ⟨a3, a4⟩ := fin_kind fa
  unfold xV
  rw [if_neg a4, if_neg (by omega)]
theorem xV_nought (a : Nat) (n : Int) (a0 : fK a = 0) : xV a n = a := by
  unfold xV
  rw [if_neg (by omega), if_pos (.inr a0)]
theorem fQ_nought (a : Nat) (a0 : fK a = 0) : fQ a = 0 := by
  have h := fQ_ab a
  rw [(fK_zero a).1 a0, rv_zero] at h
  have h2 : ab (fQ a) = 0 := by rw [h]; exact Rat.zero_mul _
  unfold ab at h2
  grind

/-- A number times 2^n: finite, if it is not too great. -/
theorem scale_fin (a : Nat) (n : Int) (ha : a < 18446744073709551616) (fa : fFin a = true) (h : ab (fQ a) * p2 n < p2 1023) : fFin (xV a n) = true := by
  by_cases a0 : fK a = 0
  · rw [xV_nought a n a0]; exact fa
  · rw [xV_fin a n fa a0]
    rw [fQ_ab, ← fD_mag a ha fa a0] at h
    have := rnd_finite _ _ h
    exact (fK_rungs _).2.2.2 (by rw [fR_wrd _ _ (by omega)]; exact this)
/-- A number times 2^n: exact, or below the least normal number and wrong by at most half of the least one. -/
theorem scale_err (a : Nat) (n : Int) (ha : a < 18446744073709551616) (fa : fFin a = true) (hf : fFin (xV a n) = true) :
    fQ (xV a n) = fQ a * p2 n ∨ (ab (fQ a) * p2 n < p2 (-1022) ∧ fR (xV a n) ≤ 4503599627370496 ∧ 2 * ab (fQ (xV a n) - fQ a * p2 n) ≤ p2 (-1074)) := by
  by_cases a0 : fK a = 0
  · rw [xV_nought a n a0, fQ_nought a a0, Rat.zero_mul]; exact .inl rfl
  · have hr := fR_fin _ hf
    have hle := rnd_le (fD a).natAbs (fX a + n)
    have hR : fR (xV a n) = rnd (fD a).natAbs (fX a + n) := by rw [xV_fin a n fa a0, fR_wrd _ _ (by omega)]
    have hS : fS (xV a n) = fS a := by rw [xV_fin a n fa a0, fS_wrd _ _ (by omega)]
    rw [hR] at hr
    obtain ⟨z1, z2, z3, z4, z5, z6, z7, z8, z9⟩ := sc_facts a ha fa a0
    have hb : bl (fD a).natAbs ≤ 53 := (dS_facts a ha fa a0).1
    have e := rnd_short _ _ hb hr
    rw [fD_mag a ha fa a0 n] at e
    unfold yE at e
    rw [fQ_sign (xV a n), hS, hR, fQ_ab, fQ_sign a]
    generalize (rv (rnd (fD a).natAbs (fX a + n)) : Rat) * p2 (-1074) = Y at *
    generalize (rv (fR a) : Rat) * p2 (-1074) = A at *
    cases fS a <;> simp only [Bool.false_eq_true, if_true, if_false]
    · rcases e with e | ⟨e1, e2, e3, e4⟩
      · exact .inl e
      · refine .inr ⟨e1, e2, ?_⟩
        unfold ab; grind
    · rcases e with e | ⟨e1, e2, e3, e4⟩
      · refine .inl ?_
        grind
      · refine .inr ⟨e1, e2, ?_⟩
        unfold ab; grind
theorem scale_exact (a : Nat) (n : Int) (ha : a < 18446744073709551616) (fa : fFin a = true) (h1 : ab (fQ a) * p2 n < p2 1023) (h2 : p2 (-1022) ≤ ab (fQ a) * p2 n) :
    fFin (xV a n) = true ∧ fQ (xV a n) = fQ a * p2 n := by
  have hf := scale_fin a n ha fa h1
  refine ⟨hf, ?_⟩
  rcases scale_err a n ha fa hf with e | e
  · exact e
  · grind

theorem add_fin (a b : Nat) (fa : fFin a = true) (fb : fFin b = true) (h : ab (fQ a + fQ b) < p2 1023) : fFin (aV a b) = true := by
  obtain ⟨v1, v2⟩ := aV_fin a b fa fb
  have hx : ab (fQ a + fQ b) = xE (aZ a b).natAbs (-1074) := by
    have : fQ a + fQ b = ((aZ a b : Int) : Rat) * p2 (-1074) := by
      unfold fQ aZ
      rw [Rat.intCast_add, Rat.add_mul]
    rw [this, cast_abs]
    have n0 : (0 : Rat) ≤ ((aZ a b).natAbs : Rat) * p2 (-1074) := Rat.mul_nonneg Rat.natCast_nonneg (Rat.le_of_lt (p2_pos _))
    unfold xE ab
    split <;> grind
  rw [hx] at h
  exact (fK_rungs _).2.2.2 (by rw [v1]; exact rnd_finite _ _ h)
theorem mul_fin (a b : Nat) (fa : fFin a = true) (fb : fFin b = true) (h : ab (fQ a * fQ b) < p2 1023) : fFin (mV a b) = true := by
  have hx : xE (rv (fR a) * rv (fR b)) (-2148) = ab (fQ a * fQ b) := by
    rw [ab_mul, fQ_ab, fQ_ab]
    unfold xE
    rw [Rat.natCast_mul, show (-2148 : Int) = -1074 + -1074 by rfl, p2_add]
    grind
  rw [← hx] at h
  have := rnd_finite _ _ h
  exact (fK_rungs _).2.2.2 (by rw [mV_any a b fa fb, fR_wrd _ _ (by omega)]; exact this)

end Go.Proofs.YtceofkjefmilfaaGreatDoor

/- Roots of numbers, as rational ones: how far they err. Ahead of stage 9. -/
namespace Go.Proofs.YtceofkjefmilfaaGreatDoor
open Go.RowKit

theorem tS_sq (a : Nat) (h0 : fK a ≠ 0) : ∃ N q : Nat, N = rv (fR a) * 2 ^ 120 ∧ 1152921504606846976 ≤ q ∧ q * q ≤ N ∧ (tS a * tS a = 4 * N ∨ (tS a * tS a ≤ 4 * N + 4 * q ∧ 4 * N ≤ tS a * tS a + 4 * q)) := by
  refine ⟨_, isq (rv (fR a) * 2 ^ 120), rfl, ?_, ?_, ?_⟩
  · have := (tS_low a h0).1
    have e : (2 : Nat) ^ 60 = 1152921504606846976 := by decide
    omega
  · exact (isq_spec _).1
  · obtain ⟨s1, s2⟩ := isq_spec (rv (fR a) * 2 ^ 120)
    unfold tS rS
    generalize rv (fR a) * 2 ^ 120 = N at *
    generalize isq N = q at *
    have e1 : (2 * q) * (2 * q) = 4 * (q * q) := by rw [Nat.mul_mul_mul_comm]
    have e2 : (2 * q + 1) * (2 * q + 1) = 4 * (q * q) + 4 * q + 1 := by rw [sq_succ, e1]; omega
    have e3 := sq_succ q
    by_cases h : q * q = N
    · rw [if_pos h, Nat.add_zero]
      exact .inl (by rw [e1, h])
    · rw [if_neg h]
      refine .inr ?_
      rw [e2]
      generalize q * q = Q at *
      omega

theorem sV_pos (a : Nat) (fa : fFin a = true) (a0 : fK a ≠ 0) (hs : fS a = false) : sV a = tV a := by
  obtain ⟨a3, a4⟩ := fin_kind fa
  unfold sV
  rw [if_neg a4, if_neg (fun h => ?_), if_neg (by rw [hs]; decide)]
  rcases h with h | h
  · exact a0 h
  · rw [h] at a3
    exact a3 (by decide)

/-- The root's square errs by three parts in 2^53. -/
theorem sqrt_err (a : Nat) (fa : fFin a = true) (a0 : fK a ≠ 0) (hs : fS a = false) :
    fFin (sV a) = true ∧ fS (sV a) = false ∧ sV a < 18446744073709551616 ∧ 4503599627370496 < fR (sV a) ∧ 0 ≤ fQ (sV a) ∧ 9007199254740992 * (fQ (sV a) * fQ (sV a)) ≤ 9007199254740992 * fQ a + 3 * fQ a ∧ 9007199254740992 * fQ a ≤ 9007199254740992 * (fQ (sV a) * fQ (sV a)) + 3 * fQ a := by
  obtain ⟨N, q, hN, hq, hq2, hT⟩ := tS_sq a a0
  obtain ⟨t1, t2⟩ := tV_range a fa a0
  have hv := sV_pos a fa a0 hs
  have hr : fR (sV a) = tV a := by rw [hv]; unfold fR; omega
  have hS : fS (sV a) = false := by rw [hv]; exact decide_eq_false (by omega)
  have hfin : fFin (sV a) = true := (fK_rungs _).2.2.2 (by rw [hr]; omega)
  have hY : fQ (sV a) = yE (tS a) (-598) := by
    rw [fQ_sign, hS, if_neg (by decide), hr]
    rfl
  have hX : fQ a = ((4 * N : Nat) : Rat) * p2 (-1196) := by
    rw [fQ_sign, hs, if_neg (by decide), hN, Rat.natCast_mul, Rat.natCast_mul, ← p2_nat, show (-1074 : Int) = 2 + (120 : Nat) + -1196 by rfl, p2_add, p2_add, show p2 2 = ((4 : Nat) : Rat) by rw [show (2 : Int) = ((2 : Nat) : Int) by rfl, p2_nat]]
    grind
  have hXX : xE (tS a) (-598) * xE (tS a) (-598) = ((tS a * tS a : Nat) : Rat) * p2 (-1196) := by
    unfold xE
    rw [Rat.natCast_mul, show (-1196 : Int) = -598 + -598 by rfl, p2_add]
    grind
  have hlt : rnd (tS a) (-598) < 9218868437227405312 := by
    have : rnd (tS a) (-598) = tV a := rfl
    omega
  have e : 9007199254740992 * yE (tS a) (-598) ≤ 9007199254740992 * xE (tS a) (-598) + xE (tS a) (-598) ∧ 9007199254740992 * xE (tS a) (-598) ≤ 9007199254740992 * yE (tS a) (-598) + xE (tS a) (-598) := by
    rcases rnd_err _ _ hlt with e | e
    · exact e
    · have : rnd (tS a) (-598) = tV a := rfl
      omega
  have hX0 : 0 ≤ xE (tS a) (-598) := Rat.mul_nonneg Rat.natCast_nonneg (Rat.le_of_lt (p2_pos _))
  have hY0 : 0 ≤ yE (tS a) (-598) := Rat.mul_nonneg Rat.natCast_nonneg (Rat.le_of_lt (p2_pos _))
  -- the sticky root's square, beside the number
  have hq3 : 1152921504606846976 * (4 * q) ≤ 4 * N := by
    have := Nat.mul_le_mul_right q hq
    omega
  have d1 : 1152921504606846976 * (tS a * tS a) ≤ 1152921504606846976 * (4 * N) + 4 * N ∧ 1152921504606846976 * (4 * N) ≤ 1152921504606846976 * (tS a * tS a) + 4 * N := by
    generalize tS a * tS a = Z at *
    omega
  have hp := p2_pos (-1196)
  have c1 := Rat.mul_le_mul_of_nonneg_left (Rat.natCast_le_natCast.2 d1.1) (Rat.le_of_lt hp)
  have c2 := Rat.mul_le_mul_of_nonneg_left (Rat.natCast_le_natCast.2 d1.2) (Rat.le_of_lt hp)
  rw [Rat.natCast_add, Rat.natCast_mul 1152921504606846976, Rat.natCast_mul 1152921504606846976] at c1 c2
  have k60 : ((1152921504606846976 : Nat) : Rat) = 1152921504606846976 := rfl
  rw [k60] at c1 c2
  have s0 : 0 ≤ fQ a := by rw [hX]; exact Rat.mul_nonneg Rat.natCast_nonneg (Rat.le_of_lt hp)
  refine ⟨hfin, hS, by rw [hv]; omega, by rw [hr]; omega, by rw [hY]; exact hY0, ?_⟩
  rw [hY]
  have g1 : 1152921504606846976 * (xE (tS a) (-598) * xE (tS a) (-598)) ≤ 1152921504606846976 * fQ a + fQ a := by rw [hXX, hX]; grind
  have g2 : 1152921504606846976 * fQ a ≤ 1152921504606846976 * (xE (tS a) (-598) * xE (tS a) (-598)) + fQ a := by rw [hXX, hX]; grind
  clear c1 c2 d1 hq3 hT hXX hX hN hq2
  generalize xE (tS a) (-598) = X at *
  generalize yE (tS a) (-598) = Y at *
  generalize fQ a = S at *
  obtain ⟨D, hD⟩ : ∃ D, Y = X + D := ⟨Y - X, by grind⟩
  subst hD
  have m1 := Rat.mul_nonneg hX0 (show 0 ≤ X - 9007199254740992 * D by grind)
  have m2 := Rat.mul_nonneg hX0 (show 0 ≤ X + 9007199254740992 * D by grind)
  have m3 := Rat.mul_nonneg (show 0 ≤ X - 9007199254740992 * D by grind) (show 0 ≤ X + 9007199254740992 * D by grind)
  have m4 := sq_nonneg D
  constructor
  · grind
  · grind

end Go.Proofs.YtceofkjefmilfaaGreatDoor

/- Sums of squares of numbers whose power of two is taken out: how far they err. Ahead of stage 9. -/
namespace Go.Proofs.YtceofkjefmilfaaGreatDoor
open Go.RowKit

theorem eta_small : 1267650600228229401496703205376 * p2 (-1075) ≤ 1 ∧ 0 < p2 (-1075) ∧ p2 (-1074) = 2 * p2 (-1075) := by
  refine ⟨?_, p2_pos _, ?_⟩
  · have h1 := p2_mono (show (-1075 : Int) ≤ -100 by decide)
    have h2 := p2_neg 100
    have h3 : p2 100 = 1267650600228229401496703205376 := by rw [show (100 : Int) = ((100 : Nat) : Int) by rfl, p2_nat]; rfl
    rw [h3] at h2
    grind
  · rw [show (-1074 : Int) = -1075 + 1 by rfl, p2_succ]
theorem p2_big : (1024 : Rat) ≤ p2 1023 := by
  have h := p2_mono (show (10 : Int) ≤ 1023 by decide)
  have h3 : p2 10 = 1024 := by rw [show (10 : Int) = ((10 : Nat) : Int) by rfl, p2_nat]; rfl
  grind

theorem fQ_pos (a : Nat) (h : fS a = false) : 0 ≤ fQ a := by
  rw [fQ_sign, h]
  exact mag_0 _

theorem mV_self_sign (t : Nat) (ft : fFin t = true) : fS (mV t t) = false ∧ mV t t < 9223372036854775808 := by
  have hle := rnd_le (rv (fR t) * rv (fR t)) (-2148)
  rw [mV_any t t ft ft, Bool.xor_self, wrd_false]
  exact ⟨decide_eq_false (by omega), by omega⟩

end Go.Proofs.YtceofkjefmilfaaGreatDoor

/- The greatest number; the norm: right but for a part in 2^44; at least the greatest one but for a part in 2^50. Ahead of stage 9. -/
namespace Go.Proofs.YtceofkjefmilfaaGreatDoor
open Go.RowKit
/-- The greater one of two; the greatest one without signs. -/
def mx (a b : Nat) : Nat := if fK a = 4 ∨ fK b = 4 then 9221120237041090560 else if fZ a < fZ b then b else a
theorem mag_fZ (r : Nat) (h : r < 9223372036854775808) : fZ r = (rv r : Int) ∧ fR r = r ∧ fS r = false := by
  have h1 : fR r = r := by unfold fR; omega
  have h2 : fS r = false := decide_eq_false (by omega)
  refine ⟨?_, h1, h2⟩
  unfold fZ pv
  rw [h1, h2]
  rfl
theorem mx_mag (m r : Nat) (hm : m < 9218868437227405312) (hr : r < 9218868437227405312) : mx m r = max m r := by
  obtain ⟨a1, a2, a3⟩ := mag_fZ m (by omega)
  obtain ⟨b1, b2, b3⟩ := mag_fZ r (by omega)
  have k1 := (fin_kind ((fK_rungs m).2.2.2 (by rw [a2]; exact hm))).2
  have k2 := (fin_kind ((fK_rungs r).2.2.2 (by rw [b2]; exact hr))).2
  unfold mx
  rw [if_neg (by omega), a1, b1]
  rcases Nat.lt_or_ge m r with h | h
  · have := rv8_lt h
    rw [if_pos (by omega)]
    omega
  · have := rv_mono h
    rw [if_neg (by omega)]
    omega
/-- A number lies from 2^Exp on, below twice that. -/
theorem eX_top (a : Nat) (ha : a < 18446744073709551616) (fa : fFin a = true) (a0 : fK a ≠ 0) : p2 (eX a) ≤ ab (fQ a) ∧ ab (fQ a) < p2 (eX a + 1) := by
  obtain ⟨a3, a4⟩ := fin_kind fa
  obtain ⟨z1, z2, z3, z4, z5, z6, z7, z8, z9⟩ := sc_facts a ha fa a0
  have h := xE_top (fD a).natAbs (fX a) z3
  have e := fD_mag a ha fa a0 0
  rw [Int.add_zero, p2_0, Rat.mul_one, ← fQ_ab] at e
  rw [e] at h
  unfold eX
  rw [if_neg (by omega), show (bl (fD a).natAbs : Int) + fX a - 1 + 1 = (bl (fD a).natAbs : Int) + fX a by omega]
  exact h

end Go.Proofs.YtceofkjefmilfaaGreatDoor

/- Package vector: operations without flags; the reference's with Go's own float64. -/
namespace Go.Proofs.YtceofkjefmilfaaGreatDoor
open Go.RowKit

set_option maxRecDepth 20000 in
set_option maxHeartbeats 2000000 in
theorem vadd_any (a b : Nat) (w : World) (ha : a < 18446744073709551616) (hb : b < 18446744073709551616) (hT : Tab w) :
    Calls Tryz.prog 76 #[.int .u64 a, .int .u64 b] w fun r w' => r = .returned (.int .u64 (aV a b : Nat)) ∧ Below w.heap.size w w' := by
  have K := hide (sadd_any a b w ha hb hT)
  clear ha hb hT
  generalize aV a b = o at *
  generalize aF a b = f at *
  go_enter Tryz.func76, Tryz.ntmps76
  go_wp2_with fail
  refine Calls.mono (unhide K) ?_
  rintro e w1 ⟨rfl, hb1⟩
  clear K
  go_wp2
  go_ret
  exact ⟨rfl, hb1⟩

set_option maxRecDepth 20000 in
set_option maxHeartbeats 2000000 in
theorem vmul_any (a b : Nat) (w : World) (ha : a < 18446744073709551616) (hb : b < 18446744073709551616) (hT : Tab w) :
    Calls Tryz.prog 77 #[.int .u64 a, .int .u64 b] w fun r w' => r = .returned (.int .u64 (mV a b : Nat)) ∧ Below w.heap.size w w' := by
  have K := hide (tmul_any a b w ha hb hT)
  clear ha hb hT
  generalize mV a b = o at *
  generalize mF a b = f at *
  go_enter Tryz.func77, Tryz.ntmps77
  go_wp2_with fail
  refine Calls.mono (unhide K) ?_
  rintro e w1 ⟨rfl, hb1⟩
  clear K
  go_wp2
  go_ret
  exact ⟨rfl, hb1⟩

set_option maxRecDepth 20000 in
set_option maxHeartbeats 2000000 in
theorem vscale_any (a : Nat) (n : Int) (w : World) (ha : a < 18446744073709551616) (hT : Tab w) :
    Calls Tryz.prog 74 #[.int .u64 a, .int .i64 n] w fun r w' => r = .returned (.int .u64 (xV a n : Nat)) ∧ Below w.heap.size w w' := by
  have K := hide (cscale_any a n w ha hT)
  clear ha hT
  generalize xV a n = o at *
  generalize xF a n = f at *
  go_enter Tryz.func74, Tryz.ntmps74
  go_wp2_with fail
  refine Calls.mono (unhide K) ?_
  rintro e w1 ⟨rfl, hb1⟩
  clear K
  go_wp2
  go_ret
  exact ⟨rfl, hb1⟩

end Go.Proofs.YtceofkjefmilfaaGreatDoor

