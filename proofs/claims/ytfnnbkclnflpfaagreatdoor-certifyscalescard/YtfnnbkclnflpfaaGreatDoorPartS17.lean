/- Part 17 of the texts. -/
import Derived.Test.YtfnnbkclnflpfaaGreatDoorPartS16
import Derived.Test.YtfnnbkclnflpfaaGreatDoorPartS15
import Derived.Test.YtfnnbkclnflpfaaGreatDoorPartS14
import Derived.Deep.Cut
import Derived.BigQuiet
/- Numbers times powers of two: where Go's own way to them ends, it ends at the rounded number. Ahead of stage 8. -/
namespace Go.Proofs.YtfnnbkclnflpfaaGreatDoor
open Go.RowKit

theorem rnd_high {v : Nat} {E : Int} (hv : v ≠ 0) (h : 1024 < (bl v : Int) + E) : rnd v E = 9218868437227405312 ∧ rflag v E = 5 := by
  unfold rflag rnd
  rw [if_neg hv, if_pos h, if_neg hv, if_pos h]
  exact ⟨rfl, rfl⟩
theorem cutE_small {v k : Nat} (h : 2 * v < 2 ^ k) : cutE v k = 0 := by
  unfold cutE
  have h1 : v / 2 ^ k = 0 := Nat.div_eq_of_lt (by omega)
  have h2 : v % 2 ^ k = v := Nat.mod_eq_of_lt (by omega)
  rw [h1, h2, if_neg (by omega)]
theorem rnd_low {v : Nat} {E : Int} (hv : v ≠ 0) (h : (bl v : Int) + E < -1074) : rnd v E = 0 ∧ rflag v E = 3 := by
  obtain ⟨b1, b2, b3⟩ := bl_spec v hv
  have hl : lastE v E = -1074 := by unfold lastE; omega
  obtain ⟨j, hj⟩ : ∃ j : Nat, E - -1074 = -((j : Nat) : Int) := ⟨(-1074 - E).toNat, by omega⟩
  have hM : rndM v E = 0 := by
    unfold rndM
    rw [hl, hj, mS_down _ _ (by omega)]
    refine cutE_small ?_
    have h1 : 2 ^ (bl v + 1) ≤ 2 ^ j := Nat.pow_le_pow_right (by decide) (by omega)
    rw [Nat.pow_succ] at h1
    omega
  have hr : rnd v E = 0 := by
    rw [rnd_fin v E hv (by omega), hM, hl]
    rfl
  refine ⟨hr, ?_⟩
  unfold rflag
  rw [if_neg hv, if_neg (by omega), if_neg (by rw [hl]; omega), hr, if_neg (by decide), if_pos (by decide)]

/-- The digits of a normal number. -/
def gM (r : Nat) : Nat := 4503599627370496 + r % 4503599627370496
theorem gM_bl (r : Nat) : bl (gM r) = 53 := by
  refine bl_of (by decide) ?_ ?_
  · rw [show (2 : Nat) ^ (53 - 1) = 4503599627370496 by decide]
    unfold gM; omega
  · rw [show (2 : Nat) ^ 53 = 9007199254740992 by decide]
    unfold gM; omega
theorem gM_ne (r : Nat) : gM r ≠ 0 := by unfold gM; omega
theorem gM_rv (r : Nat) (h : 4503599627370496 ≤ r) : rv r = gM r * 2 ^ (r / 4503599627370496 - 1) := by
  have e : r = gM r + (r / 4503599627370496 - 1) * 4503599627370496 := by unfold gM; omega
  have := rv_of (gM r) (r / 4503599627370496 - 1) (by unfold gM; omega) (fun _ => by unfold gM; omega)
  rwa [← e] at this

/-- A normal number times 2^n, e being where its first digit comes to stand. -/
theorem scale_normal (r : Nat) (n e : Int) (h : 4503599627370496 ≤ r) (he : e = n + (r / 4503599627370496 : Nat) - 1023) :
    rnd (rv r) (n - 1074) = rnd (gM r) (e - 52) := by
  rw [gM_rv r h, rnd_scale]
  congr 1
  omega
theorem scale_mid (r : Nat) (e : Int) (h1 : -1022 ≤ e) (h2 : e ≤ 1023) : rnd (gM r) (e - 52) = r % 4503599627370496 + (e + 1023).toNat * 4503599627370496 := by
  have hb := gM_bl r
  have hl : lastE (gM r) (e - 52) = e - 52 := by unfold lastE; rw [hb]; omega
  rw [rnd_fin _ _ (gM_ne r) (by rw [hb]; omega), hl]
  have hM : rndM (gM r) (e - 52) = gM r := by
    unfold rndM
    rw [hl, show e - 52 - (e - 52) = ((0 : Nat) : Int) by omega, mS_up, Nat.pow_zero, Nat.mul_one]
  rw [hM, show (e - 52 + 1074).toNat = (e + 1023).toNat - 1 by omega]
  have : 1 ≤ (e + 1023).toNat := by omega
  unfold gM
  omega
theorem scale_high (r : Nat) (e : Int) (h : 1023 < e) : rnd (gM r) (e - 52) = 9218868437227405312 := (rnd_high (gM_ne r) (by rw [gM_bl]; omega)).1
theorem scale_low (r : Nat) (e : Int) (h : e < -1075) : rnd (gM r) (e - 52) = 0 := (rnd_low (gM_ne r) (by rw [gM_bl]; omega)).1

theorem pow_join (i j k : Nat) (h : i + j = k) : (2 : Nat) ^ i * 2 ^ j = 2 ^ k := by rw [← Nat.pow_add, h]
theorem rnd_scale2 (v x y : Nat) (E F : Int) (h : E + x + y = F) : rnd (v * 2 ^ x * 2 ^ y) E = rnd v F := by
  rw [Nat.mul_assoc, ← Nat.pow_add, rnd_scale]
  congr 1
  omega
theorem rnd_scale1 (v x : Nat) (E F : Int) (h : E + x = F) : rnd (v * 2 ^ x) E = rnd v F := by rw [rnd_scale, h]

/-- Below the least normal number: 53 digits higher, and times 2^-53. -/
theorem scale_sub (s : Bool) (r : Nat) (e : Int) (h1 : -1075 ≤ e) (h2 : e < -1022) :
    mV (wrd s (r % 4503599627370496 + (e + 53 + 1023).toNat * 4503599627370496)) 4368491638549381120 = wrd s (rnd (gM r) (e - 52)) := by
  obtain ⟨q, hq⟩ : ∃ q, q = r % 4503599627370496 + (e + 53 + 1023).toNat * 4503599627370496 := ⟨_, rfl⟩
  rw [← hq]
  have hq1 : 4503599627370496 ≤ q := by omega
  have hq2 : q < 9218868437227405312 := by omega
  have hm : gM q = gM r := by unfold gM; omega
  have hd : q / 4503599627370496 - 1 = (e + 1075).toNat := by omega
  have fR1 := fR_wrd s q (by omega)
  have f1 : fFin (wrd s q) = true := (fK_rungs _).2.2.2 (by rw [fR1]; exact hq2)
  have k1 : fK (wrd s q) ≠ 0 := fun h => by
    have := (fK_zero _).1 h
    rw [fR1] at this
    omega
  have fR2 : fR 4368491638549381120 = 4368491638549381120 := by decide
  have f2 : fFin 4368491638549381120 = true := by decide
  have k2 : fK 4368491638549381120 ≠ 0 := by decide
  have s2 : fS 4368491638549381120 = false := by decide
  obtain ⟨K, hK⟩ : ∃ K : Nat, K = 1021 := ⟨_, rfl⟩
  have r2 : rv 4368491638549381120 = 2 ^ K := by
    have := gM_rv 4368491638549381120 (by decide)
    rw [this, show gM 4368491638549381120 = 2 ^ 52 by decide, show 4368491638549381120 / 4503599627370496 - 1 = 969 by decide]
    exact pow_join 52 969 K (by omega)
  rw [(mV_fin _ _ f1 f2 k1 k2).1, fR1, fR2, r2, gM_rv q hq1, hm, hd, fS_wrd s q (by omega), s2, Bool.xor_false, rnd_scale2 _ _ _ _ (e - 52) (by omega)]

/-- A number below the least normal one, times 2^52: it is normal, and 52 digits higher. -/
theorem scale_up52 (s : Bool) (r : Nat) (h0 : r ≠ 0) (h : r < 4503599627370496) :
    ∃ q, mV (wrd s r) 4841369599423283200 = wrd s q ∧ 4503599627370496 ≤ q ∧ q < 9218868437227405312 ∧ ∀ n : Int, rnd (rv r) (n - 1074) = rnd (rv q) (n - 52 - 1074) := by
  obtain ⟨b1, b2, b3⟩ := bl_spec r h0
  have hb52 : bl r ≤ 52 := by
    have e52 : (2 : Nat) ^ 52 = 4503599627370496 := by decide
    have := pow_lt_of (Nat.lt_of_le_of_lt b2 (by rw [e52]; exact h))
    omega
  have hrv : rv r = r := by
    have := rv_of r 0 (by omega) (fun h => absurd rfl h)
    simpa using this
  obtain ⟨b, hb⟩ : ∃ b, bl r = b + 1 := ⟨bl r - 1, by omega⟩
  rw [hb] at b2 b3 hb52
  have e1 : (2 : Nat) ^ (b + 1 - 1) * 2 ^ (52 - b) = 4503599627370496 := by rw [← Nat.pow_add, show b + 1 - 1 + (52 - b) = 52 by omega]
  have e2 : (2 : Nat) ^ (b + 1) * 2 ^ (52 - b) = 9007199254740992 := by rw [← Nat.pow_add, show b + 1 + (52 - b) = 53 by omega]
  have hp := Nat.two_pow_pos (52 - b)
  have m1 := Nat.mul_le_mul_right (2 ^ (52 - b)) b2
  have m2 := (Nat.mul_lt_mul_right hp).2 b3
  rw [e1] at m1
  rw [e2] at m2
  obtain ⟨M, hM⟩ : ∃ M, M = r * 2 ^ (52 - b) := ⟨_, rfl⟩
  rw [← hM] at m1 m2
  have hl : lastE r (-1022) = (b : Int) - 1074 := by unfold lastE; rw [hb]; omega
  have hq : rnd r (-1022) = M + b * 4503599627370496 := by
    rw [rnd_fin r _ h0 (by rw [hb]; omega), hl]
    unfold rndM
    rw [hl, show (-1022 : Int) - ((b : Int) - 1074) = ((52 - b : Nat) : Int) by omega, mS_up, ← hM, show ((b : Int) - 1074 + 1074).toNat = b by omega]
  have fR1 := fR_wrd s r (by omega)
  have f1 : fFin (wrd s r) = true := (fK_rungs _).2.2.2 (by rw [fR1]; omega)
  have k1 : fK (wrd s r) ≠ 0 := fun h => h0 (by have := (fK_zero _).1 h; rwa [fR1] at this)
  have fR2 : fR 4841369599423283200 = 4841369599423283200 := by decide
  have f2 : fFin 4841369599423283200 = true := by decide
  have k2 : fK 4841369599423283200 ≠ 0 := by decide
  have s2 : fS 4841369599423283200 = false := by decide
  obtain ⟨K, hK⟩ : ∃ K : Nat, K = 1126 := ⟨_, rfl⟩
  have r2 : rv 4841369599423283200 = 2 ^ K := by
    have := gM_rv 4841369599423283200 (by decide)
    rw [this, show gM 4841369599423283200 = 2 ^ 52 by decide, show 4841369599423283200 / 4503599627370496 - 1 = 1074 by decide]
    exact pow_join 52 1074 K (by omega)
  refine ⟨M + b * 4503599627370496, ?_, by omega, by omega, fun n => ?_⟩
  · rw [(mV_fin _ _ f1 f2 k1 k2).1, fR1, fR2, r2, hrv, fS_wrd s r (by omega), s2, Bool.xor_false, rnd_scale1 _ _ _ (-1022) (by omega), hq]
  · have hrq : rv (M + b * 4503599627370496) = M * 2 ^ b := rv_of M b (by omega) (fun _ => m1)
    rw [hrq, hrv, hM]
    exact (rnd_scale2 r (52 - b) b _ _ (by omega)).symm

end Go.Proofs.YtfnnbkclnflpfaaGreatDoor

/- Long division: the program's, a digit a step, and the reference's; both are the quotient. -/
namespace Go.Proofs.YtfnnbkclnflpfaaGreatDoor
open Go.RowKit
/-- What the program divides: the odd parts with their first digit at 2^52. -/
def dS (b : Nat) : Nat := (fD b).natAbs * 2 ^ (53 - bl (fD b).natAbs)
theorem dS_facts (b : Nat) (hb : b < 18446744073709551616) (hf : fFin b = true) (h0 : fK b ≠ 0) :
    bl (fD b).natAbs ≤ 53 ∧ 1 ≤ bl (fD b).natAbs ∧ 4503599627370496 ≤ dS b ∧ dS b < 9007199254740992 ∧ -1074 ≤ fX b ∧ fX b ≤ 1024 ∧ (fD b).natAbs % 2 = 1 ∧ (fD b).natAbs < 9007199254740992 := by
  obtain ⟨β, x1, x2, x3, x4⟩ := odd_mag b hb hf h0
  have hne : (fD b).natAbs ≠ 0 := by omega
  obtain ⟨b1, b2, b3⟩ := bl_spec _ hne
  have hbl : bl (fD b).natAbs ≤ 53 := by
    have : (2 : Nat) ^ (bl (fD b).natAbs - 1) < 2 ^ 53 := by rw [p53]; omega
    have := pow_lt_of this
    omega
  have hs := bl_scale (fD b).natAbs (53 - bl (fD b).natAbs) hne
  have hs' : bl (dS b) = 53 := by unfold dS; rw [hs]; omega
  have hd0 : dS b ≠ 0 := by
    unfold dS
    exact Nat.mul_ne_zero hne (Nat.pos_iff_ne_zero.1 (Nat.two_pow_pos _))
  obtain ⟨c1, c2, c3⟩ := bl_spec _ hd0
  rw [hs'] at c2 c3
  have hz := fZ_lt b hf
  rw [fZ_abs, x2] at hz
  have hβ : β < 2098 := by
    have h1 : 2 ^ β ≤ (fD b).natAbs * 2 ^ β := Nat.le_mul_of_pos_left _ (by omega)
    exact pow_lt_of (Nat.lt_of_le_of_lt h1 hz)
  refine ⟨hbl, b1, ?_, ?_, by omega, by omega, x3, x4⟩
  · exact c2
  · rw [p53] at c3; exact c3

end Go.Proofs.YtfnnbkclnflpfaaGreatDoor

/- Contracts of package compare: scaleFinite, Scale. -/
namespace Go.Proofs.YtfnnbkclnflpfaaGreatDoor
open Go.RowKit

theorem fZ_neg8 (b : Nat) (h0 : fK b ≠ 0) : fZ b ≠ 0 ∧ decide (fZ b < 0) = fS b := by
  have hr : fR b ≠ 0 := fun e => h0 ((fK_zero b).2 e)
  have hp : 0 < rv (fR b) := rv_pos (by omega)
  unfold fZ pv
  cases fS b
  · simp only [Bool.false_eq_true, if_false]
    exact ⟨by omega, decide_eq_false (by omega)⟩
  · simp only [if_true]
    exact ⟨by omega, decide_eq_true (by omega)⟩

/-- What is known of a finite number that is no nought. -/
theorem sc_facts (a : Nat) (ha : a < 18446744073709551616) (fa : fFin a = true) (a0 : fK a ≠ 0) :
    fD a % 2 = 1 ∧ (fD a).natAbs < 9007199254740992 ∧ (fD a).natAbs ≠ 0 ∧ decide (fD a < 0) = fS a ∧ -1074 ≤ fX a ∧ fX a ≤ 1024 ∧ 1 ≤ bl (fD a).natAbs ∧ (bl (fD a).natAbs : Int) + fX a ≤ 1024 ∧ rnd (rv (fR a)) (-1074) = rnd (fD a).natAbs (fX a) := by
  obtain ⟨β, x1, x2, x3, x4⟩ := odd_mag a ha fa a0
  obtain ⟨y1, y2, y3, y4, y5, y6, y7, y8⟩ := dS_facts a ha fa a0
  obtain ⟨d1, d2⟩ := fZ_level a ha fa
  obtain ⟨n1, n2⟩ := fZ_neg8 a a0
  have hne : (fD a).natAbs ≠ 0 := by omega
  have hb : bl (rv (fR a)) = bl (fD a).natAbs + β := by rw [x2]; exact bl_scale _ _ hne
  have hlt := fZ_lt a fa
  rw [fZ_abs] at hlt
  have hne2 : rv (fR a) ≠ 0 := by rw [← fZ_abs]; omega
  have hb2 : bl (rv (fR a)) ≤ 2098 := by
    obtain ⟨b1, b2, b3⟩ := bl_spec _ hne2
    have := pow_lt_of (Nat.lt_of_le_of_lt b2 hlt)
    omega
  refine ⟨by omega, x4, hne, ?_, y5, y6, y2, by omega, ?_⟩
  · rw [← d1, oM_sign]; exact n2
  · rw [x2, x1, rnd_scale]

/-- A number times 2^n: its bits, its flags. -/
def xV (a : Nat) (n : Int) : Nat := if fK a = 4 then 9221120237041090560 else if fK a = 3 ∨ fK a = 0 then a else wrd (fS a) (rnd (fD a).natAbs (fX a + n))
theorem xV_lt (a : Nat) (n : Int) (ha : a < 18446744073709551616) : xV a n < 18446744073709551616 := by
  unfold xV
  have := rnd_le (fD a).natAbs (fX a + n)
  repeat' split
  · decide
  · exact ha
  · exact wrd_lt _ _ (by omega)
end Go.Proofs.YtfnnbkclnflpfaaGreatDoor

/- Contracts of package compare: Int, Trunc, Exp. -/
namespace Go.Proofs.YtfnnbkclnflpfaaGreatDoor
open Go.RowKit
/-- The greatest power of two that is at most a number. -/
def eX (a : Nat) : Int := if fK a = 4 ∨ fK a = 3 ∨ fK a = 0 then 0 else (bl (fD a).natAbs : Int) + fX a - 1

end Go.Proofs.YtfnnbkclnflpfaaGreatDoor

/- Contract of the reference's Nearest, where digits are dropped: the walk. -/
namespace Go.Proofs.YtfnnbkclnflpfaaGreatDoor
open Go.RowKit

theorem at_thenB {K : Act → World → Prop} {Q : Exit → Act → World → Prop} {a : Act} {w : World} (F : World → Prop) (h : F w) (k : ∀ W, F W → Exit.then K Q .normal a W) : Exit.then K Q .normal a w := k w h

end Go.Proofs.YtfnnbkclnflpfaaGreatDoor

