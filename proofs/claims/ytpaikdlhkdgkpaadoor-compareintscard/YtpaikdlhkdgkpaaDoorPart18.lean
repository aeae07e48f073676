/- Part 18 of the texts. -/
import Derived.Test.YtpaikdlhkdgkpaaDoorPart17
import Derived.Test.YtpaikdlhkdgkpaaDoorPart16
import Derived.Test.YtpaikdlhkdgkpaaDoorPart15
/- Products and quotients of binary64: what they are, and that the model's own are these. -/
namespace Go.Proofs.YtpaikdlhkdgkpaaDoor
open Go.RowKit

theorem rv_eq0 (r : Nat) : rv r = 0 ↔ r = 0 := by
  constructor
  · intro h
    rcases Nat.eq_zero_or_pos r with e | e
    · exact e
    · have := rv_lt e; rw [rv_zero] at this; omega
  · intro h; rw [h, rv_zero]
theorem fK_zero (b : Nat) : fK b = 0 ↔ fR b = 0 := by
  have h := fR_lt b
  have hF : fF b = fR b % 4503599627370496 := by unfold fF fR; omega
  have hP : fP b = fR b / 4503599627370496 := rfl
  unfold fK
  rw [hF, hP]
  generalize fR b = r at *
  split
  · split <;> constructor <;> intro _ <;> omega
  · split
    · split <;> constructor <;> intro _ <;> omega
    · constructor <;> intro _ <;> omega

/-- The product, and its flags. -/
def mV (a b : Nat) : Nat :=
  if fK a = 4 ∨ fK b = 4 then 9221120237041090560
  else if fK a = 3 ∨ fK b = 3 then (if fK a = 0 ∨ fK b = 0 then 9221120237041090560 else wrd (fS a ^^ fS b) 9218868437227405312)
  else wrd (fS a ^^ fS b) (rnd (rv (fR a) * rv (fR b)) (-2148))
def mF (a b : Nat) : Int :=
  if fK a = 4 ∨ fK b = 4 then 0
  else if fK a = 3 ∨ fK b = 3 then (if fK a = 0 ∨ fK b = 0 then 16 else 0)
  else if fK a = 0 ∨ fK b = 0 then 0
  else rflag (oM (fZ a * fZ b)).natAbs (oE (fZ a * fZ b) (-2148))
/-- Is the product no number? -/
def mN (a b : Nat) : Bool := decide ((fK a = 4 ∨ fK b = 4) ∨ ((fK a = 3 ∨ fK b = 3) ∧ (fK a = 0 ∨ fK b = 0)))

theorem mV_lt (a b : Nat) : mV a b < 18446744073709551616 := by
  have h := rnd_le (rv (fR a) * rv (fR b)) (-2148)
  unfold mV
  split
  · omega
  · split
    · split
      · omega
      · exact wrd_lt _ _ (by omega)
    · exact wrd_lt _ _ (by omega)

theorem mul_comm6 (a b : Nat) : mV a b = mV b a ∧ mF a b = mF b a := by
  have h1 : (fK a = 4 ∨ fK b = 4) ↔ (fK b = 4 ∨ fK a = 4) := Or.comm
  have h2 : (fK a = 3 ∨ fK b = 3) ↔ (fK b = 3 ∨ fK a = 3) := Or.comm
  have h3 : (fK a = 0 ∨ fK b = 0) ↔ (fK b = 0 ∨ fK a = 0) := Or.comm
  unfold mV mF
  rw [Bool.xor_comm (fS b) (fS a), Nat.mul_comm (rv (fR b)), Int.mul_comm (fZ b)]
  simp only [h1, h2, h3, and_self]

theorem mag_zero {m k r : Nat} (h : m * 2 ^ k = rv r) : m = 0 ↔ r = 0 := by
  have hp : 0 < 2 ^ k := Nat.two_pow_pos _
  rw [← rv_eq0 r, ← h]
  constructor
  · intro e; rw [e, Nat.zero_mul]
  · intro e; rcases Nat.mul_eq_zero.1 e with e | e <;> omega

theorem fmul_none (a b : Nat) (ha : a < 18446744073709551616) (hb : b < 18446744073709551616) (h : mN a b = true) : Ieee.double.mul a b = none ∧ mV a b = 9221120237041090560 := by
  unfold Ieee.Format.mul
  rcases of_decide_eq_true h with (h | h) | ⟨h3, h0⟩
  · obtain ⟨s, f, e⟩ := read_nan a ha h
    refine ⟨by rw [e]; rfl, ?_⟩
    unfold mV; rw [if_pos (Or.inl h)]
  · obtain ⟨s, f, e⟩ := read_nan b hb h
    refine ⟨?_, ?_⟩
    · rw [e]; cases Ieee.double.read a <;> rfl
    · unfold mV; rw [if_pos (Or.inr h)]
  · refine ⟨?_, ?_⟩
    · rcases h3 with h3 | h3
      · have hb0 : fK b = 0 := by rcases h0 with h | h <;> omega
        obtain ⟨m, k, e, em⟩ := read_fin b hb (fin_of b (by omega) (by omega))
        have : m = 0 := (mag_zero em).2 ((fK_zero b).1 hb0)
        rw [read_inf a ha h3, e, this]; rfl
      · have ha0 : fK a = 0 := by rcases h0 with h | h <;> omega
        obtain ⟨m, k, e, em⟩ := read_fin a ha (fin_of a (by omega) (by omega))
        have : m = 0 := (mag_zero em).2 ((fK_zero a).1 ha0)
        rw [read_inf b hb h3, e, this]; rfl
    · unfold mV
      by_cases h4 : fK a = 4 ∨ fK b = 4
      · rw [if_pos h4]
      · rw [if_neg h4, if_pos h3, if_pos h0]

theorem fmul_some (a b : Nat) (ha : a < 18446744073709551616) (hb : b < 18446744073709551616) (h : mN a b = false) : Ieee.double.mul a b = some (mV a b) := by
  have h' := of_decide_eq_false h
  have n4 : ¬ (fK a = 4 ∨ fK b = 4) := fun e => h' (Or.inl e)
  have n3 : (fK a = 3 ∨ fK b = 3) → ¬ (fK a = 0 ∨ fK b = 0) := fun e e2 => h' (Or.inr ⟨e, e2⟩)
  unfold Ieee.Format.mul mV
  rw [if_neg n4]
  by_cases c1 : fK a = 3
  · rw [if_pos (Or.inl c1), if_neg (n3 (Or.inl c1)), read_inf a ha c1]
    by_cases c2 : fK b = 3
    · rw [read_inf b hb c2]
      show some (Ieee.double.write (.infinity (fS a ^^ fS b))) = _
      rw [write_inf]
    · obtain ⟨m, k, e, em⟩ := read_fin b hb (fin_of b c2 (by omega))
      have hm : m ≠ 0 := fun e0 => n3 (Or.inl c1) (Or.inr ((fK_zero b).2 ((mag_zero em).1 e0)))
      rw [e]
      show Option.map Ieee.double.write (if m = 0 then none else some (.infinity (fS a ^^ fS b))) = _
      rw [if_neg hm, Option.map_some, write_inf]
  · obtain ⟨m, k, e, em⟩ := read_fin a ha (fin_of a c1 (by omega))
    rw [e]
    by_cases c2 : fK b = 3
    · have hm : m ≠ 0 := fun e0 => n3 (Or.inr c2) (Or.inl ((fK_zero a).2 ((mag_zero em).1 e0)))
      rw [if_pos (Or.inr c2), if_neg (n3 (Or.inr c2)), read_inf b hb c2]
      show Option.map Ieee.double.write (if m = 0 then none else some (.infinity (fS b ^^ fS a))) = _
      rw [if_neg hm, Option.map_some, write_inf, Bool.xor_comm]
    · obtain ⟨m2, k2, e2, em2⟩ := read_fin b hb (fin_of b c2 (by omega))
      rw [if_neg (by omega), e2]
      show some (Ieee.double.nearest (fS a ^^ fS b) (m * m2) (-1074 + (k : Int) + (-1074 + (k2 : Int)))) = _
      rw [nearest_wrd]
      congr 2
      rw [← em, ← em2, show m * 2 ^ k * (m2 * 2 ^ k2) = m * m2 * 2 ^ (k + k2) by rw [Nat.pow_add]; ac_rfl, rnd_scale]
      congr 1
      omega

/-- The quotient's odd parts, and where they stand. -/
theorem odd_mag (b : Nat) (hb : b < 18446744073709551616) (hf : fFin b = true) (h0 : fK b ≠ 0) :
    ∃ β : Nat, fX b = -1074 + (β : Int) ∧ rv (fR b) = (fD b).natAbs * 2 ^ β ∧ (fD b).natAbs % 2 = 1 ∧ (fD b).natAbs < 9007199254740992 := by
  obtain ⟨d1, d2⟩ := fZ_level b hb hf
  have hr : fR b ≠ 0 := fun e => h0 ((fK_zero b).2 e)
  have hz : fZ b ≠ 0 := fun e => hr ((rv_eq0 _).1 (by rw [← fZ_abs, e]; rfl))
  have h1 := oM_abs (fZ b) hz
  have h2 := oE_ne (fZ b) (-1074) hz
  refine ⟨tz (fZ b).natAbs, by rw [← d2, h2], by rw [← fZ_abs, h1, d1]; congr 2; rw [← d1, ← h1], ?_, ?_⟩
  · have := (oM_ne (fZ b) hz).2
    rw [d1] at this
    omega
  · have : (oM (fM b)).natAbs ≤ (fM b).natAbs := oM_le _
    have h3 := fM_lt b
    show (oM (fM b)).natAbs < _
    omega

/-- The quotient of two finite numbers that are not 0, rounded; its flags. -/
def qS (a b : Nat) : Nat := stk ((fD a).natAbs * 2 ^ 180) (fD b).natAbs
def qV (a b : Nat) : Nat := rnd (qS a b) (fX a - fX b - 181)
def qF (a b : Nat) : Int := rflag (oM (qS a b : Nat)).natAbs (oE (qS a b : Nat) (fX a - fX b - 181))
def dV (a b : Nat) : Nat :=
  if fK a = 4 ∨ fK b = 4 then 9221120237041090560
  else if fK a = fK b ∧ (fK a = 3 ∨ fK a = 0) then 9221120237041090560
  else if fK a = 3 then wrd (fS a ^^ fS b) 9218868437227405312
  else if fK b = 3 ∨ fK a = 0 then wrd (fS a ^^ fS b) 0
  else if fK b = 0 then wrd (fS a ^^ fS b) 9218868437227405312
  else wrd (fS a ^^ fS b) (qV a b)
def dF (a b : Nat) : Int :=
  if fK a = 4 ∨ fK b = 4 then 0
  else if fK a = fK b ∧ (fK a = 3 ∨ fK a = 0) then 16
  else if fK a = 3 then 0
  else if fK b = 3 ∨ fK a = 0 then 0
  else if fK b = 0 then 8
  else qF a b
/-- Is the quotient no number? -/
def dN (a b : Nat) : Bool := decide ((fK a = 4 ∨ fK b = 4) ∨ (fK a = fK b ∧ (fK a = 3 ∨ fK a = 0)))

theorem dV_lt (a b : Nat) : dV a b < 18446744073709551616 := by
  have h : qV a b ≤ 9218868437227405312 := rnd_le _ _
  have i1 := wrd_lt (fS a ^^ fS b) 9218868437227405312 (by decide)
  have i2 := wrd_lt (fS a ^^ fS b) 0 (by decide)
  have i3 := wrd_lt (fS a ^^ fS b) (qV a b) (by omega)
  unfold dV
  repeat' split
  all_goals omega

theorem quo_big (o d : Nat) (ho : 1 ≤ o) (hd : d < 9007199254740992) (hd0 : 0 < d) : 9007199254740992 ≤ o * 2 ^ 180 / d := by
  rw [Nat.le_div_iff_mul_le hd0]
  have h1 : 9007199254740992 * d ≤ 9007199254740992 * 9007199254740992 := Nat.mul_le_mul_left _ (by omega)
  have h2 : 9007199254740992 * 9007199254740992 ≤ 1 * 2 ^ 180 := by decide +kernel
  have h3 : 1 * 2 ^ 180 ≤ o * 2 ^ 180 := Nat.mul_le_mul_right _ ho
  exact Nat.le_trans h1 (Nat.le_trans h2 h3)

/-- Any magnitudes, any number of digits that is enough. -/
theorem quo_any (a b : Nat) (ha : a < 18446744073709551616) (hb : b < 18446744073709551616) (fa : fFin a = true) (fb : fFin b = true) (a0 : fK a ≠ 0) (b0 : fK b ≠ 0)
    (m k n j p : Nat) (hm : m * 2 ^ k = rv (fR a)) (hn : n * 2 ^ j = rv (fR b)) (hn0 : 0 < n) (hq : 9007199254740992 ≤ m * 2 ^ p / n) :
    rnd (stk (m * 2 ^ p) n) ((k : Int) - j - p - 1) = qV a b := by
  obtain ⟨α, x1, x2, x3, x4⟩ := odd_mag a ha fa a0
  obtain ⟨β, y1, y2, y3, y4⟩ := odd_mag b hb fb b0
  unfold qV qS
  rw [x1, y1, show -1074 + (α : Int) - (-1074 + (β : Int)) - 181 = ((α : Int) - β - 1) - (180 : Nat) by omega]
  have hbig := quo_big (fD a).natAbs (fD b).natAbs (by omega) y4 (by omega)
  generalize (fD a).natAbs = oa at *
  generalize (fD b).natAbs = ob at *
  have hp : ∀ i : Nat, 0 < 2 ^ i := fun i => Nat.two_pow_pos i
  -- more digits, then both sides times a power
  obtain ⟨s1, _, _, _⟩ := stk_step (m * 2 ^ p) n (k + β) ((k : Int) - j - p - 1) hn0 hq
  have e1 : m * 2 ^ p * 2 ^ (k + β) * 2 ^ j = oa * 2 ^ (α + p + j) * 2 ^ β := by
    rw [Nat.pow_add, show m * 2 ^ p * (2 ^ k * 2 ^ β) * 2 ^ j = (m * 2 ^ k) * (2 ^ p * 2 ^ β * 2 ^ j) by ac_rfl, hm, x2, Nat.pow_add, Nat.pow_add]
    ac_rfl
  have e2 : n * 2 ^ j = ob * 2 ^ β := by rw [hn, y2]
  have e3 : stk (m * 2 ^ p * 2 ^ (k + β)) n = stk (oa * 2 ^ (α + p + j)) ob := by
    rw [← stk_both _ n j, e1, e2, stk_both]
  rw [e3] at s1
  rw [← s1]
  have hb2 : 9007199254740992 ≤ oa * 2 ^ (α + p + j) / ob := by
    have d1 : oa * 2 ^ (α + p + j) / ob = m * 2 ^ p * 2 ^ (k + β) / n := by
      rw [← Nat.mul_div_mul_right _ ob (hp β), ← e1, ← e2, Nat.mul_div_mul_right _ n (hp j)]
    rw [d1]
    refine Nat.le_trans hq (Nat.div_le_div_right ?_)
    exact Nat.le_mul_of_pos_right _ (hp _)
  have := stk_any oa ob (α + p + j) 180 ((α : Int) - β - 1) (by omega) hb2 hbig
  rw [← this]
  congr 1
  omega

theorem fdiv_none (a b : Nat) (ha : a < 18446744073709551616) (hb : b < 18446744073709551616) (h : dN a b = true) : Ieee.double.div a b = none ∧ dV a b = 9221120237041090560 := by
  unfold Ieee.Format.div
  rcases of_decide_eq_true h with (h | h) | ⟨h1, h3⟩
  · obtain ⟨s, f, e⟩ := read_nan a ha h
    refine ⟨by rw [e]; rfl, ?_⟩
    unfold dV; rw [if_pos (Or.inl h)]
  · obtain ⟨s, f, e⟩ := read_nan b hb h
    refine ⟨?_, ?_⟩
    · rw [e]; cases Ieee.double.read a <;> rfl
    · unfold dV; rw [if_pos (Or.inr h)]
  · refine ⟨?_, ?_⟩
    · rcases h3 with h3 | h3
      · rw [read_inf a ha h3, read_inf b hb (by omega)]; rfl
      · obtain ⟨m, k, e, em⟩ := read_fin a ha (fin_of a (by omega) (by omega))
        obtain ⟨n, j, e2, en⟩ := read_fin b hb (fin_of b (by omega) (by omega))
        have hm : m = 0 := (mag_zero em).2 ((fK_zero a).1 h3)
        have hn : n = 0 := (mag_zero en).2 ((fK_zero b).1 (by omega))
        rw [e, e2, hm, hn]; rfl
    · unfold dV
      by_cases h4 : fK a = 4 ∨ fK b = 4
      · rw [if_pos h4]
      · rw [if_neg h4, if_pos ⟨h1, h3⟩]

theorem fdiv_some (a b : Nat) (ha : a < 18446744073709551616) (hb : b < 18446744073709551616) (h : dN a b = false) : Ieee.double.div a b = some (dV a b) := by
  have h' := of_decide_eq_false h
  have n4 : ¬ (fK a = 4 ∨ fK b = 4) := fun e => h' (Or.inl e)
  have nn : ¬ (fK a = fK b ∧ (fK a = 3 ∨ fK a = 0)) := fun e => h' (Or.inr e)
  unfold Ieee.Format.div dV
  rw [if_neg n4, if_neg nn]
  by_cases c1 : fK a = 3
  · obtain ⟨n, j, e2, en⟩ := read_fin b hb (fin_of b (fun e => nn ⟨by omega, Or.inl c1⟩) (by omega))
    rw [if_pos c1, read_inf a ha c1, e2]
    show some (Ieee.double.write (.infinity (fS a ^^ fS b))) = _
    rw [write_inf]
  · obtain ⟨m, k, e, em⟩ := read_fin a ha (fin_of a c1 (by omega))
    rw [if_neg c1, e]
    by_cases c2 : fK b = 3
    · rw [if_pos (Or.inl c2), read_inf b hb c2]
      show some (Ieee.double.nearest (fS a ^^ fS b) 0 0) = _
      rw [nearest_wrd, rnd_0]
    · obtain ⟨n, j, e2, en⟩ := read_fin b hb (fin_of b c2 (by omega))
      rw [e2]
      show Option.map Ieee.double.write (if n = 0 then if m = 0 then none else some (.infinity (fS a ^^ fS b)) else some (.number (fS a ^^ fS b) (2 * (m <<< (54 + n.log2 - m.log2) / n) + (m <<< (54 + n.log2 - m.log2) % n != 0).toNat) (-1074 + (k : Int) - (-1074 + (j : Int)) - ((54 + n.log2 - m.log2 : Nat) : Int) - 1))) = _
      by_cases c3 : fK a = 0
      · have hm : m = 0 := (mag_zero em).2 ((fK_zero a).1 c3)
        have hn : n ≠ 0 := fun e0 => nn ⟨by rw [c3, (fK_zero b).2 ((mag_zero en).1 e0)], Or.inr c3⟩
        rw [if_pos (Or.inr c3), if_neg hn, hm, Nat.zero_shiftLeft, Nat.zero_div, Nat.zero_mod]
        show some (Ieee.double.nearest (fS a ^^ fS b) 0 _) = _
        rw [nearest_wrd, rnd_0]
      · have hm : m ≠ 0 := fun e0 => c3 ((fK_zero a).2 ((mag_zero em).1 e0))
        have n34 : ¬ (fK b = 3 ∨ fK a = 0) := by omega
        rw [if_neg n34]
        by_cases c4 : fK b = 0
        · have hn : n = 0 := (mag_zero en).2 ((fK_zero b).1 c4)
          rw [if_pos c4, if_pos hn, if_neg hm, Option.map_some, write_inf]
        · have hn : n ≠ 0 := fun e0 => c4 ((fK_zero b).2 ((mag_zero en).1 e0))
          rw [if_neg c4, if_neg hn]
          have hst : 2 * (m <<< (54 + n.log2 - m.log2) / n) + (m <<< (54 + n.log2 - m.log2) % n != 0).toNat = stk (m * 2 ^ (54 + n.log2 - m.log2)) n := by
            rw [Nat.shiftLeft_eq]
            unfold stk
            congr 1
            split
            · rename_i h0; rw [h0]; rfl
            · rename_i h0; simp [h0]
          rw [hst]
          show some (Ieee.double.nearest (fS a ^^ fS b) (stk (m * 2 ^ (54 + n.log2 - m.log2)) n) _) = _
          rw [nearest_wrd]
          have b1 := bl_spec m hm
          have b2 := bl_spec n hn
          have l1 : bl m = m.log2 + 1 := by unfold bl; rw [if_neg hm]
          have l2 : bl n = n.log2 + 1 := by unfold bl; rw [if_neg hn]
          rw [l1, show m.log2 + 1 - 1 = m.log2 by omega] at b1
          rw [l2] at b2
          have hq : 9007199254740992 ≤ m * 2 ^ (54 + n.log2 - m.log2) / n := by
            rw [Nat.le_div_iff_mul_le (by omega)]
            have h1 : 9007199254740992 * n ≤ 2 ^ 53 * 2 ^ (n.log2 + 1) := by rw [p53]; exact Nat.mul_le_mul_left _ (by omega)
            have h2 : (2 : Nat) ^ 53 * 2 ^ (n.log2 + 1) ≤ 2 ^ m.log2 * 2 ^ (54 + n.log2 - m.log2) := by
              rw [← Nat.pow_add, ← Nat.pow_add]; exact pow_le2 (by omega)
            have h3 : 2 ^ m.log2 * 2 ^ (54 + n.log2 - m.log2) ≤ m * 2 ^ (54 + n.log2 - m.log2) := Nat.mul_le_mul_right _ b1.2.1
            omega
          have := quo_any a b ha hb (fin_of a c1 (by omega)) (fin_of b c2 (by omega)) c3 c4 m k n j (54 + n.log2 - m.log2) em en (by omega) hq
          rw [← this]
          congr 3
          omega

end Go.Proofs.YtpaikdlhkdgkpaaDoor

/- A number by itself, by One, times and by a power of two. -/
namespace Go.Proofs.YtpaikdlhkdgkpaaDoor
open Go.RowKit

theorem rnd_D (b : Nat) (hf : fFin b = true) : rnd (fD b).natAbs (fX b) = fR b := by
  have hr := rnd_bits b hf
  have ho := rnd_odd (fM b) (fE b)
  rw [fM_abs] at ho
  exact ho.1.trans hr.1
theorem rnd_rv (b : Nat) (hb : b < 18446744073709551616) (hf : fFin b = true) : rnd (rv (fR b)) (-1074) = fR b := by
  obtain ⟨d1, d2⟩ := fZ_level b hb hf
  have h := (rnd_odd (fZ b) (-1074)).1
  rw [d1, d2, fZ_abs, rnd_D b hf] at h
  exact h.symm
theorem rflag_D (b : Nat) (hb : b < 18446744073709551616) (hf : fFin b = true) : rflag (fD b).natAbs (fX b) = 0 := (back_facts b hb hf).2.1

theorem stk_one (o : Nat) : stk (o * 2 ^ 180) 1 = o * 2 ^ 181 := by
  obtain ⟨K, hK⟩ : ∃ K : Nat, K = 180 := ⟨_, rfl⟩
  rw [show (181 : Nat) = K + 1 by omega, ← hK, Nat.pow_succ]
  unfold stk
  rw [Nat.mod_one, if_pos rfl, Nat.div_one, Nat.add_zero]
  ac_rfl
theorem odd_nat {o : Nat} (h : o % 2 = 1) (e : Int) : oM (o : Int) = o ∧ oE (o : Int) e = e := by
  have hne : (o : Int) ≠ 0 := by omega
  have a := (oddOf (o : Int) hne).unique (m' := (o : Int)) (k' := 0) ⟨by simp, by omega⟩
  exact ⟨a.1, by rw [oE_ne _ _ hne, a.2]; simp⟩

/-- By a number whose odd part is 1. -/
theorem quo_one (a b : Nat) (ha : a < 18446744073709551616) (fa : fFin a = true) (a0 : fK a ≠ 0) (h1 : (fD b).natAbs = 1) (r : Nat) (X : Int) (hX : fX a - fX b = X) (hr : rnd (fD a).natAbs X = r) (hfl : rflag (fD a).natAbs X = 0) : qV a b = r ∧ qF a b = 0 := by
  obtain ⟨_, _, _, o3, _⟩ := odd_mag a ha fa a0
  unfold qV qF qS
  rw [h1, stk_one, hX]
  generalize (fD a).natAbs = o at *
  obtain ⟨K, hK⟩ : ∃ K : Nat, K = 181 := ⟨_, rfl⟩
  rw [← hK, show X - (181 : Int) = X - K by omega]
  have e : ((o * 2 ^ K : Nat) : Int) = (o : Int) * 2 ^ K := by rw [Int.natCast_mul, Int.natCast_pow]; rfl
  have s := oM_scale (o : Int) K (X - K)
  rw [show X - (K : Int) + K = X by omega, (odd_nat o3 X).1, (odd_nat o3 X).2] at s
  refine ⟨?_, ?_⟩
  · rw [rnd_scale, show X - (K : Int) + K = X by omega]; exact hr
  · rw [e, s.1, s.2, Int.natAbs_natCast]; exact hfl

theorem one_facts : fFin 4607182418800017408 = true ∧ fD 4607182418800017408 = 1 ∧ fX 4607182418800017408 = 0 ∧ fK 4607182418800017408 = 2 ∧ fS 4607182418800017408 = false ∧ fZ 4607182418800017408 = 2 ^ 1074 := by decide +kernel

theorem kind_pos (a : Nat) (fa : fFin a = true) (a0 : fK a ≠ 0) : fK a ≠ 3 ∧ fK a ≠ 4 ∧ fK a ≠ 0 := ⟨(fin_kind fa).1, (fin_kind fa).2, a0⟩

theorem dV_fin (a b : Nat) (fa : fFin a = true) (fb : fFin b = true) (a0 : fK a ≠ 0) (b0 : fK b ≠ 0) : dV a b = wrd (fS a ^^ fS b) (qV a b) ∧ dF a b = qF a b := by
  obtain ⟨a3, a4, _⟩ := kind_pos a fa a0
  obtain ⟨b3, b4, _⟩ := kind_pos b fb b0
  have h1 : ¬ (fK a = 4 ∨ fK b = 4) := by omega
  have h2 : ¬ (fK a = fK b ∧ (fK a = 3 ∨ fK a = 0)) := by omega
  have h3 : ¬ (fK b = 3 ∨ fK a = 0) := by omega
  unfold dV dF
  simp only [if_neg h1, if_neg h2, if_neg a3, if_neg h3, if_neg b0, and_self]
theorem mV_fin (a b : Nat) (fa : fFin a = true) (fb : fFin b = true) (a0 : fK a ≠ 0) (b0 : fK b ≠ 0) : mV a b = wrd (fS a ^^ fS b) (rnd (rv (fR a) * rv (fR b)) (-2148)) ∧ mF a b = rflag (oM (fZ a * fZ b)).natAbs (oE (fZ a * fZ b) (-2148)) := by
  obtain ⟨a3, a4, _⟩ := kind_pos a fa a0
  obtain ⟨b3, b4, _⟩ := kind_pos b fb b0
  have h1 : ¬ (fK a = 4 ∨ fK b = 4) := by omega
  have h2 : ¬ (fK a = 3 ∨ fK b = 3) := by omega
  have h3 : ¬ (fK a = 0 ∨ fK b = 0) := by omega
  unfold mV mF
  simp only [if_neg h1, if_neg h2, if_neg h3, and_self]

theorem self_zero : rnd (2 * 2 ^ 180) (-181) = 4607182418800017408 ∧ rflag (oM (2 * 2 ^ 180 : Nat)).natAbs (oE (2 * 2 ^ 180 : Nat) (-181)) = 0 := by decide +kernel

theorem div_self6 (a : Nat) (ha : a < 18446744073709551616) (fa : fFin a = true) (a0 : fK a ≠ 0) : dV a a = 4607182418800017408 ∧ dF a a = 0 := by
  obtain ⟨e1, e2⟩ := dV_fin a a fa fa a0 a0
  obtain ⟨_, _, _, o3, _⟩ := odd_mag a ha fa a0
  have hq : qS a a = 2 * 2 ^ 180 := by
    unfold qS stk
    generalize (fD a).natAbs = o at *
    rw [Nat.mul_mod_right, if_pos rfl, Nat.mul_div_cancel_left _ (by omega), Nat.add_zero]
  rw [e1, e2, Bool.xor_self, wrd_false]
  unfold qV qF
  rw [hq, show fX a - fX a - 181 = -181 by omega]
  exact self_zero

theorem div_one6 (a : Nat) (ha : a < 18446744073709551616) (fa : fFin a = true) (a0 : fK a ≠ 0) : dV a 4607182418800017408 = a ∧ dF a 4607182418800017408 = 0 := by
  obtain ⟨f1, f2, f3, f4, f5, f6⟩ := one_facts
  obtain ⟨e1, e2⟩ := dV_fin a 4607182418800017408 fa f1 a0 (by rw [f4]; decide)
  obtain ⟨q1, q2⟩ := quo_one a 4607182418800017408 ha fa a0 (by rw [f2]; rfl) (fR a) (fX a) (by rw [f3]; omega) (rnd_D a fa) (rflag_D a ha fa)
  rw [e1, e2, q1, q2, f5, Bool.xor_false, b_wrd a ha]
  exact ⟨rfl, rfl⟩

/-- A product that is a number, times 2 to the 1074. -/
theorem mul_exact (a b s : Nat) (hs : s < 18446744073709551616) (fa : fFin a = true) (fb : fFin b = true) (fs : fFin s = true) (a0 : fK a ≠ 0) (b0 : fK b ≠ 0) (h : fZ a * fZ b = fZ s * 2 ^ 1074) (hsg : fS s = (fS a ^^ fS b)) : mV a b = s ∧ mF a b = 0 := by
  obtain ⟨e1, e2⟩ := mV_fin a b fa fb a0 b0
  obtain ⟨d1, d2⟩ := fZ_level s hs fs
  obtain ⟨K, hK⟩ : ∃ K : Nat, K = 1074 := ⟨_, rfl⟩
  have h' : fZ a * fZ b = fZ s * 2 ^ K := by rw [hK]; exact h
  have hm : rv (fR a) * rv (fR b) = rv (fR s) * 2 ^ K := by
    rw [← fZ_abs, ← fZ_abs, ← fZ_abs, ← Int.natAbs_mul, h', Int.natAbs_mul, Int.natAbs_pow]; rfl
  have sc := oM_scale (fZ s) K (-2148)
  rw [← h', show (-2148 : Int) + K = -1074 by omega, d1, d2] at sc
  rw [e1, e2, hm, rnd_scale, show (-2148 : Int) + K = -1074 by omega, rnd_rv s hs fs, ← hsg, b_wrd s hs, sc.1, sc.2, rflag_D s hs fs]
  exact ⟨rfl, rfl⟩

theorem mul_one6 (a : Nat) (ha : a < 18446744073709551616) (fa : fFin a = true) (a0 : fK a ≠ 0) : mV a 4607182418800017408 = a ∧ mF a 4607182418800017408 = 0 := by
  obtain ⟨f1, f2, f3, f4, f5, f6⟩ := one_facts
  exact mul_exact a 4607182418800017408 a ha fa f1 fa a0 (by rw [f4]; decide) (by rw [f6]) (by rw [f5, Bool.xor_false])

theorem rv_shift (r k : Nat) (hr : 4503599627370496 ≤ r) : rv (r + k * 4503599627370496) = rv r * 2 ^ k := by
  unfold rv
  rw [if_neg (by omega), if_neg (by omega), Nat.add_mul_mod_self_right, Nat.add_mul_div_right _ _ (by decide), Nat.mul_assoc, ← Nat.pow_add]
  congr 2
  omega

/-- A power of two, and a number times it. -/
theorem power6 (a Q : Nat) (ha : a < 18446744073709551616) (h1 : 700 ≤ fP a) (h2 : fP a ≤ 1300) (q1 : 723 ≤ Q) (q2 : Q ≤ 1323) :
    ∃ s : Nat, s < 18446744073709551616 ∧ mV a (Q * 4503599627370496) = s ∧ mF a (Q * 4503599627370496) = 0 ∧ dV s (Q * 4503599627370496) = a ∧ dF s (Q * 4503599627370496) = 0 ∧ fF s = fF a := by
  have hrl := fR_lt a
  have hP : fP a = fR a / 4503599627370496 := rfl
  have hF : ∀ b, fF b = fR b % 4503599627370496 := fun b => by unfold fF fR; omega
  have fa : fFin a = true := (fK_rungs a).2.2.2 (by omega)
  have a0 : fK a ≠ 0 := fun e => by have := (fK_zero a).1 e; omega
  -- the power
  obtain ⟨p, hp⟩ : ∃ p : Nat, Q * 4503599627370496 = p := ⟨_, rfl⟩
  have pl : p < 9223372036854775808 := by omega
  have pw : wrd false p = p := wrd_false p
  have pS : fS p = false := by rw [← pw]; exact fS_wrd false p pl
  have pR : fR p = p := by unfold fR; omega
  have pf : fFin p = true := (fK_rungs p).2.2.2 (by omega)
  have p0 : fK p ≠ 0 := fun e => by have := (fK_zero p).1 e; omega
  have prv : rv (fR p) = 2 ^ (51 + Q) := by
    rw [pR, ← hp]
    obtain ⟨q, rfl⟩ : ∃ q, Q = q + 1 := ⟨Q - 1, by omega⟩
    rw [show (q + 1) * 4503599627370496 = 4503599627370496 + q * 4503599627370496 by omega, rv_shift _ _ (by omega)]
    have : rv 4503599627370496 = 2 ^ 52 := by decide
    rw [this, ← Nat.pow_add]
    congr 1
    omega
  have pZ : fZ p = ((2 ^ (51 + Q) : Nat) : Int) := by
    unfold fZ pv; rw [pS, if_neg (by decide), prv]
  -- the product
  obtain ⟨t, ht⟩ : ∃ t : Nat, t + 1023 * 4503599627370496 = fR a + Q * 4503599627370496 := ⟨fR a + Q * 4503599627370496 - 1023 * 4503599627370496, by omega⟩
  have tl : t < 9218868437227405312 := by omega
  have tb : 4503599627370496 ≤ t := by omega
  have hrv : rv t * 2 ^ 1023 = rv (fR a) * 2 ^ Q := by
    rw [← rv_shift t 1023 tb, ht, rv_shift _ _ (by omega)]
  obtain ⟨s, hs⟩ : ∃ s : Nat, wrd (fS a) t = s := ⟨_, rfl⟩
  have sl : s < 18446744073709551616 := by rw [← hs]; exact wrd_lt _ _ (by omega)
  have sS : fS s = fS a := by rw [← hs]; exact fS_wrd _ _ (by omega)
  have sR : fR s = t := by rw [← hs]; exact fR_wrd _ _ (by omega)
  have sf : fFin s = true := (fK_rungs s).2.2.2 (by omega)
  have s0 : fK s ≠ 0 := fun e => by have := (fK_zero s).1 e; omega
  obtain ⟨K, hK⟩ : ∃ K : Nat, K = 1023 := ⟨_, rfl⟩
  have hsz : fZ s * 2 ^ K = fZ a * 2 ^ Q := by
    unfold fZ pv
    rw [sS, sR]
    have hI : ((rv t : Nat) : Int) * 2 ^ K = ((rv (fR a) : Nat) : Int) * 2 ^ Q := by
      rw [← hK] at hrv
      have := congrArg (fun n : Nat => (n : Int)) hrv
      simp only [Int.natCast_mul, Int.natCast_pow] at this
      exact this
    split
    · rw [Int.neg_mul, Int.neg_mul, hI]
    · exact hI
  have hz : fZ a * fZ p = fZ s * 2 ^ 1074 := by
    have e1 : ((2 ^ (51 + Q) : Nat) : Int) = 2 ^ Q * 2 ^ 51 := by rw [Int.natCast_pow, Int.pow_add, Int.mul_comm]; rfl
    have e2 : (2 : Int) ^ 1074 = 2 ^ K * 2 ^ 51 := by rw [← Int.pow_add, hK]
    rw [pZ, e1, ← Int.mul_assoc, ← hsz, e2, ← Int.mul_assoc]
  obtain ⟨m1, m2⟩ := mul_exact a p s sl fa pf sf a0 p0 hz (by rw [sS, pS, Bool.xor_false])
  -- and back
  obtain ⟨d1, d2⟩ := fZ_level a ha fa
  obtain ⟨d3, d4⟩ := fZ_level s sl sf
  obtain ⟨d5, d6⟩ := fZ_level p (by omega) pf
  have pD : fD p = 1 ∧ fX p = (Q : Int) - 1023 := by
    have sc := oM_scale 1 (51 + Q) (-1074)
    have e : (1 : Int) * 2 ^ (51 + Q) = fZ p := by rw [pZ, Int.one_mul, Int.natCast_pow]; rfl
    have o := odd_nat (o := 1) (by decide) (-1074 + ((51 + Q : Nat) : Int))
    rw [e, d5, d6] at sc
    refine ⟨sc.1.trans o.1, ?_⟩
    rw [sc.2]
    refine (o.2).trans ?_
    omega
  have sD : fD s = fD a ∧ fX s = fX a + Q - 1023 := by
    have h3 := oM_scale (fZ s) K (-1074)
    have h4 := oM_scale (fZ a) Q (-1074)
    rw [hsz] at h3
    have za : fZ a ≠ 0 := fun e => a0 ((fK_zero a).2 ((rv_eq0 _).1 (by rw [← fZ_abs, e]; rfl)))
    have zs : fZ s ≠ 0 := fun e => s0 ((fK_zero s).2 ((rv_eq0 _).1 (by rw [← fZ_abs, e]; rfl)))
    refine ⟨by rw [← d3, ← d1, ← h3.1, h4.1], ?_⟩
    have h5 : oE (fZ s) (-1074 + K) = oE (fZ a) (-1074 + Q) := h3.2.symm.trans h4.2
    rw [oE_ne _ _ zs, oE_ne _ _ za] at h5
    rw [← d4, ← d2, oE_ne _ _ zs, oE_ne _ _ za]
    omega
  obtain ⟨g1, g2⟩ := quo_one s p sl sf s0 (by rw [pD.1]; rfl) (fR a) (fX a) (by rw [pD.2, sD.2]; omega) (by rw [sD.1]; exact rnd_D a fa) (by rw [sD.1]; exact rflag_D a ha fa)
  obtain ⟨v1, v2⟩ := dV_fin s p sf pf s0 p0
  refine ⟨s, sl, by rw [hp]; exact m1, by rw [hp]; exact m2, ?_, ?_, ?_⟩
  · rw [hp, v1, g1, pS, Bool.xor_false, sS, b_wrd a ha]
  · rw [hp, v2, g2]
  · rw [hF, hF, sR]; omega

end Go.Proofs.YtpaikdlhkdgkpaaDoor

/- Numbers times powers of two: where Go's own way to them ends, it ends at the rounded number. Ahead of stage 8. -/
namespace Go.Proofs.YtpaikdlhkdgkpaaDoor
open Go.RowKit

theorem rnd_high {v : Nat} {E : Int} (hv : v ≠ 0) (h : 1024 < (bl v : Int) + E) : rnd v E = 9218868437227405312 ∧ rflag v E = 5 := by
  unfold rflag rnd
  rw [if_neg hv, if_pos h, if_neg hv, if_pos h]
  exact ⟨rfl, rfl⟩
theorem cutE_small {v k : Nat} (h : 2 * v < 2 ^ k) : cutE v k = 0 := by
  unfold cutE
  have h1 : v / 2 ^ k = 0 := Nat.div_eq_of_lt (by omega)
  have h2 : v % 2 ^ k = v := Nat.mod_eq_of_lt (by omega)
  rw [h1, h2, if_neg (by omega)]
theorem rnd_low {v : Nat} {E : Int} (hv : v ≠ 0) (h : (bl v : Int) + E < -1074) : rnd v E = 0 ∧ rflag v E = 3 := by
  obtain ⟨b1, b2, b3⟩ := bl_spec v hv
  have hl : lastE v E = -1074 := by unfold lastE; omega
  obtain ⟨j, hj⟩ : ∃ j : Nat, E - -1074 = -((j : Nat) : Int) := ⟨(-1074 - E).toNat, by omega⟩
  have hM : rndM v E = 0 := by
    unfold rndM
    rw [hl, hj, mS_down _ _ (by omega)]
    refine cutE_small ?_
    have h1 : 2 ^ (bl v + 1) ≤ 2 ^ j := Nat.pow_le_pow_right (by decide) (by omega)
    rw [Nat.pow_succ] at h1
    omega
  have hr : rnd v E = 0 := by
    rw [rnd_fin v E hv (by omega), hM, hl]
    rfl
  refine ⟨hr, ?_⟩
  unfold rflag
  rw [if_neg hv, if_neg (by omega), if_neg (by rw [hl]; omega), hr, if_neg (by decide), if_pos (by decide)]

/-- Powers beyond 5000 are as 5000. -/
theorem scale_clamp (v : Nat) (E n : Int) (hv : v ≠ 0) (h1 : (bl v : Int) + E ≤ 2000) (h2 : -2000 ≤ (bl v : Int) + E) :
    rnd v (E + n) = rnd v (E + max (-5000) (min 5000 n)) ∧ rflag v (E + n) = rflag v (E + max (-5000) (min 5000 n)) := by
  rcases Int.lt_or_le 5000 n with h | h
  · have a := rnd_high hv (E := E + n) (by omega)
    have b := rnd_high hv (E := E + max (-5000) (min 5000 n)) (by omega)
    rw [a.1, a.2, b.1, b.2]
    exact ⟨rfl, rfl⟩
  · rcases Int.lt_or_le n (-5000) with g | g
    · have a := rnd_low hv (E := E + n) (by omega)
      have b := rnd_low hv (E := E + max (-5000) (min 5000 n)) (by omega)
      rw [a.1, a.2, b.1, b.2]
      exact ⟨rfl, rfl⟩
    · rw [show max (-5000) (min 5000 n) = n by omega]
      exact ⟨rfl, rfl⟩

/-- The digits of a normal number. -/
def gM (r : Nat) : Nat := 4503599627370496 + r % 4503599627370496
theorem gM_bl (r : Nat) : bl (gM r) = 53 := by
  refine bl_of (by decide) ?_ ?_
  · rw [show (2 : Nat) ^ (53 - 1) = 4503599627370496 by decide]
    unfold gM; omega
  · rw [show (2 : Nat) ^ 53 = 9007199254740992 by decide]
    unfold gM; omega
theorem gM_ne (r : Nat) : gM r ≠ 0 := by unfold gM; omega
theorem gM_rv (r : Nat) (h : 4503599627370496 ≤ r) : rv r = gM r * 2 ^ (r / 4503599627370496 - 1) := by
  have e : r = gM r + (r / 4503599627370496 - 1) * 4503599627370496 := by unfold gM; omega
  have := rv_of (gM r) (r / 4503599627370496 - 1) (by unfold gM; omega) (fun _ => by unfold gM; omega)
  rwa [← e] at this

/-- A normal number times 2^n, e being where its first digit comes to stand. -/
theorem scale_normal (r : Nat) (n e : Int) (h : 4503599627370496 ≤ r) (he : e = n + (r / 4503599627370496 : Nat) - 1023) :
    rnd (rv r) (n - 1074) = rnd (gM r) (e - 52) := by
  rw [gM_rv r h, rnd_scale]
  congr 1
  omega
theorem scale_mid (r : Nat) (e : Int) (h1 : -1022 ≤ e) (h2 : e ≤ 1023) : rnd (gM r) (e - 52) = r % 4503599627370496 + (e + 1023).toNat * 4503599627370496 := by
  have hb := gM_bl r
  have hl : lastE (gM r) (e - 52) = e - 52 := by unfold lastE; rw [hb]; omega
  rw [rnd_fin _ _ (gM_ne r) (by rw [hb]; omega), hl]
  have hM : rndM (gM r) (e - 52) = gM r := by
    unfold rndM
    rw [hl, show e - 52 - (e - 52) = ((0 : Nat) : Int) by omega, mS_up, Nat.pow_zero, Nat.mul_one]
  rw [hM, show (e - 52 + 1074).toNat = (e + 1023).toNat - 1 by omega]
  have : 1 ≤ (e + 1023).toNat := by omega
  unfold gM
  omega
theorem scale_high (r : Nat) (e : Int) (h : 1023 < e) : rnd (gM r) (e - 52) = 9218868437227405312 := (rnd_high (gM_ne r) (by rw [gM_bl]; omega)).1
theorem scale_low (r : Nat) (e : Int) (h : e < -1075) : rnd (gM r) (e - 52) = 0 := (rnd_low (gM_ne r) (by rw [gM_bl]; omega)).1

theorem pow_join (i j k : Nat) (h : i + j = k) : (2 : Nat) ^ i * 2 ^ j = 2 ^ k := by rw [← Nat.pow_add, h]
theorem rnd_scale2 (v x y : Nat) (E F : Int) (h : E + x + y = F) : rnd (v * 2 ^ x * 2 ^ y) E = rnd v F := by
  rw [Nat.mul_assoc, ← Nat.pow_add, rnd_scale]
  congr 1
  omega
theorem rnd_scale1 (v x : Nat) (E F : Int) (h : E + x = F) : rnd (v * 2 ^ x) E = rnd v F := by rw [rnd_scale, h]

/-- Below the least normal number: 53 digits higher, and times 2^-53. -/
theorem scale_sub (s : Bool) (r : Nat) (e : Int) (h1 : -1075 ≤ e) (h2 : e < -1022) :
    mV (wrd s (r % 4503599627370496 + (e + 53 + 1023).toNat * 4503599627370496)) 4368491638549381120 = wrd s (rnd (gM r) (e - 52)) := by
  obtain ⟨q, hq⟩ : ∃ q, q = r % 4503599627370496 + (e + 53 + 1023).toNat * 4503599627370496 := ⟨_, rfl⟩
  rw [← hq]
  have hq1 : 4503599627370496 ≤ q := by omega
  have hq2 : q < 9218868437227405312 := by omega
  have hm : gM q = gM r := by unfold gM; omega
  have hd : q / 4503599627370496 - 1 = (e + 1075).toNat := by omega
  have fR1 := fR_wrd s q (by omega)
  have f1 : fFin (wrd s q) = true := (fK_rungs _).2.2.2 (by rw [fR1]; exact hq2)
  have k1 : fK (wrd s q) ≠ 0 := fun h => by
    have := (fK_zero _).1 h
    rw [fR1] at this
    omega
  have fR2 : fR 4368491638549381120 = 4368491638549381120 := by decide
  have f2 : fFin 4368491638549381120 = true := by decide
  have k2 : fK 4368491638549381120 ≠ 0 := by decide
  have s2 : fS 4368491638549381120 = false := by decide
  obtain ⟨K, hK⟩ : ∃ K : Nat, K = 1021 := ⟨_, rfl⟩
  have r2 : rv 4368491638549381120 = 2 ^ K := by
    have := gM_rv 4368491638549381120 (by decide)
    rw [this, show gM 4368491638549381120 = 2 ^ 52 by decide, show 4368491638549381120 / 4503599627370496 - 1 = 969 by decide]
    exact pow_join 52 969 K (by omega)
  rw [(mV_fin _ _ f1 f2 k1 k2).1, fR1, fR2, r2, gM_rv q hq1, hm, hd, fS_wrd s q (by omega), s2, Bool.xor_false, rnd_scale2 _ _ _ _ (e - 52) (by omega)]

/-- A number below the least normal one, times 2^52: it is normal, and 52 digits higher. -/
theorem scale_up52 (s : Bool) (r : Nat) (h0 : r ≠ 0) (h : r < 4503599627370496) :
    ∃ q, mV (wrd s r) 4841369599423283200 = wrd s q ∧ 4503599627370496 ≤ q ∧ q < 9218868437227405312 ∧ ∀ n : Int, rnd (rv r) (n - 1074) = rnd (rv q) (n - 52 - 1074) := by
  obtain ⟨b1, b2, b3⟩ := bl_spec r h0
  have hb52 : bl r ≤ 52 := by
    have e52 : (2 : Nat) ^ 52 = 4503599627370496 := by decide
    have := pow_lt_of (Nat.lt_of_le_of_lt b2 (by rw [e52]; exact h))
    omega
  have hrv : rv r = r := by
    have := rv_of r 0 (by omega) (fun h => absurd rfl h)
    simpa using this
  obtain ⟨b, hb⟩ : ∃ b, bl r = b + 1 := ⟨bl r - 1, by omega⟩
  rw [hb] at b2 b3 hb52
  have e1 : (2 : Nat) ^ (b + 1 - 1) * 2 ^ (52 - b) = 4503599627370496 := by rw [← Nat.pow_add, show b + 1 - 1 + (52 - b) = 52 by omega]
  have e2 : (2 : Nat) ^ (b + 1) * 2 ^ (52 - b) = 9007199254740992 := by rw [← Nat.pow_add, show b + 1 + (52 - b) = 53 by omega]
  have hp := Nat.two_pow_pos (52 - b)
  have m1 := Nat.mul_le_mul_right (2 ^ (52 - b)) b2
  have m2 := (Nat.mul_lt_mul_right hp).2 b3
  rw [e1] at m1
  rw [e2] at m2
  obtain ⟨M, hM⟩ : ∃ M, M = r * 2 ^ (52 - b) := ⟨_, rfl⟩
  rw [← hM] at m1 m2
  have hl : lastE r (-1022) = (b : Int) - 1074 := by unfold lastE; rw [hb]; omega
  have hq : rnd r (-1022) = M + b * 4503599627370496 := by
    rw [rnd_fin r _ h0 (by rw [hb]; omega), hl]
    unfold rndM
    rw [hl, show (-1022 : Int) - ((b : Int) - 1074) = ((52 - b : Nat) : Int) by omega, mS_up, ← hM, show ((b : Int) - 1074 + 1074).toNat = b by omega]
  have fR1 := fR_wrd s r (by omega)
  have f1 : fFin (wrd s r) = true := (fK_rungs _).2.2.2 (by rw [fR1]; omega)
  have k1 : fK (wrd s r) ≠ 0 := fun h => h0 (by have := (fK_zero _).1 h; rwa [fR1] at this)
  have fR2 : fR 4841369599423283200 = 4841369599423283200 := by decide
  have f2 : fFin 4841369599423283200 = true := by decide
  have k2 : fK 4841369599423283200 ≠ 0 := by decide
  have s2 : fS 4841369599423283200 = false := by decide
  obtain ⟨K, hK⟩ : ∃ K : Nat, K = 1126 := ⟨_, rfl⟩
  have r2 : rv 4841369599423283200 = 2 ^ K := by
    have := gM_rv 4841369599423283200 (by decide)
    rw [this, show gM 4841369599423283200 = 2 ^ 52 by decide, show 4841369599423283200 / 4503599627370496 - 1 = 1074 by decide]
    exact pow_join 52 1074 K (by omega)
  refine ⟨M + b * 4503599627370496, ?_, by omega, by omega, fun n => ?_⟩
  · rw [(mV_fin _ _ f1 f2 k1 k2).1, fR1, fR2, r2, hrv, fS_wrd s r (by omega), s2, Bool.xor_false, rnd_scale1 _ _ _ (-1022) (by omega), hq]
  · have hrq : rv (M + b * 4503599627370496) = M * 2 ^ b := rv_of M b (by omega) (fun _ => m1)
    rw [hrq, hrv, hM]
    exact (rnd_scale2 r (52 - b) b _ _ (by omega)).symm

end Go.Proofs.YtpaikdlhkdgkpaaDoor

/- Long division: the program's, a digit a step, and the reference's; both are the quotient. -/
namespace Go.Proofs.YtpaikdlhkdgkpaaDoor
open Go.RowKit

/-- One digit more of a quotient, the rest being reckoned against twice the divisor. -/
theorem lng_step (X y : Nat) (hy : 0 < y) : X * 2 / (2 * y) = 2 * (X / (2 * y)) + (if y ≤ X % (2 * y) then 1 else 0) ∧ X * 2 % (2 * y) = 2 * (X % (2 * y) - (if y ≤ X % (2 * y) then y else 0)) := by
  have h1 := Nat.div_add_mod X (2 * y)
  have h2 := Nat.mod_lt X (show 0 < 2 * y by omega)
  generalize X / (2 * y) = q at *
  generalize X % (2 * y) = r at *
  have e0 : X * 2 = 2 * y * (2 * q) + 2 * r := by rw [← h1, Nat.add_mul, Nat.mul_assoc, Nat.mul_comm q 2, Nat.mul_comm r 2]
  by_cases c : y ≤ r
  · rw [if_pos c, if_pos c]
    have e : X * 2 = 2 * y * (2 * q + 1) + 2 * (r - y) := by rw [Nat.mul_add, Nat.mul_one]; omega
    rw [e]
    refine ⟨?_, ?_⟩
    · rw [Nat.mul_add_div (by omega), Nat.div_eq_of_lt (by omega), Nat.add_zero]
    · rw [Nat.mul_add_mod, Nat.mod_eq_of_lt (by omega)]
  · rw [if_neg c, if_neg c]
    rw [e0]
    refine ⟨?_, ?_⟩
    · rw [Nat.mul_add_div (by omega), Nat.div_eq_of_lt (by omega), Nat.add_zero]
    · rw [Nat.mul_add_mod, Nat.mod_eq_of_lt (by omega)]; omega

/-- The quotient and the rest after i digits. -/
def lQ (x y i : Nat) : Nat := x * 2 ^ i / (2 * y)
def lR (x y i : Nat) : Nat := x * 2 ^ i % (2 * y)
theorem l_zero (x y : Nat) (h : x < 2 * y) : lQ x y 0 = 0 ∧ lR x y 0 = x := by
  unfold lQ lR
  rw [Nat.pow_zero, Nat.mul_one]
  exact ⟨Nat.div_eq_of_lt h, Nat.mod_eq_of_lt h⟩
theorem l_succ (x y i : Nat) (hy : 0 < y) : lQ x y (i + 1) = 2 * lQ x y i + (if y ≤ lR x y i then 1 else 0) ∧ lR x y (i + 1) = 2 * (lR x y i - (if y ≤ lR x y i then y else 0)) := by
  have := lng_step (x * 2 ^ i) y hy
  unfold lQ lR
  rw [Nat.pow_succ, ← Nat.mul_assoc]
  exact this
theorem lR_lt (x y i : Nat) (hy : 0 < y) : lR x y i < 2 * y := Nat.mod_lt _ (by omega)
theorem lQ_lt (x y i : Nat) (h : x < 2 * y) : lQ x y i < 2 ^ i := by
  unfold lQ
  rw [Nat.div_lt_iff_lt_mul (by omega), Nat.mul_comm (2 ^ i)]
  exact (Nat.mul_lt_mul_right (Nat.two_pow_pos i)).2 h
/-- In the end. -/
theorem l_end (x y : Nat) : stk (x * 2 ^ 54) y = 2 * lQ x y 55 + (if 0 < lR x y 55 then 1 else 0) := by
  have e : x * 2 ^ 55 = 2 * (x * 2 ^ 54) := by rw [show (2 : Nat) ^ 55 = 2 * 2 ^ 54 by decide]; ac_rfl
  unfold stk lQ lR
  rw [e, Nat.mul_div_mul_left _ _ (by decide), Nat.mul_mod_mul_left]
  congr 1
  by_cases c : x * 2 ^ 54 % y = 0
  · rw [if_pos c, c, if_neg (by omega)]
  · rw [if_neg c, if_pos (by omega)]

/-- The next bit down, of a dividend whose upper bits are N. -/
theorem ref_step (N b t : Nat) (hb : 0 < b) (ht : t ≤ 1) : (2 * N + t) / b = 2 * (N / b) + (if b ≤ 2 * (N % b) + t then 1 else 0) ∧ (2 * N + t) % b = 2 * (N % b) + t - (if b ≤ 2 * (N % b) + t then b else 0) := by
  have h1 := Nat.div_add_mod N b
  have h2 := Nat.mod_lt N hb
  generalize N / b = q at *
  generalize N % b = r at *
  have e0 : 2 * N + t = b * (2 * q) + (2 * r + t) := by
    have : b * (2 * q) = 2 * (b * q) := Nat.mul_left_comm _ _ _
    omega
  by_cases c : b ≤ 2 * r + t
  · rw [if_pos c, if_pos c]
    have e : 2 * N + t = b * (2 * q + 1) + (2 * r + t - b) := by rw [Nat.mul_add, Nat.mul_one]; omega
    rw [e]
    refine ⟨?_, ?_⟩
    · rw [Nat.mul_add_div hb, Nat.div_eq_of_lt (by omega), Nat.add_zero]
    · rw [Nat.mul_add_mod, Nat.mod_eq_of_lt (by omega)]
  · rw [if_neg c, if_neg c]
    rw [e0]
    refine ⟨?_, ?_⟩
    · rw [Nat.mul_add_div hb, Nat.div_eq_of_lt (by omega), Nat.add_zero]
    · rw [Nat.mul_add_mod, Nat.mod_eq_of_lt (by omega)]; omega
theorem bit_step (A i : Nat) : A / 2 ^ i = 2 * (A / 2 ^ (i + 1)) + A / 2 ^ i % 2 := by
  rw [Nat.pow_succ, ← Nat.div_div_eq_div_mul]; omega

/-- What the program divides: the odd parts with their first digit at 2^52. -/
def dS (b : Nat) : Nat := (fD b).natAbs * 2 ^ (53 - bl (fD b).natAbs)
def dT (b : Nat) : Int := (bl (fD b).natAbs : Int) + fX b

theorem dS_facts (b : Nat) (hb : b < 18446744073709551616) (hf : fFin b = true) (h0 : fK b ≠ 0) :
    bl (fD b).natAbs ≤ 53 ∧ 1 ≤ bl (fD b).natAbs ∧ 4503599627370496 ≤ dS b ∧ dS b < 9007199254740992 ∧ -1074 ≤ fX b ∧ fX b ≤ 1024 ∧ (fD b).natAbs % 2 = 1 ∧ (fD b).natAbs < 9007199254740992 := by
  obtain ⟨β, x1, x2, x3, x4⟩ := odd_mag b hb hf h0
  have hne : (fD b).natAbs ≠ 0 := by omega
  obtain ⟨b1, b2, b3⟩ := bl_spec _ hne
  have hbl : bl (fD b).natAbs ≤ 53 := by
    have : (2 : Nat) ^ (bl (fD b).natAbs - 1) < 2 ^ 53 := by rw [p53]; omega
    have := pow_lt_of this
    omega
  have hs := bl_scale (fD b).natAbs (53 - bl (fD b).natAbs) hne
  have hs' : bl (dS b) = 53 := by unfold dS; rw [hs]; omega
  have hd0 : dS b ≠ 0 := by
    unfold dS
    exact Nat.mul_ne_zero hne (Nat.pos_iff_ne_zero.1 (Nat.two_pow_pos _))
  obtain ⟨c1, c2, c3⟩ := bl_spec _ hd0
  rw [hs'] at c2 c3
  have hz := fZ_lt b hf
  rw [fZ_abs, x2] at hz
  have hβ : β < 2098 := by
    have h1 : 2 ^ β ≤ (fD b).natAbs * 2 ^ β := Nat.le_mul_of_pos_left _ (by omega)
    exact pow_lt_of (Nat.lt_of_le_of_lt h1 hz)
  refine ⟨hbl, b1, ?_, ?_, by omega, by omega, x3, x4⟩
  · exact c2
  · rw [p53] at c3; exact c3

/-- What the program's quotient, rounded, comes to. -/
def pS (a b : Nat) : Nat := stk (dS a * 2 ^ 54) (dS b)
theorem quo_prog (a b : Nat) (ha : a < 18446744073709551616) (hb : b < 18446744073709551616) (fa : fFin a = true) (fb : fFin b = true) (a0 : fK a ≠ 0) (b0 : fK b ≠ 0) :
    rnd (pS a b) (dT a - dT b - 55) = qV a b ∧ rflag (oM (pS a b : Nat)).natAbs (oE (pS a b : Nat) (dT a - dT b - 55)) = qF a b := by
  obtain ⟨x1, x2, x3, x4, x5, x6, x7, x8⟩ := dS_facts a ha fa a0
  obtain ⟨y1, y2, y3, y4, y5, y6, y7, y8⟩ := dS_facts b hb fb b0
  have hbig := quo_big (fD a).natAbs (fD b).natAbs (by omega) y8 (by omega)
  obtain ⟨u1, u2, u3⟩ := bl_spec (fD a).natAbs (by omega)
  obtain ⟨v1, v2, v3⟩ := bl_spec (fD b).natAbs (by omega)
  unfold pS qV qF qS dS dT
  generalize (fD a).natAbs = oa at *
  generalize (fD b).natAbs = ob at *
  have e1 : oa * 2 ^ (53 - bl oa) * 2 ^ 54 = oa * 2 ^ (54 - bl oa + bl ob) * 2 ^ (53 - bl ob) := by
    rw [Nat.mul_assoc, ← Nat.pow_add, Nat.mul_assoc, ← Nat.pow_add]
    congr 2
    omega
  have hb54 : 54 - bl oa + bl ob = 54 + bl ob - bl oa := by omega
  rw [e1, stk_both]
  have hq : 9007199254740992 ≤ oa * 2 ^ (54 - bl oa + bl ob) / ob := by
    rw [Nat.le_div_iff_mul_le (by omega)]
    have h1 : 9007199254740992 * ob ≤ 2 ^ 53 * 2 ^ bl ob := by rw [p53]; exact Nat.mul_le_mul_left _ (by omega)
    have h2 : (2 : Nat) ^ 53 * 2 ^ bl ob ≤ 2 ^ (bl oa - 1) * 2 ^ (54 - bl oa + bl ob) := by
      rw [← Nat.pow_add, ← Nat.pow_add]; exact pow_le2 (by omega)
    have h3 : 2 ^ (bl oa - 1) * 2 ^ (54 - bl oa + bl ob) ≤ oa * 2 ^ (54 - bl oa + bl ob) := Nat.mul_le_mul_right _ u2
    omega
  have E1 : (bl oa : Int) + fX a - ((bl ob : Int) + fX b) - 55 = (fX a - fX b - 1) - (54 - bl oa + bl ob : Nat) := by omega
  have E2 : fX a - fX b - 181 = (fX a - fX b - 1) - (180 : Nat) := by omega
  rw [E1, E2]
  exact ⟨stk_any oa ob _ 180 _ (by omega) hq hbig, stk_any_flag oa ob _ 180 _ y7 hq hbig⟩

theorem pS_facts (a b : Nat) (ha : a < 18446744073709551616) (hb : b < 18446744073709551616) (fa : fFin a = true) (fb : fFin b = true) (a0 : fK a ≠ 0) (b0 : fK b ≠ 0) : pS a b ≠ 0 ∧ pS a b < 144115188075855872 ∧ dS a < 2 * dS b := by
  obtain ⟨x1, x2, x3, x4, x5, x6, x7, x8⟩ := dS_facts a ha fa a0
  obtain ⟨y1, y2, y3, y4, y5, y6, y7, y8⟩ := dS_facts b hb fb b0
  have h := l_end (dS a) (dS b)
  have h1 := lQ_lt (dS a) (dS b) 55 (by omega)
  have h2 : (2 : Nat) ^ 55 = 36028797018963968 := by decide
  have ht : (if 0 < lR (dS a) (dS b) 55 then 1 else 0) ≤ 1 := by split <;> omega
  refine ⟨?_, ?_, by omega⟩
  · have : 1 ≤ dS a * 2 ^ 54 / dS b := by
      rw [Nat.le_div_iff_mul_le (by omega), Nat.one_mul]
      have : dS a * 1 ≤ dS a * 2 ^ 54 := Nat.mul_le_mul_left _ (by decide)
      have h5 : dS a * 2 ≤ dS a * 2 ^ 54 := Nat.mul_le_mul_left _ (by decide)
      omega
    unfold pS stk
    omega
  · show stk (dS a * 2 ^ 54) (dS b) < _
    rw [h]; omega

end Go.Proofs.YtpaikdlhkdgkpaaDoor

/- Contracts of package compare: scaleFinite, Scale. -/
namespace Go.Proofs.YtpaikdlhkdgkpaaDoor
open Go.RowKit

theorem fZ_neg8 (b : Nat) (h0 : fK b ≠ 0) : fZ b ≠ 0 ∧ decide (fZ b < 0) = fS b := by
  have hr : fR b ≠ 0 := fun e => h0 ((fK_zero b).2 e)
  have hp : 0 < rv (fR b) := rv_pos (by omega)
  unfold fZ pv
  cases fS b
  · simp only [Bool.false_eq_true, if_false]
    exact ⟨by omega, decide_eq_false (by omega)⟩
  · simp only [if_true]
    exact ⟨by omega, decide_eq_true (by omega)⟩

/-- What is known of a finite number that is no nought. -/
theorem sc_facts (a : Nat) (ha : a < 18446744073709551616) (fa : fFin a = true) (a0 : fK a ≠ 0) :
    fD a % 2 = 1 ∧ (fD a).natAbs < 9007199254740992 ∧ (fD a).natAbs ≠ 0 ∧ decide (fD a < 0) = fS a ∧ -1074 ≤ fX a ∧ fX a ≤ 1024 ∧ 1 ≤ bl (fD a).natAbs ∧ (bl (fD a).natAbs : Int) + fX a ≤ 1024 ∧ rnd (rv (fR a)) (-1074) = rnd (fD a).natAbs (fX a) := by
  obtain ⟨β, x1, x2, x3, x4⟩ := odd_mag a ha fa a0
  obtain ⟨y1, y2, y3, y4, y5, y6, y7, y8⟩ := dS_facts a ha fa a0
  obtain ⟨d1, d2⟩ := fZ_level a ha fa
  obtain ⟨n1, n2⟩ := fZ_neg8 a a0
  have hne : (fD a).natAbs ≠ 0 := by omega
  have hb : bl (rv (fR a)) = bl (fD a).natAbs + β := by rw [x2]; exact bl_scale _ _ hne
  have hlt := fZ_lt a fa
  rw [fZ_abs] at hlt
  have hne2 : rv (fR a) ≠ 0 := by rw [← fZ_abs]; omega
  have hb2 : bl (rv (fR a)) ≤ 2098 := by
    obtain ⟨b1, b2, b3⟩ := bl_spec _ hne2
    have := pow_lt_of (Nat.lt_of_le_of_lt b2 hlt)
    omega
  refine ⟨by omega, x4, hne, ?_, y5, y6, y2, by omega, ?_⟩
  · rw [← d1, oM_sign]; exact n2
  · rw [x2, x1, rnd_scale]

theorem scale_clampC (C : Int) (hC : 2098 < C) (v : Nat) (E n : Int) (hv : v ≠ 0) (h1 : (bl v : Int) + E ≤ 1024) (h2 : -1074 ≤ (bl v : Int) + E) :
    rnd v (E + n) = rnd v (E + max (-C) (min C n)) ∧ rflag v (E + n) = rflag v (E + max (-C) (min C n)) := by
  rcases Int.lt_or_le C n with h | h
  · have a := rnd_high hv (E := E + n) (by omega)
    have b := rnd_high hv (E := E + max (-C) (min C n)) (by omega)
    rw [a.1, a.2, b.1, b.2]
    exact ⟨rfl, rfl⟩
  · rcases Int.lt_or_le n (-C) with g | g
    · have a := rnd_low hv (E := E + n) (by omega)
      have b := rnd_low hv (E := E + max (-C) (min C n)) (by omega)
      rw [a.1, a.2, b.1, b.2]
      exact ⟨rfl, rfl⟩
    · rw [show max (-C) (min C n) = n by omega]
      exact ⟨rfl, rfl⟩

/-- A number times 2^n: its bits, its flags. -/
def xV (a : Nat) (n : Int) : Nat := if fK a = 4 then 9221120237041090560 else if fK a = 3 ∨ fK a = 0 then a else wrd (fS a) (rnd (fD a).natAbs (fX a + n))
def xF (a : Nat) (n : Int) : Int := if fK a = 4 then 0 else if fK a = 3 ∨ fK a = 0 then 0 else rflag (fD a).natAbs (fX a + n)
theorem xV_lt (a : Nat) (n : Int) (ha : a < 18446744073709551616) : xV a n < 18446744073709551616 := by
  unfold xV
  have := rnd_le (fD a).natAbs (fX a + n)
  repeat' split
  · decide
  · exact ha
  · exact wrd_lt _ _ (by omega)
theorem xV_clamp (C : Int) (hC : 2098 < C) (a : Nat) (n : Int) (ha : a < 18446744073709551616) : xV a (max (-C) (min C n)) = xV a n ∧ xF a (max (-C) (min C n)) = xF a n := by
  unfold xV xF
  by_cases a4 : fK a = 4
  · rw [if_pos a4, if_pos a4, if_pos a4, if_pos a4]; exact ⟨rfl, rfl⟩
  by_cases a3 : fK a = 3 ∨ fK a = 0
  · rw [if_neg a4, if_neg a4, if_neg a4, if_neg a4, if_pos a3, if_pos a3, if_pos a3, if_pos a3]; exact ⟨rfl, rfl⟩
  · rw [if_neg a4, if_neg a4, if_neg a4, if_neg a4, if_neg a3, if_neg a3, if_neg a3, if_neg a3]
    obtain ⟨z1, z2, z3, z4, z5, z6, z7, z8, z9⟩ := sc_facts a ha (fin_of a (by omega) a4) (by omega)
    have := scale_clampC C hC _ _ n z3 z8 (by omega)
    rw [this.1, this.2]
    exact ⟨rfl, rfl⟩

theorem odd_dRt {D E : Int} (h : D % 2 = 1) (hE : -16384 ≤ E ∧ E ≤ 16384) : dRt D E = true := by
  unfold dRt
  rw [if_neg (by omega), decide_eq_true h, decide_eq_true hE]; rfl
theorem odd8_oM {D : Int} (h : D % 2 = 1) : oM D = D ∧ ∀ e, oE D e = e := by
  have h0 : D ≠ 0 := by omega
  have h1 := oM_ne D h0
  have := (oddOf D h0).unique (m' := D) (k' := 0) ⟨by simp, h⟩
  refine ⟨this.1, fun e => ?_⟩
  rw [oE_ne _ _ h0, this.2]; simp
theorem odd_tz {D : Int} (h : D % 2 = 1) : tz D.natAbs = 0 := by
  have h0 : D ≠ 0 := by omega
  exact ((oddOf D h0).unique (m' := D) (k' := 0) ⟨by simp, h⟩).2

theorem dscaleN {w : World} {v : Value} {D X : Int} (n : Int) (hv : IsDy w v D X) (h1 : D % 2 = 1) (h2 : D.natAbs < 9007199254740992) (h3 : -1074 ≤ X ∧ X ≤ 1024) (h4 : -5000 ≤ n ∧ n ≤ 5000) (hT : Tab w) :
    Calls Tryd.prog 69 #[v, .int .i64 n] w fun r w' => DyR w' r 0 D (X + n) ∧ Below w.heap.size w w' := by
  obtain ⟨na, ao, ca, A, rfl, a1, a2, a3, a4, a5⟩ := hv.right (small_TOP _ (by omega))
  have := dscale_right na ao ca A X n w a1 (a5.trans (odd_dRt h1 (by omega))) (by omega) hT
  have hok : dOk D (X + n) = true := by
    unfold dOk
    rw [odd_tz h1, decide_eq_true (show -32768 ≤ X + n ∧ X + n ≤ 32768 by omega), decide_eq_true (show -16384 ≤ X + n + ((0 : Nat) : Int) ∧ X + n + ((0 : Nat) : Int) ≤ 16384 by omega), Bool.or_true]
    rfl
  rw [a3] at this
  unfold dErr dM dX at this
  rw [hok, if_pos rfl, if_pos rfl, if_pos rfl, (odd8_oM h1).1, (odd8_oM h1).2] at this
  exact this

theorem rscale8N {w : World} {v : Value} {D X : Int} (n : Int) (hv : IsDy w v D X) (h1 : D % 2 = 1) (h2 : D.natAbs < 9007199254740992) (h3 : -1074 ≤ X ∧ X ≤ 1024) (h4 : -5000 ≤ n ∧ n ≤ 5000) :
    Calls Tryd.prog 48 #[v, .int .i64 n] w fun r w' => ∃ q, r = .returned q ∧ IsDy w' q D (X + n) ∧ Below w.heap.size w w' := by
  obtain ⟨na, ao, ca, A, rfl, a1, a2, a3, a4, a5⟩ := hv.right (small_TOP _ (by omega))
  have := rscale_any na ao ca A X n w a1 a2 (by omega) (by omega)
  rw [a3, (odd8_oM h1).1, (odd8_oM h1).2] at this
  exact this

set_option maxRecDepth 20000 in
set_option maxHeartbeats 2000000 in
theorem scaleFinite_of (a o : Nat) (n D X Y fl : Int) (w : World) (hT : Tab w)
    (C1 : ∀ w', Tab w' → Calls Tryd.prog 55 #[.int .u64 a] w' fun r w'' => DyR w'' r 0 D X ∧ Below w'.heap.size w' w'')
    (C2 : ∀ w' v, Tab w' → IsDy w' v D X → Calls Tryd.prog 69 #[v, .int .i64 n] w' fun r w'' => DyR w'' r 0 D Y ∧ Below w'.heap.size w' w'')
    (C3 : ∀ w' v, Tab w' → IsDy w' v D Y → Calls Tryd.prog 53 #[v] w' fun r w'' => r = .returned (.tuple #[.int .u64 (o : Nat), .int .u8 fl, .int .i64 0]) ∧ Below w'.heap.size w' w'') :
    Calls Tryd.prog 46 #[.int .u64 a, .int .i64 n] w fun r w' => r = .returned (.tuple #[.int .u64 (o : Nat), .int .u8 fl]) ∧ Below w.heap.size w w' := by
  have K1 := hide C1; have K2 := hide C2; have K3 := hide C3; have HT := hide hT
  clear C1 C2 C3 hT
  go_enter Tryd.func46, Tryd.ntmps46
  go_wp2_with fail
  refine (unhide K1 _ (unhide HT)).mono ?_
  rintro e w1 ⟨⟨v, rfl, hv⟩, hb1⟩
  obtain ⟨n1, a1, c1, L1, rfl, i1⟩ := hv
  have hb1a : Below w1.heap.size w1 (w1.alloc (.cells #[.bool n1, .slice a1 L1.length c1, .int .i64 X] 58)) := (Below.refl _ _).alloc (Nat.le_refl _) _
  have HX := hide ((show IsDy w1 (.agg #[.bool n1, .slice a1 L1.length c1, .int .i64 X]) D X from ⟨n1, a1, c1, L1, rfl, i1⟩).below hb1a)
  have B1 := hide (hb1.trans (hb1a.mono hb1.size))
  have x3 := Box3.new w1 (.bool n1) (.slice a1 L1.length c1) (.int .i64 X)
  have y0 := x3.c0; have y1 := x3.c1; have y2 := x3.c2
  clear i1 hb1 hb1a K1 x3
  generalize L1.length = l1 at *
  go_wp2_with fail
  refine (unhide K2 _ _ ((unhide HT).all (unhide B1)) (unhide HX)).mono ?_
  rintro e w2 ⟨⟨v, rfl, hv⟩, hb1⟩
  obtain ⟨n2, a2, c2, L2, rfl, i2⟩ := hv
  have hb1a : Below w2.heap.size w2 (w2.alloc (.cells #[.bool n2, .slice a2 L2.length c2, .int .i64 Y] 58)) := (Below.refl _ _).alloc (Nat.le_refl _) _
  have HY := hide ((show IsDy w2 (.agg #[.bool n2, .slice a2 L2.length c2, .int .i64 Y]) D Y from ⟨n2, a2, c2, L2, rfl, i2⟩).below hb1a)
  have B2 := hide ((unhide B1).trans ((hb1.trans (hb1a.mono hb1.size)).mono (unhide B1).size))
  have x3 := Box3.new w2 (.bool n2) (.slice a2 L2.length c2) (.int .i64 Y)
  have z0 := x3.c0; have z1 := x3.c1; have z2 := x3.c2
  clear i2 hb1 hb1a K2 x3 y0 y1 y2 HX B1
  generalize L2.length = l2 at *
  go_wp2_with fail
  refine (unhide K3 _ _ ((unhide HT).all (unhide B2)) (unhide HY)).mono ?_
  rintro e w3 ⟨rfl, hb1⟩
  have B3 := hide ((unhide B2).trans (hb1.mono (unhide B2).size))
  clear hb1 K3 B2 z0 z1 z2 HY
  go_wp2
  exact bodyPost_ret (v := .tuple #[.int .u64 o, .int .u8 fl]) (by simp [results, Tryd.results46, go_sem]) rfl ⟨rfl, unhide B3⟩

theorem scaleFinite_any (a : Nat) (n : Int) (w : World) (ha : a < 18446744073709551616) (fa : fFin a = true) (a0 : fK a ≠ 0) (hn : -5000 ≤ n ∧ n ≤ 5000) (hT : Tab w) :
    Calls Tryd.prog 46 #[.int .u64 a, .int .i64 n] w fun r w' => r = .returned (.tuple #[.int .u64 (wrd (fS a) (rnd (fD a).natAbs (fX a + n)) : Nat), .int .u8 (rflag (fD a).natAbs (fX a + n))]) ∧ Below w.heap.size w w' := by
  obtain ⟨z1, z2, z3, z4, z5, z6, z7, z8, z9⟩ := sc_facts a ha fa a0
  have C3 : ∀ w' v, Tab w' → IsDy w' v (fD a) (fX a + n) → _ := fun w' v t hv => round_dy hv (small_TOP _ (by omega)) (odd_dRt z1 (by omega)) t
  rw [z4] at C3
  exact scaleFinite_of a _ n (fD a) (fX a) (fX a + n) _ w hT (fun w' t => value_some a w' ha fa t) (fun w' v t hv => dscaleN n hv z1 z2 (by omega) hn t) C3

set_option maxRecDepth 20000 in
set_option maxHeartbeats 2000000 in
theorem scale_n (a : Nat) (n : Int) (w : World)
    (C1 : ∀ w', Calls Tryd.prog 35 #[.int .u64 a] w' fun r w'' => r = .returned (.int .i64 4) ∧ Below w'.heap.size w' w'') :
    Calls Tryd.prog 19 #[.int .u64 a, .int .i64 n] w fun r w' => r = .returned (.tuple #[.int .u64 9221120237041090560, .int .u8 0]) ∧ Below w.heap.size w w' := by
  have K1 := hide C1
  clear C1
  go_enter Tryd.func19, Tryd.ntmps19
  go_wp2_with fail
  refine (unhide K1 _).mono ?_
  rintro e w1 ⟨rfl, hb1⟩
  clear K1
  go_wp2
  exact bodyPost_ret (v := .tuple #[.int .u64 9221120237041090560, .int .u8 0]) (by simp [results, Tryd.results19, go_sem]) rfl ⟨rfl, hb1⟩

set_option maxRecDepth 20000 in
set_option maxHeartbeats 2000000 in
theorem scale_iz (a : Nat) (n k : Int) (w : World) (hk : k = 3 ∨ k = 0)
    (C1 : ∀ w', Calls Tryd.prog 35 #[.int .u64 a] w' fun r w'' => r = .returned (.int .i64 k) ∧ Below w'.heap.size w' w'') :
    Calls Tryd.prog 19 #[.int .u64 a, .int .i64 n] w fun r w' => r = .returned (.tuple #[.int .u64 (a : Nat), .int .u8 0]) ∧ Below w.heap.size w w' := by
  have K1 := hide C1
  clear C1
  rcases hk with rfl | rfl
  · go_enter Tryd.func19, Tryd.ntmps19
    go_wp2_with fail
    refine (unhide K1 _).mono ?_
    rintro e w1 ⟨rfl, hb1⟩
    clear K1
    go_wp2
    exact bodyPost_ret (v := .tuple #[.int .u64 (a : Nat), .int .u8 0]) (by simp [results, Tryd.results19, go_sem]) rfl ⟨rfl, hb1⟩
  · go_enter Tryd.func19, Tryd.ntmps19
    go_wp2_with fail
    refine (unhide K1 _).mono ?_
    rintro e w1 ⟨rfl, hb1⟩
    clear K1
    go_wp2
    exact bodyPost_ret (v := .tuple #[.int .u64 (a : Nat), .int .u8 0]) (by simp [results, Tryd.results19, go_sem]) rfl ⟨rfl, hb1⟩

theorem min2_run (P : Program) (w : World) (ts : Array TypeId) (t : TypeId) (x y : Int) : (Builtin.min_ ts t #[.int .i64 x, .int .i64 y]).run P w = .ok (.int .i64 (min x y)) w := by
  rw [run_min_int2]
  congr 2
  split <;> omega

set_option maxRecDepth 20000 in
set_option maxHeartbeats 2000000 in
theorem scale_f (a o : Nat) (n k m c fl : Int) (w : World) (h4 : (k == 4) = false) (h3 : (k == 3) = false) (h0 : (k == 0) = false) (hT : Tab w)
    (hM : ∀ W ts t, (Builtin.max_ ts t #[.int .i64 n, .int .i64 (-4096)]).run Tryd.prog W = .ok (.int .i64 m) W)
    (hN : ∀ W ts t, (Builtin.min_ ts t #[.int .i64 m, .int .i64 4096]).run Tryd.prog W = .ok (.int .i64 c) W)
    (C1 : ∀ w', Calls Tryd.prog 35 #[.int .u64 a] w' fun r w'' => r = .returned (.int .i64 k) ∧ Below w'.heap.size w' w'')
    (C2 : ∀ w', Tab w' → Calls Tryd.prog 46 #[.int .u64 a, .int .i64 c] w' fun r w'' => r = .returned (.tuple #[.int .u64 (o : Nat), .int .u8 fl]) ∧ Below w'.heap.size w' w'') :
    Calls Tryd.prog 19 #[.int .u64 a, .int .i64 n] w fun r w' => r = .returned (.tuple #[.int .u64 (o : Nat), .int .u8 fl]) ∧ Below w.heap.size w w' := by
  have K1 := hide C1; have K2 := hide C2; have HT := hide hT
  clear C1 C2 hT
  go_enter Tryd.func19, Tryd.ntmps19
  go_wp2_with fail
  refine (unhide K1 _).mono ?_
  rintro e w1 ⟨rfl, hb1⟩
  have B1 := hide hb1
  clear K1 hb1
  go_wp2_with fail
  refine (unhide K2 _ ((unhide HT).all (unhide B1))).mono ?_
  rintro e w2 ⟨rfl, hb1⟩
  have B2 := hide ((unhide B1).trans (hb1.mono (unhide B1).size))
  clear K2 hb1 B1 HT
  go_wp2
  exact bodyPost_ret (v := .tuple #[.int .u64 (o : Nat), .int .u8 fl]) (by simp [results, Tryd.results19, go_sem]) rfl ⟨rfl, unhide B2⟩

theorem cscale_any (a : Nat) (n : Int) (w : World) (ha : a < 18446744073709551616) (hT : Tab w) :
    Calls Tryd.prog 19 #[.int .u64 a, .int .i64 n] w fun r w' => r = .returned (.tuple #[.int .u64 (xV a n : Nat), .int .u8 (xF a n)]) ∧ Below w.heap.size w w' := by
  have C1 := fun w' => kind_any a w' ha
  by_cases a4 : fK a = 4
  · unfold xV xF
    rw [if_pos a4, if_pos a4]
    rw [a4] at C1
    exact scale_n a n w C1
  by_cases a3 : fK a = 3 ∨ fK a = 0
  · unfold xV xF
    rw [if_neg a4, if_neg a4, if_pos a3, if_pos a3]
    exact scale_iz a n _ w a3 C1
  · have fa := fin_of a (by omega) a4
    have e := xV_clamp 4096 (by decide) a n ha
    rw [show max (-4096) (min 4096 n) = min (max n (-4096)) 4096 by omega] at e
    rw [← e.1, ← e.2]
    unfold xV xF
    rw [if_neg a4, if_neg a4, if_neg a3, if_neg a3]
    exact scale_f a _ n _ (max n (-4096)) (min (max n (-4096)) 4096) _ w (by simp [a4]) (by simp; omega) (by simp; omega) hT (fun W ts t => max2_run _ W ts t _ _) (fun W ts t => min2_run _ W ts t _ _) C1 (fun w' t => scaleFinite_any a _ w' ha fa (by omega) (by omega) t)

end Go.Proofs.YtpaikdlhkdgkpaaDoor

/- Contracts of package compare: Int, Trunc, Exp. -/
namespace Go.Proofs.YtpaikdlhkdgkpaaDoor
open Go.RowKit

set_option maxRecDepth 20000 in
set_option maxHeartbeats 2000000 in
theorem int_of (o : Nat) (n M X fl : Int) (w : World) (hT : Tab w)
    (C1 : ∀ w', Calls Tryd.prog 52 #[.int .i64 n] w' fun r w'' => ∃ v, r = .returned v ∧ IsNum w'.heap.size w'' v n ∧ Below w'.heap.size w' w'')
    (C2 : ∀ B w' v, Tab w' → IsNum B w' v n → Calls Tryd.prog 51 #[v, .int .i64 0] w' fun r w'' => DyR w'' r 0 M X ∧ Below w'.heap.size w' w'')
    (C3 : ∀ w' v, Tab w' → IsDy w' v M X → Calls Tryd.prog 53 #[v] w' fun r w'' => r = .returned (.tuple #[.int .u64 (o : Nat), .int .u8 fl, .int .i64 0]) ∧ Below w'.heap.size w' w'') :
    Calls Tryd.prog 24 #[.int .i64 n] w fun r w' => r = .returned (.tuple #[.int .u64 (o : Nat), .int .u8 fl]) ∧ Below w.heap.size w w' := by
  have K1 := hide C1; have K2 := hide C2; have K3 := hide C3; have HT := hide hT
  clear C1 C2 C3 hT
  go_enter Tryd.func24, Tryd.ntmps24
  go_wp2_with fail
  refine (unhide K1 _).mono ?_
  rintro e w1 ⟨v, rfl, ⟨n3, a3, c3, L3, rfl, i3⟩, hb1⟩
  have B1 := hide hb1
  have I1 := hide (show IsNum w.heap.size w1 (.agg #[.bool n3, .slice a3 L3.length c3]) n from ⟨n3, a3, c3, L3, rfl, i3⟩)
  clear hb1 K1 i3
  generalize L3.length = l3 at *
  go_wp2_with fail
  refine (unhide K2 _ _ _ ((unhide HT).all (unhide B1)) (unhide I1)).mono ?_
  rintro e w2 ⟨⟨v, rfl, hv⟩, hb1⟩
  obtain ⟨n2, a2, c2, L2, rfl, i2⟩ := hv
  have hb1a : Below w2.heap.size w2 (w2.alloc (.cells #[.bool n2, .slice a2 L2.length c2, .int .i64 X] 58)) := (Below.refl _ _).alloc (Nat.le_refl _) _
  have HY := hide ((show IsDy w2 (.agg #[.bool n2, .slice a2 L2.length c2, .int .i64 X]) M X from ⟨n2, a2, c2, L2, rfl, i2⟩).below hb1a)
  have B2 := hide ((unhide B1).trans ((hb1.trans (hb1a.mono hb1.size)).mono (unhide B1).size))
  have x3 := Box3.new w2 (.bool n2) (.slice a2 L2.length c2) (.int .i64 X)
  have z0 := x3.c0; have z1 := x3.c1; have z2 := x3.c2
  clear i2 hb1 hb1a K2 x3 I1 B1
  generalize L2.length = l2 at *
  go_wp2_with fail
  refine (unhide K3 _ _ ((unhide HT).all (unhide B2)) (unhide HY)).mono ?_
  rintro e w3 ⟨rfl, hb1⟩
  have B3 := hide ((unhide B2).trans (hb1.mono (unhide B2).size))
  clear hb1 K3 B2 z0 z1 z2 HY
  go_wp2
  exact bodyPost_ret (v := .tuple #[.int .u64 o, .int .u8 fl]) (by simp [results, Tryd.results24, go_sem]) rfl ⟨rfl, unhide B3⟩

/-- A whole number, rounded, and its flags. -/
def iV (n : Int) : Nat := wrd (decide (n < 0)) (rnd n.natAbs 0)
def iF (n : Int) : Int := rflag (oM n).natAbs (oE n 0)
theorem iV_lt (n : Int) : iV n < 18446744073709551616 := wrd_lt _ _ (by have := rnd_le n.natAbs 0; omega)
theorem int_tz (n : Int) (h : -9223372036854775808 ≤ n ∧ n ≤ 9223372036854775807) (h0 : n ≠ 0) : tz n.natAbs < 64 := tz_lt _ 64 (by omega) (by
  have : (2 : Nat) ^ 64 = 18446744073709551616 := by decide
  omega)
theorem int_facts (n : Int) (h : -9223372036854775808 ≤ n ∧ n ≤ 9223372036854775807) : dOk n 0 = true ∧ dRt (oM n) (oE n 0) = true ∧ (oM n).natAbs < 18446744073709551616 := by
  have hle := oM_le n
  refine ⟨?_, ?_, by omega⟩
  · unfold dOk
    by_cases h0 : n = 0
    · subst h0; decide
    · have := int_tz n h h0
      rw [decide_eq_true (show (-32768 : Int) ≤ 0 ∧ (0 : Int) ≤ 32768 by omega), decide_eq_true (show -16384 ≤ (0 : Int) + (tz n.natAbs : Int) ∧ (0 : Int) + (tz n.natAbs : Int) ≤ 16384 by omega), Bool.or_true]
      rfl
  · by_cases h0 : n = 0
    · subst h0; rw [oM_zero, oE_zero]; rfl
    · have := int_tz n h h0
      refine odd_dRt (oM_ne n h0).2 ?_
      rw [oE_ne _ _ h0]
      omega

theorem cint_any (n : Int) (w : World) (h : -9223372036854775808 ≤ n ∧ n ≤ 9223372036854775807) (hT : Tab w) :
    Calls Tryd.prog 24 #[.int .i64 n] w fun r w' => r = .returned (.tuple #[.int .u64 (iV n : Nat), .int .u8 (iF n)]) ∧ Below w.heap.size w w' := by
  obtain ⟨h1, h2, h3⟩ := int_facts n h
  have C3 : ∀ w' v, Tab w' → IsDy w' v (oM n) (oE n 0) → _ := fun w' v t hv => round_dy hv (small_TOP _ h3) h2 t
  rw [oM_sign, (rnd_odd n 0).1] at C3
  refine int_of _ n (oM n) (oE n 0) _ w hT (fun w' => of_any n w' h.1 h.2) (fun B w' v t hv => ?_) C3
  have := make_num 0 hv (small_TOP _ (by omega)) (by decide) t
  unfold dErr dM dX at this
  rw [h1] at this
  exact this.mono fun r w'' ⟨u, g1, g2, g3⟩ => ⟨⟨u, g1, g2⟩, g3⟩

set_option maxRecDepth 20000 in
set_option maxHeartbeats 2000000 in
theorem trunc_none (a : Nat) (w : World)
    (C1 : Calls Tryd.prog 55 #[.int .u64 a] w fun r w'' => DyR w'' r 7 0 0 ∧ Below w.heap.size w w'') :
    Calls Tryd.prog 26 #[.int .u64 a] w fun r w' => r = .returned (.tuple #[.int .i64 0, .int .i64 7]) ∧ Below w.heap.size w w' := by
  have K1 := hide C1
  clear C1
  go_enter Tryd.func26, Tryd.ntmps26
  go_wp2_with fail
  refine Calls.mono (unhide K1) ?_
  rintro e w1 ⟨⟨v, rfl, hv⟩, hb1⟩
  obtain ⟨n1, a1, c1, L1, rfl, i1⟩ := hv
  have hb1a : Below w1.heap.size w1 (w1.alloc (.cells #[.bool n1, .slice a1 L1.length c1, .int .i64 0] 58)) := (Below.refl _ _).alloc (Nat.le_refl _) _
  have B1 := hide (hb1.trans (hb1a.mono hb1.size))
  clear i1 hb1 hb1a K1
  generalize L1.length = l1 at *
  go_wp2
  exact bodyPost_ret (v := .tuple #[.int .i64 0, .int .i64 7]) (by simp [results, Tryd.results26, go_sem]) rfl ⟨rfl, unhide B1⟩

set_option maxRecDepth 20000 in
set_option maxHeartbeats 2000000 in
theorem trunc_of (a : Nat) (D X T e2 k er x f : Int) (w : World) (hw : (er = 0 ∧ x = k ∧ f = 0) ∨ (er = 2 ∧ x = 0 ∧ f = 7))
    (C1 : Calls Tryd.prog 55 #[.int .u64 a] w fun r w'' => DyR w'' r 0 D X ∧ Below w.heap.size w w'')
    (C2 : ∀ B w' v, IsNum B w' v D → Calls Tryd.prog 56 #[v, .int .i64 X] w' fun r w'' => ∃ v, r = .returned (.tuple #[v, .int .i64 e2]) ∧ IsNum w'.heap.size w'' v T ∧ Below w'.heap.size w' w'')
    (C3 : ∀ B w' v, IsNum B w' v T → Calls Tryd.prog 57 #[v] w' fun r w'' => r = .returned (.tuple #[.int .i64 k, .int .i64 er]) ∧ Below w'.heap.size w' w'') :
    Calls Tryd.prog 26 #[.int .u64 a] w fun r w' => r = .returned (.tuple #[.int .i64 x, .int .i64 f]) ∧ Below w.heap.size w w' := by
  have K1 := hide C1; have K2 := hide C2; have K3 := hide C3
  clear C1 C2 C3
  go_enter Tryd.func26, Tryd.ntmps26
  go_wp2_with fail
  refine Calls.mono (unhide K1) ?_
  rintro e w1 ⟨⟨v, rfl, hv⟩, hb1⟩
  obtain ⟨n1, a1, c1, L1, rfl, i1⟩ := hv
  have hb1a : Below w1.heap.size w1 (w1.alloc (.cells #[.bool n1, .slice a1 L1.length c1, .int .i64 X] 58)) := (Below.refl _ _).alloc (Nat.le_refl _) _
  have HX := hide (IsNum.below i1 hb1a)
  have B1 := hide (hb1.trans (hb1a.mono hb1.size))
  have x3 := Box3.new w1 (.bool n1) (.slice a1 L1.length c1) (.int .i64 X)
  have y0 := x3.c0; have y1 := x3.c1; have y2 := x3.c2
  clear i1 hb1 hb1a K1 x3
  generalize L1.length = l1 at *
  go_wp2_with fail
  refine (unhide K2 _ _ _ (unhide HX)).mono ?_
  rintro e w2 ⟨v, rfl, hv, hb1⟩
  obtain ⟨n2, a2, c2, L2, rfl, i2⟩ := hv
  have hb1a : Below w2.heap.size w2 (w2.alloc (.cells #[.bool n2, .slice a2 L2.length c2] 46)) := (Below.refl _ _).alloc (Nat.le_refl _) _
  have HY := hide (IsNum.below (show IsNum _ w2 (.agg #[.bool n2, .slice a2 L2.length c2]) T from ⟨n2, a2, c2, L2, rfl, i2⟩) hb1a)
  have B2 := hide ((unhide B1).trans ((hb1.trans (hb1a.mono hb1.size)).mono (unhide B1).size))
  have x3 := Box2.new w2 (.bool n2) (.slice a2 L2.length c2)
  have z0 := x3.c0; have z1 := x3.c1
  clear i2 hb1 hb1a K2 x3 y0 y1 y2 HX B1
  generalize L2.length = l2 at *
  go_wp2_with fail
  refine (unhide K3 _ _ _ (unhide HY)).mono ?_
  rintro e w3 ⟨rfl, hb1⟩
  have B3 := hide ((unhide B2).trans (hb1.mono (unhide B2).size))
  clear hb1 K3 B2 z0 z1 HY
  rcases hw with ⟨rfl, rfl, rfl⟩ | ⟨rfl, rfl, rfl⟩
  · go_wp2
    exact bodyPost_ret (v := .tuple #[.int .i64 x, .int .i64 0]) (by simp [results, Tryd.results26, go_sem]) rfl ⟨rfl, unhide B3⟩
  · go_wp2
    exact bodyPost_ret (v := .tuple #[.int .i64 0, .int .i64 7]) (by simp [results, Tryd.results26, go_sem]) rfl ⟨rfl, unhide B3⟩

set_option maxRecDepth 20000 in
set_option maxHeartbeats 2000000 in
theorem exp_0 (a : Nat) (k : Int) (w : World) (hk : k = 4 ∨ k = 3 ∨ k = 0)
    (C1 : ∀ w', Calls Tryd.prog 35 #[.int .u64 a] w' fun r w'' => r = .returned (.int .i64 k) ∧ Below w'.heap.size w' w'') :
    Calls Tryd.prog 30 #[.int .u64 a] w fun r w' => r = .returned (.int .i64 0) ∧ Below w.heap.size w w' := by
  have K1 := hide C1
  clear C1
  rcases hk with rfl | rfl | rfl
  all_goals
    go_enter Tryd.func30, Tryd.ntmps30
    go_wp2_with fail
    refine (unhide K1 _).mono ?_
    rintro e w1 ⟨rfl, hb1⟩
    clear K1
    go_wp2
    go_ret
    exact ⟨rfl, hb1⟩

set_option maxRecDepth 20000 in
set_option maxHeartbeats 2000000 in
theorem exp_f (a : Nat) (k D X t : Int) (w : World) (h4 : (k == 4) = false) (h3 : (k == 3) = false) (h0 : (k == 0) = false) (ht : -2000 ≤ t ∧ t ≤ 2000) (hT : Tab w)
    (C1 : ∀ w', Calls Tryd.prog 35 #[.int .u64 a] w' fun r w'' => r = .returned (.int .i64 k) ∧ Below w'.heap.size w' w'')
    (C2 : ∀ w', Tab w' → Calls Tryd.prog 55 #[.int .u64 a] w' fun r w'' => DyR w'' r 0 D X ∧ Below w'.heap.size w' w'')
    (C3 : ∀ w' v, IsDy w' v D X → Calls Tryd.prog 61 #[v] w' fun r w'' => r = .returned (.int .i64 t) ∧ Below w'.heap.size w' w'') :
    Calls Tryd.prog 30 #[.int .u64 a] w fun r w' => r = .returned (.int .i64 (t - 1)) ∧ Below w.heap.size w w' := by
  have K1 := hide C1; have K2 := hide C2; have K3 := hide C3; have HT := hide hT
  clear C1 C2 C3 hT
  have hw := wrap_small (t - 1) (by omega)
  go_enter Tryd.func30, Tryd.ntmps30
  go_wp2_with fail
  refine (unhide K1 _).mono ?_
  rintro e w1 ⟨rfl, hb1⟩
  have B1 := hide hb1
  clear K1 hb1
  go_wp2_with fail
  refine (unhide K2 _ ((unhide HT).all (unhide B1))).mono ?_
  rintro e w2 ⟨⟨v, rfl, hv⟩, hb1⟩
  obtain ⟨n2, a2, c2, L2, rfl, i2⟩ := hv
  have hb1a : Below w2.heap.size w2 (w2.alloc (.cells #[.bool n2, .slice a2 L2.length c2, .int .i64 X] 58)) := (Below.refl _ _).alloc (Nat.le_refl _) _
  have HY := hide ((show IsDy w2 (.agg #[.bool n2, .slice a2 L2.length c2, .int .i64 X]) D X from ⟨n2, a2, c2, L2, rfl, i2⟩).below hb1a)
  have B2 := hide ((unhide B1).trans ((hb1.trans (hb1a.mono hb1.size)).mono (unhide B1).size))
  have x3 := Box3.new w2 (.bool n2) (.slice a2 L2.length c2) (.int .i64 X)
  have z0 := x3.c0; have z1 := x3.c1; have z2 := x3.c2
  clear i2 hb1 hb1a K2 x3 B1
  generalize L2.length = l2 at *
  go_wp2_with fail
  refine (unhide K3 _ _ (unhide HY)).mono ?_
  rintro e w3 ⟨rfl, hb1⟩
  have B3 := hide ((unhide B2).trans (hb1.mono (unhide B2).size))
  clear hb1 K3 B2 z0 z1 z2 HY
  go_wp2
  go_ret
  exact ⟨rfl, unhide B3⟩

theorem bl_le53 {v : Nat} (h : v < 9007199254740992) : bl v ≤ 53 := by
  by_cases h0 : v = 0
  · subst h0; decide
  · obtain ⟨b1, b2, b3⟩ := bl_spec v h0
    have := pow_lt_of (Nat.lt_of_le_of_lt b2 (by rw [p53]; exact h))
    omega

theorem dtopN {w : World} {v : Value} {D X : Int} (hv : IsDy w v D X) (h1 : D % 2 = 1) (h2 : D.natAbs < 9007199254740992) (h3 : -1074 ≤ X ∧ X ≤ 1024) :
    Calls Tryd.prog 61 #[v] w fun r w' => r = .returned (.int .i64 ((bl D.natAbs : Int) + X)) ∧ Below w.heap.size w w' := by
  obtain ⟨na, ao, ca, A, rfl, a1, a2, a3, a4, a5⟩ := hv.right (small_TOP _ (by omega))
  have := dtop_any na ao ca A X w a1 (by omega)
  have hd : drB na A X = true := a5.trans (odd_dRt h1 (by omega))
  have hv : val A = D.natAbs := by rw [← a3, natAbs_sval]
  have hl := lenL_bl a1.2.1 a2
  have hb : bl D.natAbs ≤ 53 := bl_le53 h2
  rw [hl, hv, wrap_small _ (by omega)] at this
  exact this

/-- The greatest power of two that is at most a number. -/
def eX (a : Nat) : Int := if fK a = 4 ∨ fK a = 3 ∨ fK a = 0 then 0 else (bl (fD a).natAbs : Int) + fX a - 1

theorem cexp_any (a : Nat) (w : World) (ha : a < 18446744073709551616) (hT : Tab w) :
    Calls Tryd.prog 30 #[.int .u64 a] w fun r w' => r = .returned (.int .i64 (eX a)) ∧ Below w.heap.size w w' := by
  have C1 := fun w' => kind_any a w' ha
  unfold eX
  by_cases h : fK a = 4 ∨ fK a = 3 ∨ fK a = 0
  · rw [if_pos h]
    exact exp_0 a _ w h C1
  · rw [if_neg h]
    have fa := fin_of a (by omega) (by omega)
    obtain ⟨z1, z2, z3, z4, z5, z6, z7, z8, z9⟩ := sc_facts a ha fa (by omega)
    exact exp_f a _ (fD a) (fX a) _ w (by simp; omega) (by simp; omega) (by simp; omega) (by omega) hT C1 (fun w' t => value_some a w' ha fa t) (fun w' v hv => dtopN hv z1 z2 (by omega))

end Go.Proofs.YtpaikdlhkdgkpaaDoor

