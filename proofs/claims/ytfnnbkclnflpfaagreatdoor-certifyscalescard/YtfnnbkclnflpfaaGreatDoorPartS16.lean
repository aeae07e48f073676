/- Part 16 of the texts. -/
import Derived.Test.YtfnnbkclnflpfaaGreatDoorPartS15
/- The model's own sum of two words is this sum. -/
namespace Go.Proofs.YtfnnbkclnflpfaaGreatDoor
open Go.RowKit

theorem dbl_word (n : Bool) (r : Nat) : Ieee.double.word n r = wrd n r := by
  unfold Ieee.Format.word; rw [dbl_sw]; unfold wrd
  cases n
  · simp
  · simp [Nat.add_comm]

theorem cut_even (n : Bool) (v k : Nat) (h : v ≠ 0) : Ieee.Toward.even.cut n v k = cutE v k := by
  have hb := bl_spec v h
  have hbl : bl v = v.log2 + 1 := by unfold bl; rw [if_neg h]
  rw [hbl] at hb
  unfold Ieee.Toward.cut
  simp only [Nat.one_shiftLeft]
  by_cases c : k ≤ v.log2 + 2
  · rw [Nat.min_eq_left c]
    unfold cutE
    congr 1
    generalize 2 ^ k = g
    by_cases c1 : g < 2 * (v % g)
    · simp [c1]
    · by_cases c2 : g = 2 * (v % g) ∧ v / g % 2 = 1
      · rw [if_pos (Or.inr c2)]
        rw [decide_eq_false c1, Bool.false_or, beq_iff_eq.2 c2.1, beq_iff_eq.2 c2.2]; rfl
      · rw [if_neg (by rintro (h | h) <;> contradiction), decide_eq_false c1, Bool.false_or]
        have : (g == 2 * (v % g) && v / g % 2 == 1) = false := by
          rw [Bool.eq_false_iff]
          intro h3
          rw [Bool.and_eq_true, beq_iff_eq, beq_iff_eq] at h3
          exact c2 h3
        rw [this]; rfl
  · rw [Nat.min_eq_right (by omega)]
    have g1 : (2 : Nat) ^ (v.log2 + 2) = 2 ^ (v.log2 + 1) * 2 := Nat.pow_succ 2 _
    have g2 : (2 : Nat) ^ (v.log2 + 2) ≤ 2 ^ k := pow_le2 (by omega)
    unfold cutE
    generalize (2 : Nat) ^ (v.log2 + 2) = g at *
    generalize (2 : Nat) ^ k = q at *
    have hv : v < g := by omega
    have hq : v < q := by omega
    rw [Nat.div_eq_of_lt hv, Nat.mod_eq_of_lt hv, Nat.div_eq_of_lt hq, Nat.mod_eq_of_lt hq, if_neg (by omega), decide_eq_false (by omega)]
    have : (g == 2 * v) = false := by simp; omega
    rw [this]; rfl

theorem cutE_zero (v : Nat) : cutE v 0 = v := by have := cutE_whole v 0; simpa using this

theorem min_of (m k r : Nat) (h1 : r = m + k * 4503599627370496) (h2 : r ≤ 9218868437227405312) : min (k * 4503599627370496 + m) 9218868437227405312 = r := by omega
theorem min_inf (m k : Nat) (h1 : 4503599627370496 ≤ m) (h2 : 2046 ≤ k) : min (k * 4503599627370496 + m) 9218868437227405312 = 9218868437227405312 := by omega
theorem near_min (n : Bool) (v : Nat) (E : Int) (h : v ≠ 0) : wrd n (min ((lastE v E - -1074).toNat * 4503599627370496 + rndM v E) 9218868437227405312) = wrd n (rnd v E) := by
  have hM := (rndM_bounds v E h).2.1
  have l2 := (lastE_ge v E).2.1
  have h2 := rnd_le v E
  rw [show lastE v E - -1074 = lastE v E + 1074 by omega]
  by_cases ht : (bl v : Int) + E ≤ 1024
  · rw [min_of _ _ _ (rnd_fin v E h ht) h2]
  · have h1 : rnd v E = 9218868437227405312 := by unfold rnd; rw [if_neg h, if_pos (by omega)]
    rw [h1, min_inf _ _ (hM (by omega)) (by omega)]

/-- What the model rounds to is what is rounded here. -/
theorem nearest_wrd (n : Bool) (v : Nat) (E : Int) : Ieee.double.nearest n v E = wrd n (rnd v E) := by
  unfold Ieee.Format.nearest
  by_cases h : v = 0
  · rw [if_pos h, dbl_word]; unfold rnd; rw [if_pos h]
  · rw [if_neg h]
    simp only [dbl_lp, dbl_bin, dbl_inf, dbl_word]
    have hfb : (Ieee.double.fractionBits : Int) = 52 := rfl
    rw [hfb]
    have hbl : bl v = v.log2 + 1 := by unfold bl; rw [if_neg h]
    have hl : max (E + (v.log2 : Int) - 52) (-1074) = lastE v E := by unfold lastE; rw [hbl]; omega
    rw [hl]
    have hk : Ieee.Toward.even.cut n (v <<< (E - lastE v E).toNat) (lastE v E - E).toNat = rndM v E := by
      unfold rndM mS
      split
      · rename_i h1
        rw [show (lastE v E - E).toNat = 0 by omega, Nat.shiftLeft_eq]
        rw [cut_even _ _ _ (Nat.mul_ne_zero h (Nat.pos_iff_ne_zero.1 (Nat.two_pow_pos _))), cutE_zero]
      · rename_i h1
        rw [show (E - lastE v E).toNat = 0 by omega, Nat.shiftLeft_zero, cut_even _ _ _ h, show (-(E - lastE v E)).toNat = (lastE v E - E).toNat by omega]
    rw [hk]
    exact near_min n v E h

theorem fK_rungs (b : Nat) : (fK b = 4 ↔ 9218868437227405312 < fR b) ∧ (fK b = 3 ↔ fR b = 9218868437227405312) ∧ (fFin b = true ↔ fR b < 9218868437227405312) := by
  have h := fR_lt b
  have hF : fF b = fR b % 4503599627370496 := by unfold fF fR; omega
  have hP : fP b = fR b / 4503599627370496 := rfl
  unfold fK fFin
  rw [hF, hP]
  generalize fR b = r at *
  refine ⟨?_, ?_, ?_⟩
  · split
    · split <;> constructor <;> intro _ <;> omega
    · split
      · split <;> constructor <;> intro _ <;> omega
      · constructor <;> intro _ <;> omega
  · split
    · split <;> constructor <;> intro _ <;> omega
    · split
      · split <;> constructor <;> intro _ <;> omega
      · constructor <;> intro _ <;> omega
  · rw [decide_eq_true_iff]; omega

theorem read_nan (b : Nat) (_h : b < 18446744073709551616) (hk : fK b = 4) : ∃ s f, Ieee.double.read b = .nan s f := by
  have h1 := (fK_rungs b).1.1 hk
  unfold Ieee.Format.read
  rw [dbl_sw, dbl_bin, dbl_inf, dbl_lp]
  simp only
  have : b % 9223372036854775808 = fR b := rfl
  rw [this, if_neg (by omega), if_neg (by omega), if_neg (by omega)]
  exact ⟨_, _, rfl⟩

theorem read_inf (b : Nat) (h : b < 18446744073709551616) (hk : fK b = 3) : Ieee.double.read b = .infinity (fS b) := by
  have h1 := (fK_rungs b).2.1.1 hk
  rcases read_wrd (fS b) (fR b) (by omega) with ⟨c, _⟩ | ⟨_, e⟩
  · omega
  · rw [b_wrd b h] at e; exact e

theorem read_fin (b : Nat) (h : b < 18446744073709551616) (hk : fFin b = true) : ∃ (m : Nat) (k : Nat), Ieee.double.read b = .number (fS b) m (-1074 + (k : Int)) ∧ m * 2 ^ k = rv (fR b) := by
  have h1 := fR_fin b hk
  rcases read_wrd (fS b) (fR b) (by omega) with ⟨_, m, k, e, e2⟩ | ⟨c, _⟩
  · rw [b_wrd b h] at e; exact ⟨m, k, e, e2⟩
  · omega

theorem fin_of (b : Nat) (h3 : fK b ≠ 3) (h4 : fK b ≠ 4) : fFin b = true := by
  rcases fK_cases b with ⟨_, h | h⟩ | ⟨h, _⟩
  · exact absurd h h3
  · exact absurd h h4
  · exact h

theorem write_inf (n : Bool) : Ieee.double.write (.infinity n) = wrd n 9218868437227405312 := by
  show Ieee.double.word n Ieee.double.infRung = _
  rw [dbl_word, dbl_inf]

end Go.Proofs.YtfnnbkclnflpfaaGreatDoor

/- Sums rise; the difference of two near numbers is exact. -/
namespace Go.Proofs.YtfnnbkclnflpfaaGreatDoor
open Go.RowKit

theorem fR_wrd (n : Bool) (r : Nat) (h : r < 9223372036854775808) : fR (wrd n r) = r := (wrd_parts n r h).2
theorem fK_same {a b : Nat} (h : fR a = fR b) : fK a = fK b := by
  have hF : ∀ b, fF b = fR b % 4503599627370496 := fun b => by unfold fF fR; omega
  have hP : ∀ b, fP b = fR b / 4503599627370496 := fun b => rfl
  unfold fK
  rw [hF, hP, hF b, hP b, h]
theorem fin_kind {b : Nat} (hf : fFin b = true) : fK b ≠ 3 ∧ fK b ≠ 4 := by
  rcases fK_cases b with ⟨h, _⟩ | ⟨_, h⟩
  · rw [hf] at h; cases h
  · omega

theorem order_bits (a b : Nat) (ha : a < 18446744073709551616) (hb : b < 18446744073709551616) (na : fK a ≠ 4) (nb : fK b ≠ 4) : Ieee.double.order a b = some (compare (fZ a) (fZ b)) := by
  have h1 : fR a ≤ 9218868437227405312 := Nat.le_of_not_lt fun h => na ((fK_rungs a).1.2 h)
  have h2 : fR b ≤ 9218868437227405312 := Nat.le_of_not_lt fun h => nb ((fK_rungs b).1.2 h)
  have := order_wrd (fS a) (fS b) (fR a) (fR b) h1 h2
  rw [b_wrd a ha, b_wrd b hb] at this
  exact this
theorem order_nan (a b : Nat) (ha : a < 18446744073709551616) (hb : b < 18446744073709551616) (h : fK a = 4 ∨ fK b = 4) : Ieee.double.order a b = none := by
  unfold Ieee.Format.order
  rcases h with h | h
  · obtain ⟨s, f, e⟩ := read_nan a ha h
    rw [e]; rfl
  · obtain ⟨s, f, e⟩ := read_nan b hb h
    rw [e]; cases Ieee.double.read a <;> rfl

end Go.Proofs.YtfnnbkclnflpfaaGreatDoor

/- Contracts of package compare: Abs, place, Order, Less, Equal, Max. -/
namespace Go.Proofs.YtfnnbkclnflpfaaGreatDoor
open Go.RowKit
theorem rv8_lt {r s : Nat} (h : r < s) : rv r < rv s := Nat.lt_of_lt_of_le (rv_succ r) (rv_mono h)
theorem rv_pos {r : Nat} (h : 0 < r) : 0 < rv r := by have := rv8_lt h; rw [rv_zero] at this; exact this
end Go.Proofs.YtfnnbkclnflpfaaGreatDoor

/- Products and quotients of binary64: what they are, and that the model's own are these. -/
namespace Go.Proofs.YtfnnbkclnflpfaaGreatDoor
open Go.RowKit

theorem rv_eq0 (r : Nat) : rv r = 0 ↔ r = 0 := by
  constructor
  · intro h
    rcases Nat.eq_zero_or_pos r with e | e
    · exact e
    · have := rv_lt e; rw [rv_zero] at this; omega
  · intro h; rw [h, rv_zero]
theorem fK_zero (b : Nat) : fK b = 0 ↔ fR b = 0 := by
  have h := fR_lt b
  have hF : fF b = fR b % 4503599627370496 := by unfold fF fR; omega
  have hP : fP b = fR b / 4503599627370496 := rfl
  unfold fK
  rw [hF, hP]
  generalize fR b = r at *
  split
  · split <;> constructor <;> intro _ <;> omega
  · split
    · split <;> constructor <;> intro _ <;> omega
    · constructor <;> intro _ <;> omega

/-- The product, and its flags. -/
def mV (a b : Nat) : Nat :=
  if fK a = 4 ∨ fK b = 4 then 9221120237041090560
  else if fK a = 3 ∨ fK b = 3 then (if fK a = 0 ∨ fK b = 0 then 9221120237041090560 else wrd (fS a ^^ fS b) 9218868437227405312)
  else wrd (fS a ^^ fS b) (rnd (rv (fR a) * rv (fR b)) (-2148))
def mF (a b : Nat) : Int :=
  if fK a = 4 ∨ fK b = 4 then 0
  else if fK a = 3 ∨ fK b = 3 then (if fK a = 0 ∨ fK b = 0 then 16 else 0)
  else if fK a = 0 ∨ fK b = 0 then 0
  else rflag (oM (fZ a * fZ b)).natAbs (oE (fZ a * fZ b) (-2148))
/-- Is the product no number? -/
def mN (a b : Nat) : Bool := decide ((fK a = 4 ∨ fK b = 4) ∨ ((fK a = 3 ∨ fK b = 3) ∧ (fK a = 0 ∨ fK b = 0)))

theorem mul_comm6 (a b : Nat) : mV a b = mV b a ∧ mF a b = mF b a := by
  have h1 : (fK a = 4 ∨ fK b = 4) ↔ (fK b = 4 ∨ fK a = 4) := Or.comm
  have h2 : (fK a = 3 ∨ fK b = 3) ↔ (fK b = 3 ∨ fK a = 3) := Or.comm
  have h3 : (fK a = 0 ∨ fK b = 0) ↔ (fK b = 0 ∨ fK a = 0) := Or.comm
  unfold mV mF
  rw [Bool.xor_comm (fS b) (fS a), Nat.mul_comm (rv (fR b)), Int.mul_comm (fZ b)]
  simp only [h1, h2, h3, and_self]

theorem mag_zero {m k r : Nat} (h : m * 2 ^ k = rv r) : m = 0 ↔ r = 0 := by
  have hp : 0 < 2 ^ k := Nat.two_pow_pos _
  rw [← rv_eq0 r, ← h]
  constructor
  · intro e; rw [e, Nat.zero_mul]
  · intro e; rcases Nat.mul_eq_zero.1 e with e | e <;> omega

theorem fmul_some (a b : Nat) (ha : a < 18446744073709551616) (hb : b < 18446744073709551616) (h : mN a b = false) : Ieee.double.mul a b = some (mV a b) := by
  have h' := of_decide_eq_false h
  have n4 : ¬ (fK a = 4 ∨ fK b = 4) := fun e => h' (Or.inl e)
  have n3 : (fK a = 3 ∨ fK b = 3) → ¬ (fK a = 0 ∨ fK b = 0) := fun e e2 => h' (Or.inr ⟨e, e2⟩)
  unfold Ieee.Format.mul mV
  rw [if_neg n4]
  by_cases c1 : fK a = 3
  · rw [if_pos (Or.inl c1), if_neg (n3 (Or.inl c1)), read_inf a ha c1]
    by_cases c2 : fK b = 3
    · rw [read_inf b hb c2]
      show some (Ieee.double.write (.infinity (fS a ^^ fS b))) = _
      rw [write_inf]
    · obtain ⟨m, k, e, em⟩ := read_fin b hb (fin_of b c2 (by omega))
      have hm : m ≠ 0 := fun e0 => n3 (Or.inl c1) (Or.inr ((fK_zero b).2 ((mag_zero em).1 e0)))
      rw [e]
      show Option.map Ieee.double.write (if m = 0 then none else some (.infinity (fS a ^^ fS b))) = _
      rw [if_neg hm, Option.map_some, write_inf]
  · obtain ⟨m, k, e, em⟩ := read_fin a ha (fin_of a c1 (by omega))
    rw [e]
    by_cases c2 : fK b = 3
    · have hm : m ≠ 0 := fun e0 => n3 (Or.inr c2) (Or.inl ((fK_zero a).2 ((mag_zero em).1 e0)))
      rw [if_pos (Or.inr c2), if_neg (n3 (Or.inr c2)), read_inf b hb c2]
      show Option.map Ieee.double.write (if m = 0 then none else some (.infinity (fS b ^^ fS a))) = _
      rw [if_neg hm, Option.map_some, write_inf, Bool.xor_comm]
    · obtain ⟨m2, k2, e2, em2⟩ := read_fin b hb (fin_of b c2 (by omega))
      rw [if_neg (by omega), e2]
      show some (Ieee.double.nearest (fS a ^^ fS b) (m * m2) (-1074 + (k : Int) + (-1074 + (k2 : Int)))) = _
      rw [nearest_wrd]
      congr 2
      rw [← em, ← em2, show m * 2 ^ k * (m2 * 2 ^ k2) = m * m2 * 2 ^ (k + k2) by rw [Nat.pow_add]; ac_rfl, rnd_scale]
      congr 1
      omega

/-- The quotient's odd parts, and where they stand. -/
theorem odd_mag (b : Nat) (hb : b < 18446744073709551616) (hf : fFin b = true) (h0 : fK b ≠ 0) :
    ∃ β : Nat, fX b = -1074 + (β : Int) ∧ rv (fR b) = (fD b).natAbs * 2 ^ β ∧ (fD b).natAbs % 2 = 1 ∧ (fD b).natAbs < 9007199254740992 := by
  obtain ⟨d1, d2⟩ := fZ_level b hb hf
  have hr : fR b ≠ 0 := fun e => h0 ((fK_zero b).2 e)
  have hz : fZ b ≠ 0 := fun e => hr ((rv_eq0 _).1 (by rw [← fZ_abs, e]; rfl))
  have h1 := oM_abs (fZ b) hz
  have h2 := oE_ne (fZ b) (-1074) hz
  refine ⟨tz (fZ b).natAbs, by rw [← d2, h2], by rw [← fZ_abs, h1, d1]; congr 2; rw [← d1, ← h1], ?_, ?_⟩
  · have := (oM_ne (fZ b) hz).2
    rw [d1] at this
    omega
  · have : (oM (fM b)).natAbs ≤ (fM b).natAbs := oM_le _
    have h3 := fM_lt b
    show (oM (fM b)).natAbs < _
    omega

end Go.Proofs.YtfnnbkclnflpfaaGreatDoor

/- A number by itself, by One, times and by a power of two. -/
namespace Go.Proofs.YtfnnbkclnflpfaaGreatDoor
open Go.RowKit

theorem rnd_D (b : Nat) (hf : fFin b = true) : rnd (fD b).natAbs (fX b) = fR b := by
  have hr := rnd_bits b hf
  have ho := rnd_odd (fM b) (fE b)
  rw [fM_abs] at ho
  exact ho.1.trans hr.1
theorem rnd_rv (b : Nat) (hb : b < 18446744073709551616) (hf : fFin b = true) : rnd (rv (fR b)) (-1074) = fR b := by
  obtain ⟨d1, d2⟩ := fZ_level b hb hf
  have h := (rnd_odd (fZ b) (-1074)).1
  rw [d1, d2, fZ_abs, rnd_D b hf] at h
  exact h.symm
theorem kind_pos (a : Nat) (fa : fFin a = true) (a0 : fK a ≠ 0) : fK a ≠ 3 ∧ fK a ≠ 4 ∧ fK a ≠ 0 := ⟨(fin_kind fa).1, (fin_kind fa).2, a0⟩

theorem mV_fin (a b : Nat) (fa : fFin a = true) (fb : fFin b = true) (a0 : fK a ≠ 0) (b0 : fK b ≠ 0) : mV a b = wrd (fS a ^^ fS b) (rnd (rv (fR a) * rv (fR b)) (-2148)) ∧ mF a b = rflag (oM (fZ a * fZ b)).natAbs (oE (fZ a * fZ b) (-2148)) := by
  obtain ⟨a3, a4, _⟩ := kind_pos a fa a0
  obtain ⟨b3, b4, _⟩ := kind_pos b fb b0
  have h1 : ¬ (fK a = 4 ∨ fK b = 4) := by omega
  have h2 : ¬ (fK a = 3 ∨ fK b = 3) := by omega
  have h3 : ¬ (fK a = 0 ∨ fK b = 0) := by omega
  unfold mV mF
  simp only [if_neg h1, if_neg h2, if_neg h3, and_self]

end Go.Proofs.YtfnnbkclnflpfaaGreatDoor

