/- Part 21 of the texts. -/
import Derived.Test.YtgegjhkiiejhlaaDoorPart20
import Derived.Test.YtgegjhkiiejhlaaDoorPart19
/- The model's own sum of two words is this sum. -/
namespace Go.Proofs.YtgegjhkiiejhlaaDoor
open Go.RowKit

theorem dbl_word (n : Bool) (r : Nat) : Ieee.double.word n r = wrd n r := by
  unfold Ieee.Format.word; rw [dbl_sw]; unfold wrd
  cases n
  · simp
  · simp [Nat.add_comm]

theorem cut_even (n : Bool) (v k : Nat) (h : v ≠ 0) : Ieee.Toward.even.cut n v k = cutE v k := by
  have hb := bl_spec v h
  have hbl : bl v = v.log2 + 1 := by unfold bl; rw [if_neg h]
  rw [hbl] at hb
  unfold Ieee.Toward.cut
  simp only [Nat.one_shiftLeft]
  by_cases c : k ≤ v.log2 + 2
  · rw [Nat.min_eq_left c]
    unfold cutE
    congr 1
    generalize 2 ^ k = g
    by_cases c1 : g < 2 * (v % g)
    · simp [c1]
    · by_cases c2 : g = 2 * (v % g) ∧ v / g % 2 = 1
      · rw [if_pos (Or.inr c2)]
        rw [decide_eq_false c1, Bool.false_or, beq_iff_eq.2 c2.1, beq_iff_eq.2 c2.2]; rfl
      · rw [if_neg (by rintro (h | h) <;> contradiction), decide_eq_false c1, Bool.false_or]
        have : (g == 2 * (v % g) && v / g % 2 == 1) = false := by
          rw [Bool.eq_false_iff]
          intro h3
          rw [Bool.and_eq_true, beq_iff_eq, beq_iff_eq] at h3
          exact c2 h3
        rw [this]; rfl
  · rw [Nat.min_eq_right (by omega)]
    have g1 : (2 : Nat) ^ (v.log2 + 2) = 2 ^ (v.log2 + 1) * 2 := Nat.pow_succ 2 _
    have g2 : (2 : Nat) ^ (v.log2 + 2) ≤ 2 ^ k := pow_le2 (by omega)
    unfold cutE
    generalize (2 : Nat) ^ (v.log2 + 2) = g at *
    generalize (2 : Nat) ^ k = q at *
    have hv : v < g := by omega
    have hq : v < q := by omega
    rw [Nat.div_eq_of_lt hv, Nat.mod_eq_of_lt hv, Nat.div_eq_of_lt hq, Nat.mod_eq_of_lt hq, if_neg (by omega), decide_eq_false (by omega)]
    have : (g == 2 * v) = false := by simp; omega
    rw [this]; rfl

theorem cutE_zero (v : Nat) : cutE v 0 = v := by have := cutE_whole v 0; simpa using this

theorem min_of (m k r : Nat) (h1 : r = m + k * 4503599627370496) (h2 : r ≤ 9218868437227405312) : min (k * 4503599627370496 + m) 9218868437227405312 = r := by omega
theorem min_inf (m k : Nat) (h1 : 4503599627370496 ≤ m) (h2 : 2046 ≤ k) : min (k * 4503599627370496 + m) 9218868437227405312 = 9218868437227405312 := by omega
theorem near_min (n : Bool) (v : Nat) (E : Int) (h : v ≠ 0) : wrd n (min ((lastE v E - -1074).toNat * 4503599627370496 + rndM v E) 9218868437227405312) = wrd n (rnd v E) := by
  have hM := (rndM_bounds v E h).2.1
  have l2 := (lastE_ge v E).2.1
  have h2 := rnd_le v E
  rw [show lastE v E - -1074 = lastE v E + 1074 by omega]
  by_cases ht : (bl v : Int) + E ≤ 1024
  · rw [min_of _ _ _ (rnd_fin v E h ht) h2]
  · have h1 : rnd v E = 9218868437227405312 := by unfold rnd; rw [if_neg h, if_pos (by omega)]
    rw [h1, min_inf _ _ (hM (by omega)) (by omega)]

/-- What the model rounds to is what is rounded here. -/
theorem nearest_wrd (n : Bool) (v : Nat) (E : Int) : Ieee.double.nearest n v E = wrd n (rnd v E) := by
  unfold Ieee.Format.nearest
  by_cases h : v = 0
  · rw [if_pos h, dbl_word]; unfold rnd; rw [if_pos h]
  · rw [if_neg h]
    simp only [dbl_lp, dbl_bin, dbl_inf, dbl_word]
    have hfb : (Ieee.double.fractionBits : Int) = 52 := rfl
    rw [hfb]
    have hbl : bl v = v.log2 + 1 := by unfold bl; rw [if_neg h]
    have hl : max (E + (v.log2 : Int) - 52) (-1074) = lastE v E := by unfold lastE; rw [hbl]; omega
    rw [hl]
    have hk : Ieee.Toward.even.cut n (v <<< (E - lastE v E).toNat) (lastE v E - E).toNat = rndM v E := by
      unfold rndM mS
      split
      · rename_i h1
        rw [show (lastE v E - E).toNat = 0 by omega, Nat.shiftLeft_eq]
        rw [cut_even _ _ _ (Nat.mul_ne_zero h (Nat.pos_iff_ne_zero.1 (Nat.two_pow_pos _))), cutE_zero]
      · rename_i h1
        rw [show (E - lastE v E).toNat = 0 by omega, Nat.shiftLeft_zero, cut_even _ _ _ h, show (-(E - lastE v E)).toNat = (lastE v E - E).toNat by omega]
    rw [hk]
    exact near_min n v E h

theorem fK_rungs (b : Nat) : (fK b = 4 ↔ 9218868437227405312 < fR b) ∧ (fK b = 3 ↔ fR b = 9218868437227405312) ∧ (fFin b = true ↔ fR b < 9218868437227405312) := by
  have h := fR_lt b
  have hF : fF b = fR b % 4503599627370496 := by unfold fF fR; omega
  have hP : fP b = fR b / 4503599627370496 := rfl
  unfold fK fFin
  rw [hF, hP]
  generalize fR b = r at *
  refine ⟨?_, ?_, ?_⟩
  · split
    · split <;> constructor <;> intro _ <;> omega
    · split
      · split <;> constructor <;> intro _ <;> omega
      · constructor <;> intro _ <;> omega
  · split
    · split <;> constructor <;> intro _ <;> omega
    · split
      · split <;> constructor <;> intro _ <;> omega
      · constructor <;> intro _ <;> omega
  · rw [decide_eq_true_iff]; omega

theorem read_nan (b : Nat) (_h : b < 18446744073709551616) (hk : fK b = 4) : ∃ s f, Ieee.double.read b = .nan s f := by
  have h1 := (fK_rungs b).1.1 hk
  unfold Ieee.Format.read
  rw [dbl_sw, dbl_bin, dbl_inf, dbl_lp]
  simp only
  have : b % 9223372036854775808 = fR b := rfl
  rw [this, if_neg (by omega), if_neg (by omega), if_neg (by omega)]
  exact ⟨_, _, rfl⟩

theorem read_inf (b : Nat) (h : b < 18446744073709551616) (hk : fK b = 3) : Ieee.double.read b = .infinity (fS b) := by
  have h1 := (fK_rungs b).2.1.1 hk
  rcases read_wrd (fS b) (fR b) (by omega) with ⟨c, _⟩ | ⟨_, e⟩
  · omega
  · rw [b_wrd b h] at e; exact e

theorem read_fin (b : Nat) (h : b < 18446744073709551616) (hk : fFin b = true) : ∃ (m : Nat) (k : Nat), Ieee.double.read b = .number (fS b) m (-1074 + (k : Int)) ∧ m * 2 ^ k = rv (fR b) := by
  have h1 := fR_fin b hk
  rcases read_wrd (fS b) (fR b) (by omega) with ⟨_, m, k, e, e2⟩ | ⟨c, _⟩
  · rw [b_wrd b h] at e; exact ⟨m, k, e, e2⟩
  · omega

theorem inf_eq (a b : Nat) (ha : a < 18446744073709551616) (hb : b < 18446744073709551616) (h1 : fK a = 3) (h2 : fK b = 3) : a = b ↔ fS a = fS b := by
  have e1 := (fK_rungs a).2.1.1 h1
  have e2 := (fK_rungs b).2.1.1 h2
  constructor
  · intro h; rw [h]
  · intro h; rw [← b_wrd a ha, ← b_wrd b hb, h, e1, e2]

theorem fin_of (b : Nat) (h3 : fK b ≠ 3) (h4 : fK b ≠ 4) : fFin b = true := by
  rcases fK_cases b with ⟨_, h | h⟩ | ⟨h, _⟩
  · exact absurd h h3
  · exact absurd h h4
  · exact h

theorem sum_fin (n m : Bool) (r s a b k j : Nat) (h1 : a * 2 ^ k = rv r) (h2 : b * 2 ^ j = rv s) :
    (Ieee.Datum.sum (.number n a (-1074 + (k : Int))) (.number m b (-1074 + (j : Int)))).map Ieee.double.write = some (if pv n r + pv m s = 0 then (if (n && m) = true then 9223372036854775808 else 0) else wrd (decide (pv n r + pv m s < 0)) (rnd (pv n r + pv m s).natAbs (-1074))) := by
  unfold Ieee.Datum.sum
  simp only [Option.map_some]
  congr 1
  generalize hc : min k j = c
  have e1 : (-1074 + (k : Int) - min (-1074 + (k : Int)) (-1074 + (j : Int))).toNat = k - c := by omega
  have e2 : (-1074 + (j : Int) - min (-1074 + (k : Int)) (-1074 + (j : Int))).toNat = j - c := by omega
  have e3 : min (-1074 + (k : Int)) (-1074 + (j : Int)) = -1074 + (c : Int) := by omega
  rw [e1, e2, e3]
  have s1 := signed_pv n a k (k - c) r h1 (by omega)
  have s2 := signed_pv m b j (j - c) s h2 (by omega)
  rw [show k - (k - c) = c by omega] at s1
  rw [show j - (j - c) = c by omega] at s2
  have s3 : (Ieee.signed n a (k - c) + Ieee.signed m b (j - c)) * 2 ^ c = pv n r + pv m s := by rw [Int.add_mul, s1, s2]
  generalize Ieee.signed n a (k - c) + Ieee.signed m b (j - c) = t at *
  rw [← s3]
  have hp : (0 : Int) < 2 ^ c := Int.pow_pos (by decide)
  show Ieee.double.nearest (if t = 0 then n && m else decide (t < 0)) t.natAbs (-1074 + (c : Int)) = _
  rw [nearest_wrd]
  by_cases h0 : t = 0
  · subst h0
    rw [if_pos rfl, if_pos (by simp)]
    have : rnd (0 : Int).natAbs (-1074 + (c : Int)) = 0 := rnd_0 _
    rw [this]
    unfold wrd
    split <;> rfl
  · have hne : t * 2 ^ c ≠ 0 := Int.mul_ne_zero h0 (by omega)
    rw [if_neg h0, if_neg hne, Int.natAbs_mul, Int.natAbs_pow, show (2 : Int).natAbs = 2 from rfl, rnd_scale]
    congr 1
    by_cases h4 : t < 0
    · rw [decide_eq_true h4, decide_eq_true (Int.mul_neg_of_neg_of_pos h4 hp)]
    · rw [decide_eq_false h4, decide_eq_false (by have := Int.mul_nonneg (show 0 ≤ t by omega) (Int.le_of_lt hp); omega)]

/-- Is the sum no number? -/
def aN (a b : Nat) : Bool := decide ((fK a = 4 ∨ fK b = 4) ∨ (fK a = 3 ∧ fK b = 3 ∧ a ≠ b))

theorem fadd_none (a b : Nat) (ha : a < 18446744073709551616) (hb : b < 18446744073709551616) (h : aN a b = true) : Ieee.double.add a b = none ∧ aV a b = 9221120237041090560 := by
  unfold Ieee.Format.add
  rcases of_decide_eq_true h with (h | h) | ⟨h3, h4, h5⟩
  · obtain ⟨s, f, e⟩ := read_nan a ha h
    refine ⟨by rw [e]; rfl, ?_⟩
    unfold aV; rw [if_pos (Or.inl h)]
  · obtain ⟨s, f, e⟩ := read_nan b hb h
    refine ⟨?_, ?_⟩
    · rw [e]; cases Ieee.double.read a <;> rfl
    · unfold aV; rw [if_pos (Or.inr h)]
  · rw [read_inf a ha h3, read_inf b hb h4]
    have hs : fS a ≠ fS b := fun e => h5 ((inf_eq a b ha hb h3 h4).2 e)
    refine ⟨?_, ?_⟩
    · show Option.map Ieee.double.write (if fS a = fS b then some (.infinity (fS a)) else none) = none
      rw [if_neg hs]; rfl
    · unfold aV; rw [if_neg (by omega), if_pos h3, if_pos ⟨h4, h5⟩]

theorem write_inf (n : Bool) : Ieee.double.write (.infinity n) = wrd n 9218868437227405312 := by
  show Ieee.double.word n Ieee.double.infRung = _
  rw [dbl_word, dbl_inf]

theorem fadd_some (a b : Nat) (ha : a < 18446744073709551616) (hb : b < 18446744073709551616) (h : aN a b = false) : Ieee.double.add a b = some (aV a b) := by
  have h' := of_decide_eq_false h
  have n1 : fK a ≠ 4 := fun e => h' (Or.inl (Or.inl e))
  have n2 : fK b ≠ 4 := fun e => h' (Or.inl (Or.inr e))
  have n3 : fK a = 3 → fK b = 3 → a = b := fun e1 e2 => Decidable.byContradiction fun e3 => h' (Or.inr ⟨e1, e2, e3⟩)
  unfold Ieee.Format.add aV
  rw [if_neg (by omega)]
  by_cases c1 : fK a = 3
  · have r1 := (fK_rungs a).2.1.1 c1
    have w1 := b_wrd a ha
    rw [r1] at w1
    rw [if_pos c1, if_neg (by rintro ⟨h1, h2⟩; exact h2 (n3 c1 h1)), read_inf a ha c1]
    by_cases c2 : fK b = 3
    · rw [read_inf b hb c2]
      have := n3 c1 c2
      subst this
      show Option.map Ieee.double.write (if fS a = fS a then some (.infinity (fS a)) else none) = some a
      rw [if_pos rfl, Option.map_some, write_inf, w1]
    · obtain ⟨m, k, e, _⟩ := read_fin b hb (fin_of b c2 n2)
      rw [e]
      unfold Ieee.Datum.sum; simp only
      rw [Option.map_some, write_inf, w1]
  · obtain ⟨m, k, e, em⟩ := read_fin a ha (fin_of a c1 n1)
    rw [if_neg c1, e]
    by_cases c2 : fK b = 3
    · have r1 := (fK_rungs b).2.1.1 c2
      have w1 := b_wrd b hb
      rw [r1] at w1
      rw [if_pos c2, read_inf b hb c2]
      unfold Ieee.Datum.sum; simp only
      rw [Option.map_some, write_inf, w1]
    · obtain ⟨m2, k2, e2, em2⟩ := read_fin b hb (fin_of b c2 n2)
      rw [if_neg c2, e2]
      exact sum_fin (fS a) (fS b) (fR a) (fR b) m m2 k k2 em em2

/-- The one with the other sign. -/
theorem fN_wrd2 (b : Nat) (h : b < 18446744073709551616) : fN b = wrd (!fS b) (fR b) := by
  unfold fN fS fR
  by_cases c : 9223372036854775808 ≤ b
  · rw [if_pos c, decide_eq_true c]; show _ = wrd false _; rw [wrd_false]; omega
  · rw [if_neg c, decide_eq_false c]; show _ = wrd true _; rw [wrd_true]; omega
theorem fS_fN (b : Nat) (h : b < 18446744073709551616) : fS (fN b) = !fS b := by rw [fN_wrd2 b h, fS_wrd _ _ (fR_lt b)]
theorem fR_fN (b : Nat) (h : b < 18446744073709551616) : fR (fN b) = fR b := by
  have := fR_lt b
  rw [fN_wrd2 b h]
  unfold fR at *
  cases (!fS b)
  · rw [wrd_false]; omega
  · rw [wrd_true]; omega

theorem read_opp (b : Nat) (h : b < 18446744073709551616) : Ieee.double.read (fN b) = (Ieee.double.read b).opposite := by
  have h1 := fR_lt b
  have e1 := fN_wrd2 b h
  have e2 := (b_wrd b h).symm
  obtain ⟨p1, p2⟩ := wrd_parts (!fS b) (fR b) h1
  obtain ⟨q1, q2⟩ := wrd_parts (fS b) (fR b) h1
  rw [e1]
  conv => rhs; rw [e2]
  unfold Ieee.Format.read
  rw [dbl_sw, dbl_bin, dbl_inf, dbl_lp]
  simp only [p1, p2, q1, q2]
  generalize fR b = r
  split
  · rfl
  · split
    · rfl
    · split <;> rfl

theorem fsub_add (a b : Nat) (hb : b < 18446744073709551616) : Ieee.double.sub a b = Ieee.double.add a (fN b) := by
  unfold Ieee.Format.sub Ieee.Format.add
  rw [read_opp b hb]

end Go.Proofs.YtgegjhkiiejhlaaDoor

/- Sums rise; the difference of two near numbers is exact. -/
namespace Go.Proofs.YtgegjhkiiejhlaaDoor
open Go.RowKit

theorem fR_wrd (n : Bool) (r : Nat) (h : r < 9223372036854775808) : fR (wrd n r) = r := (wrd_parts n r h).2
theorem fZ_wrd (n : Bool) (r : Nat) (h : r < 9223372036854775808) : fZ (wrd n r) = pv n r := by
  unfold fZ; rw [fS_wrd n r h, fR_wrd n r h]
theorem fK_same {a b : Nat} (h : fR a = fR b) : fK a = fK b := by
  have hF : ∀ b, fF b = fR b % 4503599627370496 := fun b => by unfold fF fR; omega
  have hP : ∀ b, fP b = fR b / 4503599627370496 := fun b => rfl
  unfold fK
  rw [hF, hP, hF b, hP b, h]
theorem fK_fN (b : Nat) (h : b < 18446744073709551616) : fK (fN b) = fK b := fK_same (fR_fN b h)
theorem fFin_fN (b : Nat) (h : b < 18446744073709551616) : fFin (fN b) = fFin b := by
  have e := fR_fN b h
  unfold fFin
  rw [show fP (fN b) = fP b from by show fR (fN b) / 4503599627370496 = fR b / 4503599627370496; rw [e]]
theorem fZ_fN (b : Nat) (h : b < 18446744073709551616) : fZ (fN b) = - fZ b := by
  unfold fZ
  rw [fS_fN b h, fR_fN b h]
  unfold pv
  cases fS b <;> simp

theorem fin_kind {b : Nat} (hf : fFin b = true) : fK b ≠ 3 ∧ fK b ≠ 4 := by
  rcases fK_cases b with ⟨h, _⟩ | ⟨_, h⟩
  · rw [hf] at h; cases h
  · omega

/-- The sum of two finite numbers, and its value. -/
theorem aV_fin (a b : Nat) (fa : fFin a = true) (fb : fFin b = true) : fR (aV a b) = rnd (aZ a b).natAbs (-1074) ∧ fZ (aV a b) = pvZ (aZ a b) (-1074) := by
  obtain ⟨a3, a4⟩ := fin_kind fa
  obtain ⟨b3, b4⟩ := fin_kind fb
  rw [(add_f a b a3 a4 b3 b4).1]
  by_cases h0 : aZ a b = 0
  · rw [if_pos h0, h0]
    have e : (if (fS a && fS b) = true then 9223372036854775808 else 0) = wrd (fS a && fS b) 0 := by unfold wrd; split <;> rfl
    have r0 : rnd (0 : Int).natAbs (-1074) = 0 := rnd_0 _
    rw [e, fR_wrd _ _ (by decide), fZ_wrd _ _ (by decide), r0]
    refine ⟨rfl, ?_⟩
    unfold pvZ pv
    rw [r0, rv_zero]
    split <;> simp
  · rw [if_neg h0]
    have hle := rnd_le (aZ a b).natAbs (-1074)
    rw [fR_wrd _ _ (by omega), fZ_wrd _ _ (by omega)]
    exact ⟨rfl, rfl⟩

theorem order_bits (a b : Nat) (ha : a < 18446744073709551616) (hb : b < 18446744073709551616) (na : fK a ≠ 4) (nb : fK b ≠ 4) : Ieee.double.order a b = some (compare (fZ a) (fZ b)) := by
  have h1 : fR a ≤ 9218868437227405312 := Nat.le_of_not_lt fun h => na ((fK_rungs a).1.2 h)
  have h2 : fR b ≤ 9218868437227405312 := Nat.le_of_not_lt fun h => nb ((fK_rungs b).1.2 h)
  have := order_wrd (fS a) (fS b) (fR a) (fR b) h1 h2
  rw [b_wrd a ha, b_wrd b hb] at this
  exact this
theorem order_nan (a b : Nat) (ha : a < 18446744073709551616) (hb : b < 18446744073709551616) (h : fK a = 4 ∨ fK b = 4) : Ieee.double.order a b = none := by
  unfold Ieee.Format.order
  rcases h with h | h
  · obtain ⟨s, f, e⟩ := read_nan a ha h
    rw [e]; rfl
  · obtain ⟨s, f, e⟩ := read_nan b hb h
    rw [e]; cases Ieee.double.read a <;> rfl

theorem fZ_le (b : Nat) (nb : fK b ≠ 4) : (fZ b).natAbs ≤ 2 ^ 2098 := by
  have h2 : fR b ≤ 9218868437227405312 := Nat.le_of_not_lt fun h => nb ((fK_rungs b).1.2 h)
  rw [fZ_abs, ← rv_inf]; exact rv_mono h2
theorem fZ_inf (b : Nat) (hk : fK b = 3) : (fZ b).natAbs = 2 ^ 2098 := by
  rw [fZ_abs, (fK_rungs b).2.1.1 hk, rv_inf]
theorem nan_kind : fK 9221120237041090560 = 4 := by decide +kernel

theorem rises5 (a b c : Nat) (na : fK a ≠ 4) (nb : fK b ≠ 4) (h : fZ a ≤ fZ b) (n1 : fK (aV a c) ≠ 4) (n2 : fK (aV b c) ≠ 4) : fZ (aV a c) ≤ fZ (aV b c) := by
  have nc : fK c ≠ 4 := fun e => by
    unfold aV at n1; rw [if_pos (Or.inr e)] at n1; exact n1 nan_kind
  by_cases c3 : fK c = 3
  · have hx : ∀ x, fK x ≠ 4 → fK (aV x c) ≠ 4 → aV x c = c := fun x nx n => by
      unfold aV at n ⊢
      rw [if_neg (by omega)] at n ⊢
      by_cases x3 : fK x = 3
      · rw [if_pos x3] at n ⊢
        by_cases e : x = c
        · rw [if_neg (fun h => h.2 e)]; exact e
        · rw [if_pos ⟨c3, e⟩] at n; exact absurd nan_kind n
      · rw [if_neg x3, if_pos c3]
    rw [hx a na n1, hx b nb n2]
    exact Int.le_refl _
  · have fc := fin_of c c3 nc
    have hi : ∀ x, fK x = 3 → aV x c = x := fun x x3 => by
      unfold aV; rw [if_neg (by omega), if_pos x3, if_neg (fun h => c3 h.1)]
    by_cases a3 : fK a = 3
    · have e1 := hi a a3
      by_cases b3 : fK b = 3
      · rw [e1, hi b b3]; exact h
      · have l1 := fZ_lt b (fin_of b b3 nb)
        have l2 := fZ_inf a a3
        have l3 := fZ_le _ n2
        rw [e1]
        generalize (2 : Nat) ^ 2098 = P at *
        omega
    · by_cases b3 : fK b = 3
      · have e1 := hi b b3
        have l1 := fZ_lt a (fin_of a a3 na)
        have l2 := fZ_inf b b3
        have l3 := fZ_le _ n1
        rw [e1]
        generalize (2 : Nat) ^ 2098 = P at *
        omega
      · rw [(aV_fin a c (fin_of a a3 na) fc).2, (aV_fin b c (fin_of b b3 nb) fc).2]
        exact pvZ_mono (by unfold aZ; omega)

/-- What may come of two comparisons. -/
def goodO (o p : Option Ordering) : Prop := ((o = some .lt ∨ o = some .eq) → p ≠ some .gt) ∧ ((o = some .gt ∨ o = some .eq) → p ≠ some .lt)

theorem rises5_order (a b c : Nat) (ha : a < 18446744073709551616) (hb : b < 18446744073709551616) (hc : c < 18446744073709551616) : goodO (Ieee.double.order a b) (Ieee.double.order (aV a c) (aV b c)) := by
  by_cases h1 : fK a = 4 ∨ fK b = 4
  · rw [order_nan a b ha hb h1]
    exact ⟨fun h => (by rcases h with h | h <;> cases h), fun h => (by rcases h with h | h <;> cases h)⟩
  · by_cases h2 : fK (aV a c) = 4 ∨ fK (aV b c) = 4
    · rw [order_nan _ _ (aV_lt a c ha hc) (aV_lt b c hb hc) h2]
      exact ⟨fun _ h => (by cases h), fun _ h => (by cases h)⟩
    · rw [order_bits a b ha hb (by omega) (by omega), order_bits _ _ (aV_lt a c ha hc) (aV_lt b c hb hc) (by omega) (by omega)]
      have r1 := fun h => rises5 a b c (by omega) (by omega) h (by omega) (by omega)
      have r2 := fun h => rises5 b a c (by omega) (by omega) h (by omega) (by omega)
      generalize fZ (aV a c) = u at *
      generalize fZ (aV b c) = v at *
      generalize fZ a = x at *
      generalize fZ b = y at *
      refine ⟨fun h e => ?_, fun h e => ?_⟩
      · simp only [Option.some.injEq] at h e
        have e1 := Int.compare_eq_gt.1 e
        have : x ≤ y := by
          rcases h with h | h
          · exact Int.le_of_lt (Int.compare_eq_lt.1 h)
          · exact Int.le_of_eq (Int.compare_eq_eq.1 h)
        have := r1 this
        omega
      · simp only [Option.some.injEq] at h e
        have e1 := Int.compare_eq_lt.1 e
        have : y ≤ x := by
          rcases h with h | h
          · exact Int.le_of_lt (Int.compare_eq_gt.1 h)
          · exact Int.le_of_eq (Int.compare_eq_eq.1 h).symm
        have := r2 this
        omega

/-- A number that is written whole is got back. -/
theorem rv_exact (v : Nat) (E : Int) (h : v ≠ 0) (ht : (bl v : Int) + E ≤ 1024) (he : lastE v E ≤ E) : rv (rnd v E) = v * 2 ^ (E + 1074).toNat := by
  have hM := rndM_bounds v E h
  obtain ⟨l1, l2, l3⟩ := lastE_ge v E
  rw [rnd_fin v E h ht, rv_of _ _ hM.1 (fun hk => hM.2.1 (by omega))]
  unfold rndM mS
  rw [if_pos (by omega), Nat.mul_assoc, ← Nat.pow_add]
  congr 2
  omega

theorem fin_pow (b : Nat) (h : b < 18446744073709551616) (hf : fFin b = true) : ∃ m j : Nat, m < 9007199254740992 ∧ (fZ b).natAbs = m * 2 ^ j := by
  obtain ⟨j, h1, h2⟩ := fM_wrd (fS b) (fR b) (fR_fin b hf)
  rw [b_wrd b h, sg_pv] at h2
  refine ⟨(fM b).natAbs, j, fM_lt b, ?_⟩
  show (pv (fS b) (fR b)).natAbs = _
  rw [← h2, Int.natAbs_mul, Int.natAbs_pow]
  rfl

theorem near_low (x y m n j k : Nat) (hx : x = m * 2 ^ j) (hy : y = n * 2 ^ k) (hm : m < 9007199254740992) (hjk : j ≤ k) (h2 : y ≤ 2 * x) : ∃ q i : Nat, q < 9007199254740992 ∧ ((x : Int) - (y : Int)).natAbs = q * 2 ^ i := by
  obtain ⟨d, rfl⟩ : ∃ d, k = j + d := ⟨k - j, by omega⟩
  have hp : 0 < 2 ^ j := Nat.two_pow_pos _
  have hy' : y = n * 2 ^ d * 2 ^ j := by rw [hy, Nat.mul_assoc, ← Nat.pow_add, Nat.add_comm d j]
  generalize n * 2 ^ d = n' at hy'
  refine ⟨((m : Int) - (n' : Int)).natAbs, j, ?_, ?_⟩
  · have h3 : n' ≤ 2 * m := by
      rw [hx, hy', ← Nat.mul_assoc] at h2
      exact Nat.le_of_mul_le_mul_right h2 hp
    omega
  · have : (x : Int) - (y : Int) = ((m : Int) - (n' : Int)) * 2 ^ j := by
      rw [hx, hy', Int.natCast_mul, Int.natCast_mul, Int.natCast_pow, Int.sub_mul]; rfl
    rw [this, Int.natAbs_mul, Int.natAbs_pow]; rfl

theorem near_sub (x y m n j k : Nat) (hx : x = m * 2 ^ j) (hy : y = n * 2 ^ k) (hm : m < 9007199254740992) (hn : n < 9007199254740992) (h1 : x ≤ 2 * y) (h2 : y ≤ 2 * x) : ∃ q i : Nat, q < 9007199254740992 ∧ ((x : Int) - (y : Int)).natAbs = q * 2 ^ i := by
  by_cases hjk : j ≤ k
  · exact near_low x y m n j k hx hy hm hjk h2
  · obtain ⟨q, i, e1, e2⟩ := near_low y x n m k j hy hx hn (by omega) h1
    exact ⟨q, i, e1, by rw [← e2]; omega⟩

theorem exact5 (a b : Nat) (ha : a < 18446744073709551616) (hb : b < 18446744073709551616) (fa : fFin a = true) (fb : fFin b = true) (hs : fS a = fS b) (h1 : (fZ a).natAbs ≤ 2 * (fZ b).natAbs) (h2 : (fZ b).natAbs ≤ 2 * (fZ a).natAbs) :
    aF a (fN b) = 0 ∧ fFin (aV a (fN b)) = true ∧ fZ (aV a (fN b)) = fZ a - fZ b := by
  have fn : fFin (fN b) = true := by rw [fFin_fN b hb]; exact fb
  obtain ⟨a3, a4⟩ := fin_kind fa
  obtain ⟨b3, b4⟩ := fin_kind fn
  obtain ⟨e1, e2⟩ := aV_fin a (fN b) fa fn
  have hz : aZ a (fN b) = fZ a - fZ b := by unfold aZ; rw [fZ_fN b hb]; omega
  rw [(fK_rungs _).2.2, e1, e2, hz]
  have hF : aF a (fN b) = if fZ a - fZ b = 0 then 0 else rflag (oM (fZ a - fZ b)).natAbs (oE (fZ a - fZ b) (-1074)) := by
    rw [(add_f a (fN b) a3 a4 b3 b4).2, hz]
  rw [hF]
  by_cases h0 : fZ a - fZ b = 0
  · rw [h0]
    have r0 : rnd (0 : Int).natAbs (-1074) = 0 := rnd_0 _
    refine ⟨if_pos rfl, by rw [r0]; decide, ?_⟩
    unfold pvZ pv
    rw [r0, rv_zero]; rfl
  · rw [if_neg h0]
    have la := fZ_lt a fa
    have lb := fZ_lt b fb
    obtain ⟨m, j, m1, m2⟩ := fin_pow a ha fa
    obtain ⟨n, k, n1, n2⟩ := fin_pow b hb fb
    obtain ⟨q, i, q1, q2⟩ := near_sub _ _ m n j k m2 n2 m1 n1 h1 h2
    have hpq : (fZ a - fZ b).natAbs = (((fZ a).natAbs : Int) - ((fZ b).natAbs : Int)).natAbs := by
      have ua : fZ a = if fS a = true then -(rv (fR a) : Int) else (rv (fR a) : Int) := rfl
      have ub : fZ b = if fS b = true then -(rv (fR b) : Int) else (rv (fR b) : Int) := rfl
      rw [hs] at ua
      cases hsb : fS b
      · rw [hsb, if_neg (by decide)] at ua ub; omega
      · rw [hsb, if_pos rfl] at ua ub; omega
    rw [← hpq] at q2
    have hlt : (fZ a - fZ b).natAbs < 2 ^ 2098 := by
      generalize (2 : Nat) ^ 2098 = P at *
      omega
    generalize fZ a - fZ b = z at *
    obtain ⟨o1, o2⟩ := oM_ne z h0
    obtain ⟨r1, r2⟩ := rnd_odd z (-1074)
    obtain ⟨r3, r4⟩ := r2 h0
    have hbz : bl z.natAbs ≤ 2098 := by
      have := bl_spec z.natAbs (by omega)
      have := pow_lt_of (Nat.lt_of_le_of_lt this.2.1 hlt)
      omega
    -- the odd part has at most 53 digits
    obtain ⟨s, hs1, hs2⟩ : ∃ s : Int, s.natAbs = q ∧ z = s * 2 ^ i := by
      by_cases hneg : z < 0
      · refine ⟨-(q : Int), by omega, ?_⟩
        have : ((q * 2 ^ i : Nat) : Int) = (q : Int) * 2 ^ i := by rw [Int.natCast_mul, Int.natCast_pow]; rfl
        rw [Int.neg_mul, ← this]; omega
      · refine ⟨(q : Int), by omega, ?_⟩
        have : ((q * 2 ^ i : Nat) : Int) = (q : Int) * 2 ^ i := by rw [Int.natCast_mul, Int.natCast_pow]; rfl
        rw [← this]; omega
    have hod : (oM z).natAbs < 9007199254740992 := by
      rw [hs2, (oM_scale s i 0).1]
      have := oM_le s
      omega
    have hb53 : bl (oM z).natAbs ≤ 53 := by
      have h5 := bl_spec (oM z).natAbs (by omega)
      have := pow_lt_of (b := 53) (Nat.lt_of_le_of_lt h5.2.1 (by rw [p53]; exact hod))
      omega
    have hE := oE_ne z (-1074) h0
    have hv : (oM z).natAbs ≠ 0 := by omega
    have ht : (bl (oM z).natAbs : Int) + oE z (-1074) ≤ 1024 := by omega
    have hl : lastE (oM z).natAbs (oE z (-1074)) ≤ oE z (-1074) := by
      unfold lastE; omega
    have hx := rv_exact _ _ hv ht hl
    refine ⟨?_, ?_, ?_⟩
    · unfold rflag
      rw [if_neg hv, if_neg (by omega), if_pos hl]
    · rw [← r1]
      exact rnd_exact_lt _ _ hv ht hl
    · unfold pvZ pv
      rw [← r1, hx]
      have habs := oM_abs z h0
      have : (oE z (-1074) + 1074).toNat = tz z.natAbs := by omega
      rw [this, ← habs]
      by_cases hneg : z < 0
      · rw [decide_eq_true hneg, if_pos rfl]; omega
      · rw [decide_eq_false hneg, if_neg (by decide)]; omega

end Go.Proofs.YtgegjhkiiejhlaaDoor

/- Products and quotients of binary64: what they are, and that the model's own are these. -/
namespace Go.Proofs.YtgegjhkiiejhlaaDoor
open Go.RowKit

theorem rv_eq0 (r : Nat) : rv r = 0 ↔ r = 0 := by
  constructor
  · intro h
    rcases Nat.eq_zero_or_pos r with e | e
    · exact e
    · have := rv_lt e; rw [rv_zero] at this; omega
  · intro h; rw [h, rv_zero]
theorem fK_zero (b : Nat) : fK b = 0 ↔ fR b = 0 := by
  have h := fR_lt b
  have hF : fF b = fR b % 4503599627370496 := by unfold fF fR; omega
  have hP : fP b = fR b / 4503599627370496 := rfl
  unfold fK
  rw [hF, hP]
  generalize fR b = r at *
  split
  · split <;> constructor <;> intro _ <;> omega
  · split
    · split <;> constructor <;> intro _ <;> omega
    · constructor <;> intro _ <;> omega

/-- The product, and its flags. -/
def mV (a b : Nat) : Nat :=
  if fK a = 4 ∨ fK b = 4 then 9221120237041090560
  else if fK a = 3 ∨ fK b = 3 then (if fK a = 0 ∨ fK b = 0 then 9221120237041090560 else wrd (fS a ^^ fS b) 9218868437227405312)
  else wrd (fS a ^^ fS b) (rnd (rv (fR a) * rv (fR b)) (-2148))
def mF (a b : Nat) : Int :=
  if fK a = 4 ∨ fK b = 4 then 0
  else if fK a = 3 ∨ fK b = 3 then (if fK a = 0 ∨ fK b = 0 then 16 else 0)
  else if fK a = 0 ∨ fK b = 0 then 0
  else rflag (oM (fZ a * fZ b)).natAbs (oE (fZ a * fZ b) (-2148))
/-- Is the product no number? -/
def mN (a b : Nat) : Bool := decide ((fK a = 4 ∨ fK b = 4) ∨ ((fK a = 3 ∨ fK b = 3) ∧ (fK a = 0 ∨ fK b = 0)))

theorem mV_lt (a b : Nat) : mV a b < 18446744073709551616 := by
  have h := rnd_le (rv (fR a) * rv (fR b)) (-2148)
  unfold mV
  split
  · omega
  · split
    · split
      · omega
      · exact wrd_lt _ _ (by omega)
    · exact wrd_lt _ _ (by omega)

theorem mul_comm6 (a b : Nat) : mV a b = mV b a ∧ mF a b = mF b a := by
  have h1 : (fK a = 4 ∨ fK b = 4) ↔ (fK b = 4 ∨ fK a = 4) := Or.comm
  have h2 : (fK a = 3 ∨ fK b = 3) ↔ (fK b = 3 ∨ fK a = 3) := Or.comm
  have h3 : (fK a = 0 ∨ fK b = 0) ↔ (fK b = 0 ∨ fK a = 0) := Or.comm
  unfold mV mF
  rw [Bool.xor_comm (fS b) (fS a), Nat.mul_comm (rv (fR b)), Int.mul_comm (fZ b)]
  simp only [h1, h2, h3, and_self]

theorem mag_zero {m k r : Nat} (h : m * 2 ^ k = rv r) : m = 0 ↔ r = 0 := by
  have hp : 0 < 2 ^ k := Nat.two_pow_pos _
  rw [← rv_eq0 r, ← h]
  constructor
  · intro e; rw [e, Nat.zero_mul]
  · intro e; rcases Nat.mul_eq_zero.1 e with e | e <;> omega

theorem fmul_none (a b : Nat) (ha : a < 18446744073709551616) (hb : b < 18446744073709551616) (h : mN a b = true) : Ieee.double.mul a b = none ∧ mV a b = 9221120237041090560 := by
  unfold Ieee.Format.mul
  rcases of_decide_eq_true h with (h | h) | ⟨h3, h0⟩
  · obtain ⟨s, f, e⟩ := read_nan a ha h
    refine ⟨by rw [e]; rfl, ?_⟩
    unfold mV; rw [if_pos (Or.inl h)]
  · obtain ⟨s, f, e⟩ := read_nan b hb h
    refine ⟨?_, ?_⟩
    · rw [e]; cases Ieee.double.read a <;> rfl
    · unfold mV; rw [if_pos (Or.inr h)]
  · refine ⟨?_, ?_⟩
    · rcases h3 with h3 | h3
      · have hb0 : fK b = 0 := by rcases h0 with h | h <;> omega
        obtain ⟨m, k, e, em⟩ := read_fin b hb (fin_of b (by omega) (by omega))
        have : m = 0 := (mag_zero em).2 ((fK_zero b).1 hb0)
        rw [read_inf a ha h3, e, this]; rfl
      · have ha0 : fK a = 0 := by rcases h0 with h | h <;> omega
        obtain ⟨m, k, e, em⟩ := read_fin a ha (fin_of a (by omega) (by omega))
        have : m = 0 := (mag_zero em).2 ((fK_zero a).1 ha0)
        rw [read_inf b hb h3, e, this]; rfl
    · unfold mV
      by_cases h4 : fK a = 4 ∨ fK b = 4
      · rw [if_pos h4]
      · rw [if_neg h4, if_pos h3, if_pos h0]

theorem fmul_some (a b : Nat) (ha : a < 18446744073709551616) (hb : b < 18446744073709551616) (h : mN a b = false) : Ieee.double.mul a b = some (mV a b) := by
  have h' := of_decide_eq_false h
  have n4 : ¬ (fK a = 4 ∨ fK b = 4) := fun e => h' (Or.inl e)
  have n3 : (fK a = 3 ∨ fK b = 3) → ¬ (fK a = 0 ∨ fK b = 0) := fun e e2 => h' (Or.inr ⟨e, e2⟩)
  unfold Ieee.Format.mul mV
  rw [if_neg n4]
  by_cases c1 : fK a = 3
  · rw [if_pos (Or.inl c1), if_neg (n3 (Or.inl c1)), read_inf a ha c1]
    by_cases c2 : fK b = 3
    · rw [read_inf b hb c2]
      show some (Ieee.double.write (.infinity (fS a ^^ fS b))) = _
      rw [write_inf]
    · obtain ⟨m, k, e, em⟩ := read_fin b hb (fin_of b c2 (by omega))
      have hm : m ≠ 0 := fun e0 => n3 (Or.inl c1) (Or.inr ((fK_zero b).2 ((mag_zero em).1 e0)))
      rw [e]
      show Option.map Ieee.double.write (if m = 0 then none else some (.infinity (fS a ^^ fS b))) = _
      rw [if_neg hm, Option.map_some, write_inf]
  · obtain ⟨m, k, e, em⟩ := read_fin a ha (fin_of a c1 (by omega))
    rw [e]
    by_cases c2 : fK b = 3
    · have hm : m ≠ 0 := fun e0 => n3 (Or.inr c2) (Or.inl ((fK_zero a).2 ((mag_zero em).1 e0)))
      rw [if_pos (Or.inr c2), if_neg (n3 (Or.inr c2)), read_inf b hb c2]
      show Option.map Ieee.double.write (if m = 0 then none else some (.infinity (fS b ^^ fS a))) = _
      rw [if_neg hm, Option.map_some, write_inf, Bool.xor_comm]
    · obtain ⟨m2, k2, e2, em2⟩ := read_fin b hb (fin_of b c2 (by omega))
      rw [if_neg (by omega), e2]
      show some (Ieee.double.nearest (fS a ^^ fS b) (m * m2) (-1074 + (k : Int) + (-1074 + (k2 : Int)))) = _
      rw [nearest_wrd]
      congr 2
      rw [← em, ← em2, show m * 2 ^ k * (m2 * 2 ^ k2) = m * m2 * 2 ^ (k + k2) by rw [Nat.pow_add]; ac_rfl, rnd_scale]
      congr 1
      omega

/-- The quotient's odd parts, and where they stand. -/
theorem odd_mag (b : Nat) (hb : b < 18446744073709551616) (hf : fFin b = true) (h0 : fK b ≠ 0) :
    ∃ β : Nat, fX b = -1074 + (β : Int) ∧ rv (fR b) = (fD b).natAbs * 2 ^ β ∧ (fD b).natAbs % 2 = 1 ∧ (fD b).natAbs < 9007199254740992 := by
  obtain ⟨d1, d2⟩ := fZ_level b hb hf
  have hr : fR b ≠ 0 := fun e => h0 ((fK_zero b).2 e)
  have hz : fZ b ≠ 0 := fun e => hr ((rv_eq0 _).1 (by rw [← fZ_abs, e]; rfl))
  have h1 := oM_abs (fZ b) hz
  have h2 := oE_ne (fZ b) (-1074) hz
  refine ⟨tz (fZ b).natAbs, by rw [← d2, h2], by rw [← fZ_abs, h1, d1]; congr 2; rw [← d1, ← h1], ?_, ?_⟩
  · have := (oM_ne (fZ b) hz).2
    rw [d1] at this
    omega
  · have : (oM (fM b)).natAbs ≤ (fM b).natAbs := oM_le _
    have h3 := fM_lt b
    show (oM (fM b)).natAbs < _
    omega

/-- The quotient of two finite numbers that are not 0, rounded; its flags. -/
def qS (a b : Nat) : Nat := stk ((fD a).natAbs * 2 ^ 180) (fD b).natAbs
def qV (a b : Nat) : Nat := rnd (qS a b) (fX a - fX b - 181)
def qF (a b : Nat) : Int := rflag (oM (qS a b : Nat)).natAbs (oE (qS a b : Nat) (fX a - fX b - 181))
def dV (a b : Nat) : Nat :=
  if fK a = 4 ∨ fK b = 4 then 9221120237041090560
  else if fK a = fK b ∧ (fK a = 3 ∨ fK a = 0) then 9221120237041090560
  else if fK a = 3 then wrd (fS a ^^ fS b) 9218868437227405312
  else if fK b = 3 ∨ fK a = 0 then wrd (fS a ^^ fS b) 0
  else if fK b = 0 then wrd (fS a ^^ fS b) 9218868437227405312
  else wrd (fS a ^^ fS b) (qV a b)
def dF (a b : Nat) : Int :=
  if fK a = 4 ∨ fK b = 4 then 0
  else if fK a = fK b ∧ (fK a = 3 ∨ fK a = 0) then 16
  else if fK a = 3 then 0
  else if fK b = 3 ∨ fK a = 0 then 0
  else if fK b = 0 then 8
  else qF a b
/-- Is the quotient no number? -/
def dN (a b : Nat) : Bool := decide ((fK a = 4 ∨ fK b = 4) ∨ (fK a = fK b ∧ (fK a = 3 ∨ fK a = 0)))

theorem dV_lt (a b : Nat) : dV a b < 18446744073709551616 := by
  have h : qV a b ≤ 9218868437227405312 := rnd_le _ _
  have i1 := wrd_lt (fS a ^^ fS b) 9218868437227405312 (by decide)
  have i2 := wrd_lt (fS a ^^ fS b) 0 (by decide)
  have i3 := wrd_lt (fS a ^^ fS b) (qV a b) (by omega)
  unfold dV
  repeat' split
  all_goals omega

theorem quo_big (o d : Nat) (ho : 1 ≤ o) (hd : d < 9007199254740992) (hd0 : 0 < d) : 9007199254740992 ≤ o * 2 ^ 180 / d := by
  rw [Nat.le_div_iff_mul_le hd0]
  have h1 : 9007199254740992 * d ≤ 9007199254740992 * 9007199254740992 := Nat.mul_le_mul_left _ (by omega)
  have h2 : 9007199254740992 * 9007199254740992 ≤ 1 * 2 ^ 180 := by decide +kernel
  have h3 : 1 * 2 ^ 180 ≤ o * 2 ^ 180 := Nat.mul_le_mul_right _ ho
  exact Nat.le_trans h1 (Nat.le_trans h2 h3)

/-- Any magnitudes, any number of digits that is enough. -/
theorem quo_any (a b : Nat) (ha : a < 18446744073709551616) (hb : b < 18446744073709551616) (fa : fFin a = true) (fb : fFin b = true) (a0 : fK a ≠ 0) (b0 : fK b ≠ 0)
    (m k n j p : Nat) (hm : m * 2 ^ k = rv (fR a)) (hn : n * 2 ^ j = rv (fR b)) (hn0 : 0 < n) (hq : 9007199254740992 ≤ m * 2 ^ p / n) :
    rnd (stk (m * 2 ^ p) n) ((k : Int) - j - p - 1) = qV a b := by
  obtain ⟨α, x1, x2, x3, x4⟩ := odd_mag a ha fa a0
  obtain ⟨β, y1, y2, y3, y4⟩ := odd_mag b hb fb b0
  unfold qV qS
  rw [x1, y1, show -1074 + (α : Int) - (-1074 + (β : Int)) - 181 = ((α : Int) - β - 1) - (180 : Nat) by omega]
  have hbig := quo_big (fD a).natAbs (fD b).natAbs (by omega) y4 (by omega)
  generalize (fD a).natAbs = oa at *
  generalize (fD b).natAbs = ob at *
  have hp : ∀ i : Nat, 0 < 2 ^ i := fun i => Nat.two_pow_pos i
  -- more digits, then both sides times a power
  obtain ⟨s1, _, _, _⟩ := stk_step (m * 2 ^ p) n (k + β) ((k : Int) - j - p - 1) hn0 hq
  have e1 : m * 2 ^ p * 2 ^ (k + β) * 2 ^ j = oa * 2 ^ (α + p + j) * 2 ^ β := by
    rw [Nat.pow_add, show m * 2 ^ p * (2 ^ k * 2 ^ β) * 2 ^ j = (m * 2 ^ k) * (2 ^ p * 2 ^ β * 2 ^ j) by ac_rfl, hm, x2, Nat.pow_add, Nat.pow_add]
    ac_rfl
  have e2 : n * 2 ^ j = ob * 2 ^ β := by rw [hn, y2]
  have e3 : stk (m * 2 ^ p * 2 ^ (k + β)) n = stk (oa * 2 ^ (α + p + j)) ob := by
    rw [← stk_both _ n j, e1, e2, stk_both]
  rw [e3] at s1
  rw [← s1]
  have hb2 : 9007199254740992 ≤ oa * 2 ^ (α + p + j) / ob := by
    have d1 : oa * 2 ^ (α + p + j) / ob = m * 2 ^ p * 2 ^ (k + β) / n := by
      rw [← Nat.mul_div_mul_right _ ob (hp β), ← e1, ← e2, Nat.mul_div_mul_right _ n (hp j)]
    rw [d1]
    refine Nat.le_trans hq (Nat.div_le_div_right ?_)
    exact Nat.le_mul_of_pos_right _ (hp _)
  have := stk_any oa ob (α + p + j) 180 ((α : Int) - β - 1) (by omega) hb2 hbig
  rw [← this]
  congr 1
  omega

theorem fdiv_none (a b : Nat) (ha : a < 18446744073709551616) (hb : b < 18446744073709551616) (h : dN a b = true) : Ieee.double.div a b = none ∧ dV a b = 9221120237041090560 := by
  unfold Ieee.Format.div
  rcases of_decide_eq_true h with (h | h) | ⟨h1, h3⟩
  · obtain ⟨s, f, e⟩ := read_nan a ha h
    refine ⟨by rw [e]; rfl, ?_⟩
    unfold dV; rw [if_pos (Or.inl h)]
  · obtain ⟨s, f, e⟩ := read_nan b hb h
    refine ⟨?_, ?_⟩
    · rw [e]; cases Ieee.double.read a <;> rfl
    · unfold dV; rw [if_pos (Or.inr h)]
  · refine ⟨?_, ?_⟩
    · rcases h3 with h3 | h3
      · rw [read_inf a ha h3, read_inf b hb (by omega)]; rfl
      · obtain ⟨m, k, e, em⟩ := read_fin a ha (fin_of a (by omega) (by omega))
        obtain ⟨n, j, e2, en⟩ := read_fin b hb (fin_of b (by omega) (by omega))
        have hm : m = 0 := (mag_zero em).2 ((fK_zero a).1 h3)
        have hn : n = 0 := (mag_zero en).2 ((fK_zero b).1 (by omega))
        rw [e, e2, hm, hn]; rfl
    · unfold dV
      by_cases h4 : fK a = 4 ∨ fK b = 4
      · rw [if_pos h4]
      · rw [if_neg h4, if_pos ⟨h1, h3⟩]

theorem fdiv_some (a b : Nat) (ha : a < 18446744073709551616) (hb : b < 18446744073709551616) (h : dN a b = false) : Ieee.double.div a b = some (dV a b) := by
  have h' := of_decide_eq_false h
  have n4 : ¬ (fK a = 4 ∨ fK b = 4) := fun e => h' (Or.inl e)
  have nn : ¬ (fK a = fK b ∧ (fK a = 3 ∨ fK a = 0)) := fun e => h' (Or.inr e)
  unfold Ieee.Format.div dV
  rw [if_neg n4, if_neg nn]
  by_cases c1 : fK a = 3
  · obtain ⟨n, j, e2, en⟩ := read_fin b hb (fin_of b (fun e => nn ⟨by omega, Or.inl c1⟩) (by omega))
    rw [if_pos c1, read_inf a ha c1, e2]
    show some (Ieee.double.write (.infinity (fS a ^^ fS b))) = _
    rw [write_inf]
  · obtain ⟨m, k, e, em⟩ := read_fin a ha (fin_of a c1 (by omega))
    rw [if_neg c1, e]
    by_cases c2 : fK b = 3
    · rw [if_pos (Or.inl c2), read_inf b hb c2]
      show some (Ieee.double.nearest (fS a ^^ fS b) 0 0) = _
      rw [nearest_wrd, rnd_0]
    · obtain ⟨n, j, e2, en⟩ := read_fin b hb (fin_of b c2 (by omega))
      rw [e2]
      show Option.map Ieee.double.write (if n = 0 then if m = 0 then none else some (.infinity (fS a ^^ fS b)) else some (.number (fS a ^^ fS b) (2 * (m <<< (54 + n.log2 - m.log2) / n) + (m <<< (54 + n.log2 - m.log2) % n != 0).toNat) (-1074 + (k : Int) - (-1074 + (j : Int)) - ((54 + n.log2 - m.log2 : Nat) : Int) - 1))) = _
      by_cases c3 : fK a = 0
      · have hm : m = 0 := (mag_zero em).2 ((fK_zero a).1 c3)
        have hn : n ≠ 0 := fun e0 => nn ⟨by rw [c3, (fK_zero b).2 ((mag_zero en).1 e0)], Or.inr c3⟩
        rw [if_pos (Or.inr c3), if_neg hn, hm, Nat.zero_shiftLeft, Nat.zero_div, Nat.zero_mod]
        show some (Ieee.double.nearest (fS a ^^ fS b) 0 _) = _
        rw [nearest_wrd, rnd_0]
      · have hm : m ≠ 0 := fun e0 => c3 ((fK_zero a).2 ((mag_zero em).1 e0))
        have n34 : ¬ (fK b = 3 ∨ fK a = 0) := by omega
        rw [if_neg n34]
        by_cases c4 : fK b = 0
        · have hn : n = 0 := (mag_zero en).2 ((fK_zero b).1 c4)
          rw [if_pos c4, if_pos hn, if_neg hm, Option.map_some, write_inf]
        · have hn : n ≠ 0 := fun e0 => c4 ((fK_zero b).2 ((mag_zero en).1 e0))
          rw [if_neg c4, if_neg hn]
          have hst : 2 * (m <<< (54 + n.log2 - m.log2) / n) + (m <<< (54 + n.log2 - m.log2) % n != 0).toNat = stk (m * 2 ^ (54 + n.log2 - m.log2)) n := by
            rw [Nat.shiftLeft_eq]
            unfold stk
            congr 1
            split
            · rename_i h0; rw [h0]; rfl
            · rename_i h0; simp [h0]
          rw [hst]
          show some (Ieee.double.nearest (fS a ^^ fS b) (stk (m * 2 ^ (54 + n.log2 - m.log2)) n) _) = _
          rw [nearest_wrd]
          have b1 := bl_spec m hm
          have b2 := bl_spec n hn
          have l1 : bl m = m.log2 + 1 := by unfold bl; rw [if_neg hm]
          have l2 : bl n = n.log2 + 1 := by unfold bl; rw [if_neg hn]
          rw [l1, show m.log2 + 1 - 1 = m.log2 by omega] at b1
          rw [l2] at b2
          have hq : 9007199254740992 ≤ m * 2 ^ (54 + n.log2 - m.log2) / n := by
            rw [Nat.le_div_iff_mul_le (by omega)]
            have h1 : 9007199254740992 * n ≤ 2 ^ 53 * 2 ^ (n.log2 + 1) := by rw [p53]; exact Nat.mul_le_mul_left _ (by omega)
            have h2 : (2 : Nat) ^ 53 * 2 ^ (n.log2 + 1) ≤ 2 ^ m.log2 * 2 ^ (54 + n.log2 - m.log2) := by
              rw [← Nat.pow_add, ← Nat.pow_add]; exact pow_le2 (by omega)
            have h3 : 2 ^ m.log2 * 2 ^ (54 + n.log2 - m.log2) ≤ m * 2 ^ (54 + n.log2 - m.log2) := Nat.mul_le_mul_right _ b1.2.1
            omega
          have := quo_any a b ha hb (fin_of a c1 (by omega)) (fin_of b c2 (by omega)) c3 c4 m k n j (54 + n.log2 - m.log2) em en (by omega) hq
          rw [← this]
          congr 3
          omega

end Go.Proofs.YtgegjhkiiejhlaaDoor

/- A number by itself, by One, times and by a power of two. -/
namespace Go.Proofs.YtgegjhkiiejhlaaDoor
open Go.RowKit

theorem rnd_D (b : Nat) (hf : fFin b = true) : rnd (fD b).natAbs (fX b) = fR b := by
  have hr := rnd_bits b hf
  have ho := rnd_odd (fM b) (fE b)
  rw [fM_abs] at ho
  exact ho.1.trans hr.1
theorem rnd_rv (b : Nat) (hb : b < 18446744073709551616) (hf : fFin b = true) : rnd (rv (fR b)) (-1074) = fR b := by
  obtain ⟨d1, d2⟩ := fZ_level b hb hf
  have h := (rnd_odd (fZ b) (-1074)).1
  rw [d1, d2, fZ_abs, rnd_D b hf] at h
  exact h.symm
theorem rflag_D (b : Nat) (hb : b < 18446744073709551616) (hf : fFin b = true) : rflag (fD b).natAbs (fX b) = 0 := (back_facts b hb hf).2.1

theorem stk_one (o : Nat) : stk (o * 2 ^ 180) 1 = o * 2 ^ 181 := by
  obtain ⟨K, hK⟩ : ∃ K : Nat, K = 180 := ⟨_, rfl⟩
  rw [show (181 : Nat) = K + 1 by omega, ← hK, Nat.pow_succ]
  unfold stk
  rw [Nat.mod_one, if_pos rfl, Nat.div_one, Nat.add_zero]
  ac_rfl
theorem odd_nat {o : Nat} (h : o % 2 = 1) (e : Int) : oM (o : Int) = o ∧ oE (o : Int) e = e := by
  have hne : (o : Int) ≠ 0 := by omega
  have a := (oddOf (o : Int) hne).unique (m' := (o : Int)) (k' := 0) ⟨by simp, by omega⟩
  exact ⟨a.1, by rw [oE_ne _ _ hne, a.2]; simp⟩

/-- By a number whose odd part is 1. -/
theorem quo_one (a b : Nat) (ha : a < 18446744073709551616) (fa : fFin a = true) (a0 : fK a ≠ 0) (h1 : (fD b).natAbs = 1) (r : Nat) (X : Int) (hX : fX a - fX b = X) (hr : rnd (fD a).natAbs X = r) (hfl : rflag (fD a).natAbs X = 0) : qV a b = r ∧ qF a b = 0 := by
  obtain ⟨_, _, _, o3, _⟩ := odd_mag a ha fa a0
  unfold qV qF qS
  rw [h1, stk_one, hX]
  generalize (fD a).natAbs = o at *
  obtain ⟨K, hK⟩ : ∃ K : Nat, K = 181 := ⟨_, rfl⟩
  rw [← hK, show X - (181 : Int) = X - K by omega]
  have e : ((o * 2 ^ K : Nat) : Int) = (o : Int) * 2 ^ K := by rw [Int.natCast_mul, Int.natCast_pow]; rfl
  have s := oM_scale (o : Int) K (X - K)
  rw [show X - (K : Int) + K = X by omega, (odd_nat o3 X).1, (odd_nat o3 X).2] at s
  refine ⟨?_, ?_⟩
  · rw [rnd_scale, show X - (K : Int) + K = X by omega]; exact hr
  · rw [e, s.1, s.2, Int.natAbs_natCast]; exact hfl

theorem one_facts : fFin 4607182418800017408 = true ∧ fD 4607182418800017408 = 1 ∧ fX 4607182418800017408 = 0 ∧ fK 4607182418800017408 = 2 ∧ fS 4607182418800017408 = false ∧ fZ 4607182418800017408 = 2 ^ 1074 := by decide +kernel

theorem kind_pos (a : Nat) (fa : fFin a = true) (a0 : fK a ≠ 0) : fK a ≠ 3 ∧ fK a ≠ 4 ∧ fK a ≠ 0 := ⟨(fin_kind fa).1, (fin_kind fa).2, a0⟩

theorem dV_fin (a b : Nat) (fa : fFin a = true) (fb : fFin b = true) (a0 : fK a ≠ 0) (b0 : fK b ≠ 0) : dV a b = wrd (fS a ^^ fS b) (qV a b) ∧ dF a b = qF a b := by
  obtain ⟨a3, a4, _⟩ := kind_pos a fa a0
  obtain ⟨b3, b4, _⟩ := kind_pos b fb b0
  have h1 : ¬ (fK a = 4 ∨ fK b = 4) := by omega
  have h2 : ¬ (fK a = fK b ∧ (fK a = 3 ∨ fK a = 0)) := by omega
  have h3 : ¬ (fK b = 3 ∨ fK a = 0) := by omega
  unfold dV dF
  simp only [if_neg h1, if_neg h2, if_neg a3, if_neg h3, if_neg b0, and_self]
theorem mV_fin (a b : Nat) (fa : fFin a = true) (fb : fFin b = true) (a0 : fK a ≠ 0) (b0 : fK b ≠ 0) : mV a b = wrd (fS a ^^ fS b) (rnd (rv (fR a) * rv (fR b)) (-2148)) ∧ mF a b = rflag (oM (fZ a * fZ b)).natAbs (oE (fZ a * fZ b) (-2148)) := by
  obtain ⟨a3, a4, _⟩ := kind_pos a fa a0
  obtain ⟨b3, b4, _⟩ := kind_pos b fb b0
  have h1 : ¬ (fK a = 4 ∨ fK b = 4) := by omega
  have h2 : ¬ (fK a = 3 ∨ fK b = 3) := by omega
  have h3 : ¬ (fK a = 0 ∨ fK b = 0) := by omega
  unfold mV mF
  simp only [if_neg h1, if_neg h2, if_neg h3, and_self]

theorem self_zero : rnd (2 * 2 ^ 180) (-181) = 4607182418800017408 ∧ rflag (oM (2 * 2 ^ 180 : Nat)).natAbs (oE (2 * 2 ^ 180 : Nat) (-181)) = 0 := by decide +kernel

theorem div_self6 (a : Nat) (ha : a < 18446744073709551616) (fa : fFin a = true) (a0 : fK a ≠ 0) : dV a a = 4607182418800017408 ∧ dF a a = 0 := by
  obtain ⟨e1, e2⟩ := dV_fin a a fa fa a0 a0
  obtain ⟨_, _, _, o3, _⟩ := odd_mag a ha fa a0
  have hq : qS a a = 2 * 2 ^ 180 := by
    unfold qS stk
    generalize (fD a).natAbs = o at *
    rw [Nat.mul_mod_right, if_pos rfl, Nat.mul_div_cancel_left _ (by omega), Nat.add_zero]
  rw [e1, e2, Bool.xor_self, wrd_false]
  unfold qV qF
  rw [hq, show fX a - fX a - 181 = -181 by omega]
  exact self_zero

theorem div_one6 (a : Nat) (ha : a < 18446744073709551616) (fa : fFin a = true) (a0 : fK a ≠ 0) : dV a 4607182418800017408 = a ∧ dF a 4607182418800017408 = 0 := by
  obtain ⟨f1, f2, f3, f4, f5, f6⟩ := one_facts
  obtain ⟨e1, e2⟩ := dV_fin a 4607182418800017408 fa f1 a0 (by rw [f4]; decide)
  obtain ⟨q1, q2⟩ := quo_one a 4607182418800017408 ha fa a0 (by rw [f2]; rfl) (fR a) (fX a) (by rw [f3]; omega) (rnd_D a fa) (rflag_D a ha fa)
  rw [e1, e2, q1, q2, f5, Bool.xor_false, b_wrd a ha]
  exact ⟨rfl, rfl⟩

/-- A product that is a number, times 2 to the 1074. -/
theorem mul_exact (a b s : Nat) (hs : s < 18446744073709551616) (fa : fFin a = true) (fb : fFin b = true) (fs : fFin s = true) (a0 : fK a ≠ 0) (b0 : fK b ≠ 0) (h : fZ a * fZ b = fZ s * 2 ^ 1074) (hsg : fS s = (fS a ^^ fS b)) : mV a b = s ∧ mF a b = 0 := by
  obtain ⟨e1, e2⟩ := mV_fin a b fa fb a0 b0
  obtain ⟨d1, d2⟩ := fZ_level s hs fs
  obtain ⟨K, hK⟩ : ∃ K : Nat, K = 1074 := ⟨_, rfl⟩
  have h' : fZ a * fZ b = fZ s * 2 ^ K := by rw [hK]; exact h
  have hm : rv (fR a) * rv (fR b) = rv (fR s) * 2 ^ K := by
    rw [← fZ_abs, ← fZ_abs, ← fZ_abs, ← Int.natAbs_mul, h', Int.natAbs_mul, Int.natAbs_pow]; rfl
  have sc := oM_scale (fZ s) K (-2148)
  rw [← h', show (-2148 : Int) + K = -1074 by omega, d1, d2] at sc
  rw [e1, e2, hm, rnd_scale, show (-2148 : Int) + K = -1074 by omega, rnd_rv s hs fs, ← hsg, b_wrd s hs, sc.1, sc.2, rflag_D s hs fs]
  exact ⟨rfl, rfl⟩

theorem mul_one6 (a : Nat) (ha : a < 18446744073709551616) (fa : fFin a = true) (a0 : fK a ≠ 0) : mV a 4607182418800017408 = a ∧ mF a 4607182418800017408 = 0 := by
  obtain ⟨f1, f2, f3, f4, f5, f6⟩ := one_facts
  exact mul_exact a 4607182418800017408 a ha fa f1 fa a0 (by rw [f4]; decide) (by rw [f6]) (by rw [f5, Bool.xor_false])

theorem rv_shift (r k : Nat) (hr : 4503599627370496 ≤ r) : rv (r + k * 4503599627370496) = rv r * 2 ^ k := by
  unfold rv
  rw [if_neg (by omega), if_neg (by omega), Nat.add_mul_mod_self_right, Nat.add_mul_div_right _ _ (by decide), Nat.mul_assoc, ← Nat.pow_add]
  congr 2
  omega

/-- A power of two, and a number times it. -/
theorem power6 (a Q : Nat) (ha : a < 18446744073709551616) (h1 : 700 ≤ fP a) (h2 : fP a ≤ 1300) (q1 : 723 ≤ Q) (q2 : Q ≤ 1323) :
    ∃ s : Nat, s < 18446744073709551616 ∧ mV a (Q * 4503599627370496) = s ∧ mF a (Q * 4503599627370496) = 0 ∧ dV s (Q * 4503599627370496) = a ∧ dF s (Q * 4503599627370496) = 0 ∧ fF s = fF a := by
  have hrl := fR_lt a
  have hP : fP a = fR a / 4503599627370496 := rfl
  have hF : ∀ b, fF b = fR b % 4503599627370496 := fun b => by unfold fF fR; omega
  have fa : fFin a = true := (fK_rungs a).2.2.2 (by omega)
  have a0 : fK a ≠ 0 := fun e => by have := (fK_zero a).1 e; omega
  -- the power
  obtain ⟨p, hp⟩ : ∃ p : Nat, Q * 4503599627370496 = p := ⟨_, rfl⟩
  have pl : p < 9223372036854775808 := by omega
  have pw : wrd false p = p := wrd_false p
  have pS : fS p = false := by rw [← pw]; exact fS_wrd false p pl
  have pR : fR p = p := by unfold fR; omega
  have pf : fFin p = true := (fK_rungs p).2.2.2 (by omega)
  have p0 : fK p ≠ 0 := fun e => by have := (fK_zero p).1 e; omega
  have prv : rv (fR p) = 2 ^ (51 + Q) := by
    rw [pR, ← hp]
    obtain ⟨q, rfl⟩ : ∃ q, Q = q + 1 := ⟨Q - 1, by omega⟩
    rw [show (q + 1) * 4503599627370496 = 4503599627370496 + q * 4503599627370496 by omega, rv_shift _ _ (by omega)]
    have : rv 4503599627370496 = 2 ^ 52 := by decide
    rw [this, ← Nat.pow_add]
    congr 1
    omega
  have pZ : fZ p = ((2 ^ (51 + Q) : Nat) : Int) := by
    unfold fZ pv; rw [pS, if_neg (by decide), prv]
  -- the product
  obtain ⟨t, ht⟩ : ∃ t : Nat, t + 1023 * 4503599627370496 = fR a + Q * 4503599627370496 := ⟨fR a + Q * 4503599627370496 - 1023 * 4503599627370496, by omega⟩
  have tl : t < 9218868437227405312 := by omega
  have tb : 4503599627370496 ≤ t := by omega
  have hrv : rv t * 2 ^ 1023 = rv (fR a) * 2 ^ Q := by
    rw [← rv_shift t 1023 tb, ht, rv_shift _ _ (by omega)]
  obtain ⟨s, hs⟩ : ∃ s : Nat, wrd (fS a) t = s := ⟨_, rfl⟩
  have sl : s < 18446744073709551616 := by rw [← hs]; exact wrd_lt _ _ (by omega)
  have sS : fS s = fS a := by rw [← hs]; exact fS_wrd _ _ (by omega)
  have sR : fR s = t := by rw [← hs]; exact fR_wrd _ _ (by omega)
  have sf : fFin s = true := (fK_rungs s).2.2.2 (by omega)
  have s0 : fK s ≠ 0 := fun e => by have := (fK_zero s).1 e; omega
  obtain ⟨K, hK⟩ : ∃ K : Nat, K = 1023 := ⟨_, rfl⟩
  have hsz : fZ s * 2 ^ K = fZ a * 2 ^ Q := by
    unfold fZ pv
    rw [sS, sR]
    have hI : ((rv t : Nat) : Int) * 2 ^ K = ((rv (fR a) : Nat) : Int) * 2 ^ Q := by
      rw [← hK] at hrv
      have := congrArg (fun n : Nat => (n : Int)) hrv
      simp only [Int.natCast_mul, Int.natCast_pow] at this
      exact this
    split
    · rw [Int.neg_mul, Int.neg_mul, hI]
    · exact hI
  have hz : fZ a * fZ p = fZ s * 2 ^ 1074 := by
    have e1 : ((2 ^ (51 + Q) : Nat) : Int) = 2 ^ Q * 2 ^ 51 := by rw [Int.natCast_pow, Int.pow_add, Int.mul_comm]; rfl
    have e2 : (2 : Int) ^ 1074 = 2 ^ K * 2 ^ 51 := by rw [← Int.pow_add, hK]
    rw [pZ, e1, ← Int.mul_assoc, ← hsz, e2, ← Int.mul_assoc]
  obtain ⟨m1, m2⟩ := mul_exact a p s sl fa pf sf a0 p0 hz (by rw [sS, pS, Bool.xor_false])
  -- and back
  obtain ⟨d1, d2⟩ := fZ_level a ha fa
  obtain ⟨d3, d4⟩ := fZ_level s sl sf
  obtain ⟨d5, d6⟩ := fZ_level p (by omega) pf
  have pD : fD p = 1 ∧ fX p = (Q : Int) - 1023 := by
    have sc := oM_scale 1 (51 + Q) (-1074)
    have e : (1 : Int) * 2 ^ (51 + Q) = fZ p := by rw [pZ, Int.one_mul, Int.natCast_pow]; rfl
    have o := odd_nat (o := 1) (by decide) (-1074 + ((51 + Q : Nat) : Int))
    rw [e, d5, d6] at sc
    refine ⟨sc.1.trans o.1, ?_⟩
    rw [sc.2]
    refine (o.2).trans ?_
    omega
  have sD : fD s = fD a ∧ fX s = fX a + Q - 1023 := by
    have h3 := oM_scale (fZ s) K (-1074)
    have h4 := oM_scale (fZ a) Q (-1074)
    rw [hsz] at h3
    have za : fZ a ≠ 0 := fun e => a0 ((fK_zero a).2 ((rv_eq0 _).1 (by rw [← fZ_abs, e]; rfl)))
    have zs : fZ s ≠ 0 := fun e => s0 ((fK_zero s).2 ((rv_eq0 _).1 (by rw [← fZ_abs, e]; rfl)))
    refine ⟨by rw [← d3, ← d1, ← h3.1, h4.1], ?_⟩
    have h5 : oE (fZ s) (-1074 + K) = oE (fZ a) (-1074 + Q) := h3.2.symm.trans h4.2
    rw [oE_ne _ _ zs, oE_ne _ _ za] at h5
    rw [← d4, ← d2, oE_ne _ _ zs, oE_ne _ _ za]
    omega
  obtain ⟨g1, g2⟩ := quo_one s p sl sf s0 (by rw [pD.1]; rfl) (fR a) (fX a) (by rw [pD.2, sD.2]; omega) (by rw [sD.1]; exact rnd_D a fa) (by rw [sD.1]; exact rflag_D a ha fa)
  obtain ⟨v1, v2⟩ := dV_fin s p sf pf s0 p0
  refine ⟨s, sl, by rw [hp]; exact m1, by rw [hp]; exact m2, ?_, ?_, ?_⟩
  · rw [hp, v1, g1, pS, Bool.xor_false, sS, b_wrd a ha]
  · rw [hp, v2, g2]
  · rw [hF, hF, sR]; omega

end Go.Proofs.YtgegjhkiiejhlaaDoor

/- Square roots of binary64: what they are, and that the model's own are these. -/
namespace Go.Proofs.YtgegjhkiiejhlaaDoor
open Go.RowKit

/-- One value, two ways to write it: one root. -/
theorem root_two (m k p D α sh : Nat) (e1 e2 : Int) (hV : m * 2 ^ k = D * 2 ^ α) (h1 : 2 * e1 = (k : Int) - 1074 - p) (h2 : 2 * e2 = (α : Int) - 1074 - sh) (q1 : 9007199254740992 ≤ isq (m * 2 ^ p)) (q2 : 9007199254740992 ≤ isq (D * 2 ^ sh)) :
    rnd (rS (m * 2 ^ p)) (e1 - 1) = rnd (rS (D * 2 ^ sh)) (e2 - 1) ∧ rflag (oM (rS (m * 2 ^ p) : Nat)).natAbs (oE (rS (m * 2 ^ p) : Nat) (e1 - 1)) = rflag (oM (rS (D * 2 ^ sh) : Nat)).natAbs (oE (rS (D * 2 ^ sh) : Nat) (e2 - 1)) := by
  have key : ∀ (m k p D α sh i : Nat), m * 2 ^ k = D * 2 ^ α → p + 2 * i + α = k + sh → m * 2 ^ p * (2 ^ i * 2 ^ i) = D * 2 ^ sh := by
    intro m k p D α sh i hV hi
    have hp : 0 < 2 ^ α := Nat.two_pow_pos _
    refine Nat.eq_of_mul_eq_mul_right hp ?_
    rw [← Nat.pow_add, Nat.mul_assoc, Nat.mul_assoc, ← Nat.pow_add, ← Nat.pow_add, show p + (i + i + α) = k + sh by omega, Nat.pow_add, ← Nat.mul_assoc, hV]
    ac_rfl
  rcases Int.le_total e2 e1 with h | h
  · obtain ⟨i, hi⟩ : ∃ i : Nat, e1 - e2 = i := ⟨(e1 - e2).toNat, by omega⟩
    have e := key m k p D α sh i hV (by omega)
    have s := rS_step (m * 2 ^ p) i (e1 - 1) q1
    have f := rS_flag (m * 2 ^ p) i (e1 - 1) q1
    rw [e, show e1 - 1 - (i : Int) = e2 - 1 by omega] at s f
    exact ⟨s.1.symm, f.symm⟩
  · obtain ⟨i, hi⟩ : ∃ i : Nat, e2 - e1 = i := ⟨(e2 - e1).toNat, by omega⟩
    have e := key D α sh m k p i hV.symm (by omega)
    have s := rS_step (D * 2 ^ sh) i (e2 - 1) q2
    have f := rS_flag (D * 2 ^ sh) i (e2 - 1) q2
    rw [e, show e2 - 1 - (i : Int) = e1 - 1 by omega] at s f
    exact ⟨s.1, f⟩

/-- The root of a finite number above 0: from its value in units of the least number; its flags. -/
def tS (a : Nat) : Nat := rS (rv (fR a) * 2 ^ 120)
def tV (a : Nat) : Nat := rnd (tS a) (-598)
def tF (a : Nat) : Int := rflag (oM (tS a : Nat)).natAbs (oE (tS a : Nat) (-598))
/-- The root, and its flags. -/
def sV (a : Nat) : Nat :=
  if fK a = 4 then 9221120237041090560
  else if fK a = 0 ∨ a = 9218868437227405312 then a
  else if fS a = true then 9221120237041090560
  else tV a
def sF (a : Nat) : Int :=
  if fK a = 4 then 0
  else if fK a = 0 ∨ a = 9218868437227405312 then 0
  else if fS a = true then 16
  else tF a
/-- Is the root no number? -/
def sN (a : Nat) : Bool := decide (fK a = 4 ∨ (fK a ≠ 0 ∧ fS a = true))

theorem big_sq {N : Nat} (h : 2 ^ 106 ≤ N) : 9007199254740992 ≤ isq N := by
  obtain ⟨g1, g2⟩ := isq_spec N
  have e : (9007199254740992 : Nat) * 9007199254740992 = 2 ^ 106 := by decide
  have : 9007199254740992 < isq N + 1 := sq_lt_iff.1 (by omega)
  omega
theorem tS_big (a : Nat) (h0 : fK a ≠ 0) : 9007199254740992 ≤ isq (rv (fR a) * 2 ^ 120) := by
  have hr : rv (fR a) ≠ 0 := fun e => h0 ((fK_zero a).2 ((rv_eq0 _).1 e))
  refine big_sq (Nat.le_trans (show 2 ^ 106 ≤ 1 * 2 ^ 120 by decide) (Nat.mul_le_mul_right _ (by omega)))
/-- However its value is written, and however many digits, if they are enough. -/
theorem root_any (a m k p : Nat) (e : Int) (h0 : fK a ≠ 0) (hm : m * 2 ^ k = rv (fR a)) (he : 2 * e = (k : Int) - 1074 - p) (hq : 9007199254740992 ≤ isq (m * 2 ^ p)) :
    rnd (rS (m * 2 ^ p)) (e - 1) = tV a ∧ rflag (oM (rS (m * 2 ^ p) : Nat)).natAbs (oE (rS (m * 2 ^ p) : Nat) (e - 1)) = tF a := by
  have := root_two m k p (rv (fR a)) 0 120 e (-597) (by rw [hm]; simp) he (by omega) hq (tS_big a h0)
  exact this

/-- The model's own looking for a root finds it. -/
theorem rootFrom_isq (n : Nat) : ∀ (todo root : Nat), root * root ≤ n → n < (root + 2 ^ todo) * (root + 2 ^ todo) → Ieee.Datum.rootFrom n todo root = isq n := by
  intro todo
  induction todo with
  | zero =>
    intro root h1 h2
    unfold Ieee.Datum.rootFrom
    rw [Nat.pow_zero] at h2
    exact (isq_unique h1 h2).symm
  | succ t ih =>
    intro root h1 h2
    unfold Ieee.Datum.rootFrom
    rw [Nat.one_shiftLeft]
    have e : (2 : Nat) ^ (t + 1) = 2 ^ t + 2 ^ t := by rw [Nat.pow_succ]; omega
    show Ieee.Datum.rootFrom n t (if (root + 2 ^ t) * (root + 2 ^ t) ≤ n then root + 2 ^ t else root) = isq n
    split
    · rename_i h
      refine ih _ h ?_
      rw [e, ← Nat.add_assoc] at h2
      exact h2
    · rename_i h
      exact ih _ h1 (by omega)

theorem fsqrt_none (a : Nat) (ha : a < 18446744073709551616) (h : sN a = true) : Ieee.double.sqrt a = none ∧ sV a = 9221120237041090560 := by
  unfold Ieee.Format.sqrt
  rcases of_decide_eq_true h with h | ⟨h0, hs⟩
  · obtain ⟨s, f, e⟩ := read_nan a ha h
    refine ⟨by rw [e]; rfl, ?_⟩
    unfold sV; rw [if_pos h]
  · by_cases c4 : fK a = 4
    · obtain ⟨s, f, e⟩ := read_nan a ha c4
      refine ⟨by rw [e]; rfl, ?_⟩
      unfold sV; rw [if_pos c4]
    · have hne : ¬ (fK a = 0 ∨ a = 9218868437227405312) := by
        rintro (h | h)
        · exact h0 h
        · rw [h] at hs; revert hs; decide
      refine ⟨?_, by unfold sV; rw [if_neg c4, if_neg hne, if_pos hs]⟩
      by_cases c3 : fK a = 3
      · rw [read_inf a ha c3, hs]; rfl
      · obtain ⟨m, k, e, em⟩ := read_fin a ha (fin_of a c3 c4)
        have hm : m ≠ 0 := fun e0 => h0 ((fK_zero a).2 ((mag_zero em).1 e0))
        rw [e, hs]
        show Option.map Ieee.double.write (if m = 0 then _ else if true = true then none else _) = none
        rw [if_neg hm, if_pos rfl]; rfl

theorem fsqrt_some (a : Nat) (ha : a < 18446744073709551616) (h : sN a = false) : Ieee.double.sqrt a = some (sV a) := by
  have h' := of_decide_eq_false h
  have n4 : fK a ≠ 4 := fun e => h' (Or.inl e)
  have ns : fK a ≠ 0 → fS a = false := fun e => by
    cases hs : fS a
    · rfl
    · exact absurd (Or.inr ⟨e, hs⟩) h'
  unfold Ieee.Format.sqrt sV
  rw [if_neg n4]
  by_cases c3 : fK a = 3
  · have hs := ns (by omega)
    have hI : a = 9218868437227405312 := by
      have := b_wrd a ha
      rw [hs, wrd_false] at this
      have h3 := ((fK_rungs a).2.1.1 c3)
      omega
    rw [if_pos (Or.inr hI), read_inf a ha c3, hs]
    show some (Ieee.double.write (.infinity false)) = _
    rw [write_inf, hI]; rfl
  · obtain ⟨m, k, e, em⟩ := read_fin a ha (fin_of a c3 n4)
    rw [e]
    by_cases c0 : fK a = 0
    · have hm : m = 0 := (mag_zero em).2 ((fK_zero a).1 c0)
      rw [if_pos (Or.inl c0), hm]
      show some (Ieee.double.nearest (fS a) 0 _) = _
      rw [nearest_wrd, rnd_0, ← (fK_zero a).1 c0, b_wrd a ha]
    · have hs := ns c0
      have hm : m ≠ 0 := fun e0 => c0 ((fK_zero a).2 ((mag_zero em).1 e0))
      have hne : ¬ (fK a = 0 ∨ a = 9218868437227405312) := by
        rintro (h | h)
        · exact c0 h
        · apply c3; rw [h]; decide
      rw [if_neg hne, if_neg (show ¬ fS a = true by rw [hs]; decide), hs]
      obtain ⟨M, hM⟩ : ∃ M : Nat, M = (108 - m.log2) + ((-1074 + (k : Int) - ((108 - m.log2 : Nat) : Int)) % 2).toNat := ⟨_, rfl⟩
      show Option.map Ieee.double.write (if m = 0 then _ else if false = true then none else some (.number false (2 * (Ieee.Datum.rootFrom (m <<< ((108 - m.log2) + ((-1074 + (k : Int) - ((108 - m.log2 : Nat) : Int)) % 2).toNat)) ((m <<< ((108 - m.log2) + ((-1074 + (k : Int) - ((108 - m.log2 : Nat) : Int)) % 2).toNat)).log2 / 2 + 1) 0) + (Ieee.Datum.rootFrom (m <<< ((108 - m.log2) + ((-1074 + (k : Int) - ((108 - m.log2 : Nat) : Int)) % 2).toNat)) ((m <<< ((108 - m.log2) + ((-1074 + (k : Int) - ((108 - m.log2 : Nat) : Int)) % 2).toNat)).log2 / 2 + 1) 0 * Ieee.Datum.rootFrom (m <<< ((108 - m.log2) + ((-1074 + (k : Int) - ((108 - m.log2 : Nat) : Int)) % 2).toNat)) ((m <<< ((108 - m.log2) + ((-1074 + (k : Int) - ((108 - m.log2 : Nat) : Int)) % 2).toNat)).log2 / 2 + 1) 0 != m <<< ((108 - m.log2) + ((-1074 + (k : Int) - ((108 - m.log2 : Nat) : Int)) % 2).toNat)).toNat) ((-1074 + (k : Int) - (((108 - m.log2) + ((-1074 + (k : Int) - ((108 - m.log2 : Nat) : Int)) % 2).toNat : Nat) : Int)) / 2 - 1))) = _
      rw [← hM, if_neg hm, if_neg (by decide), Nat.shiftLeft_eq]
      obtain ⟨e1, he1⟩ : ∃ e1 : Int, 2 * e1 = (k : Int) - 1074 - M := ⟨((k : Int) - 1074 - M) / 2, by omega⟩
      have he2 : (-1074 + (k : Int) - (M : Int)) / 2 = e1 := by omega
      rw [he2]
      have hlog : 2 ^ m.log2 ≤ m := by
        have b1 := bl_spec m hm
        have l1 : bl m = m.log2 + 1 := by unfold bl; rw [if_neg hm]
        rw [l1, show m.log2 + 1 - 1 = m.log2 by omega] at b1
        exact b1.2.1
      have hbig : 2 ^ 106 ≤ m * 2 ^ M := by
        have h1 : 2 ^ m.log2 * 2 ^ M ≤ m * 2 ^ M := Nat.mul_le_mul_right _ hlog
        rw [← Nat.pow_add] at h1
        exact Nat.le_trans (pow_le2 (show 106 ≤ m.log2 + M by omega)) h1
      have hroot : Ieee.Datum.rootFrom (m * 2 ^ M) ((m * 2 ^ M).log2 / 2 + 1) 0 = isq (m * 2 ^ M) := by
        have hn : m * 2 ^ M ≠ 0 := by
          have := Nat.two_pow_pos 106
          omega
        have b2 := bl_spec _ hn
        have l2 : bl (m * 2 ^ M) = (m * 2 ^ M).log2 + 1 := by unfold bl; rw [if_neg hn]
        rw [l2] at b2
        refine rootFrom_isq _ _ 0 (Nat.zero_le _) ?_
        rw [Nat.zero_add, ← Nat.pow_add]
        exact Nat.lt_of_lt_of_le b2.2.2 (pow_le2 (by omega))
      rw [hroot]
      have hst : 2 * isq (m * 2 ^ M) + (isq (m * 2 ^ M) * isq (m * 2 ^ M) != m * 2 ^ M).toNat = rS (m * 2 ^ M) := by
        unfold rS
        congr 1
        split
        · rename_i h0; rw [h0]; simp
        · rename_i h0; simp [h0]
      rw [hst]
      show some (Ieee.double.nearest false (rS (m * 2 ^ M)) _) = _
      rw [nearest_wrd, wrd_false, (root_any a m k M e1 c0 em he1 (big_sq hbig)).1]

end Go.Proofs.YtgegjhkiiejhlaaDoor

