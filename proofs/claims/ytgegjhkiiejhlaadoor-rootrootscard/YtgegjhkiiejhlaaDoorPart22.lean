/- Part 22 of the texts. -/
import Derived.Test.YtgegjhkiiejhlaaDoorPart21
/- Roots rise; a number lies between the squares of halfway from its root to the next numbers. -/
namespace Go.Proofs.YtgegjhkiiejhlaaDoor
open Go.RowKit

theorem rS_mono {N M : Nat} (h : N ≤ M) : rS N ≤ rS M := by
  have h1 := isq_mono h
  obtain ⟨g1, g2⟩ := isq_spec N
  obtain ⟨k1, k2⟩ := isq_spec M
  unfold rS
  rcases Nat.lt_or_eq_of_le h1 with h2 | h2
  · split <;> split <;> omega
  · rw [h2] at g1 g2 ⊢
    split
    · split <;> omega
    · rename_i h3
      rw [if_neg (by omega)]
      exact Nat.le_refl _
theorem tV_le (a : Nat) : tV a ≤ 9218868437227405312 := rnd_le _ _
theorem tV_mono {a b : Nat} (h : fR a ≤ fR b) : tV a ≤ tV b := rnd_mono _ (rS_mono (Nat.mul_le_mul_right _ (rv_mono h)))
theorem rv_le_iff {r s : Nat} : rv r ≤ rv s ↔ r ≤ s := by
  constructor
  · intro h
    rcases Nat.lt_or_ge s r with h1 | h1
    · have := rv_lt h1; omega
    · exact h1
  · exact rv_mono
theorem sV_lt (a : Nat) (ha : a < 18446744073709551616) : sV a < 18446744073709551616 := by
  have h := tV_le a
  unfold sV
  repeat' split
  all_goals omega
theorem fZ_pos (r : Nat) (h : r < 9223372036854775808) : fZ r = rv r := by
  have := fZ_wrd false r h
  rw [wrd_false] at this
  rw [this]; rfl

/-- Which numbers have a root that is one, and its value. -/
theorem sV_val (a : Nat) (ha : a < 18446744073709551616) (n4 : fK a ≠ 4) (k4 : fK (sV a) ≠ 4) :
    (fK a = 0 ∧ fZ (sV a) = 0 ∧ fZ a = 0) ∨ (fK a ≠ 0 ∧ fS a = false ∧ fZ a = rv (fR a) ∧ ((fR a = 9218868437227405312 ∧ fZ (sV a) = rv 9218868437227405312) ∨ (fR a < 9218868437227405312 ∧ fZ (sV a) = rv (tV a)))) := by
  have hr : fR a ≤ 9218868437227405312 := Nat.le_of_not_lt fun h => n4 ((fK_rungs a).1.2 h)
  by_cases h0 : fK a = 0
  · have e : sV a = a := by unfold sV; rw [if_neg n4, if_pos (Or.inl h0)]
    have z : fZ a = 0 := by
      have := (fK_zero a).1 h0
      unfold fZ pv
      rw [this, rv_zero]
      split <;> simp
    exact .inl ⟨h0, by rw [e]; exact z, z⟩
  · refine .inr ⟨h0, ?_⟩
    by_cases hI : a = 9218868437227405312
    · have e : sV a = a := by unfold sV; rw [if_neg n4, if_pos (Or.inr hI)]
      rw [e, hI]
      exact ⟨by decide, by rw [fZ_pos _ (by decide)]; rfl, .inl ⟨by decide, by rw [fZ_pos _ (by decide)]⟩⟩
    · have hs : fS a = false := by
        cases hs : fS a
        · rfl
        · exfalso
          apply k4
          have : sV a = 9221120237041090560 := by unfold sV; rw [if_neg n4, if_neg (by rintro (h | h); exact h0 h; exact hI h), if_pos hs]
          rw [this]; decide
      have ea : a = fR a := by
        have := b_wrd a ha
        rw [hs, wrd_false] at this
        exact this.symm
      have e : sV a = tV a := by unfold sV; rw [if_neg n4, if_neg (by rintro (h | h); exact h0 h; exact hI h), if_neg (by rw [hs]; decide)]
      have ht := tV_le a
      refine ⟨hs, by unfold fZ; rw [hs]; rfl, .inr ⟨by omega, by rw [e]; exact fZ_pos _ (by omega)⟩⟩

theorem rises7 (a b : Nat) (ha : a < 18446744073709551616) (hb : b < 18446744073709551616) (na : fK a ≠ 4) (nb : fK b ≠ 4) (h : fZ a ≤ fZ b) (ka : fK (sV a) ≠ 4) (kb : fK (sV b) ≠ 4) : fZ (sV a) ≤ fZ (sV b) := by
  rcases sV_val a ha na ka with ⟨a0, a1, a2⟩ | ⟨a0, a1, a2, a3⟩
  · rw [a1]
    rcases sV_val b hb nb kb with ⟨b0, b1, b2⟩ | ⟨b0, b1, b2, b3 | b3⟩
    · omega
    · rw [b3.2]; omega
    · rw [b3.2]; omega
  · have pa : rv (fR a) ≠ 0 := fun e => a0 ((fK_zero a).2 ((rv_eq0 _).1 e))
    rcases sV_val b hb nb kb with ⟨b0, b1, b2⟩ | ⟨b0, b1, b2, b3⟩
    · omega
    · have hr : fR a ≤ fR b := rv_le_iff.1 (by omega)
      have ta := rv_mono (tV_le a)
      have tm := rv_mono (tV_mono hr)
      rcases a3 with ⟨c1, c2⟩ | ⟨c1, c2⟩ <;> rcases b3 with ⟨d1, d2⟩ | ⟨d1, d2⟩
      · omega
      · omega
      · omega
      · omega

theorem rises7_order (a b : Nat) (ha : a < 18446744073709551616) (hb : b < 18446744073709551616) : goodO (Ieee.double.order a b) (Ieee.double.order (sV a) (sV b)) := by
  by_cases h1 : fK a = 4 ∨ fK b = 4
  · rw [order_nan a b ha hb h1]
    exact ⟨fun h => (by rcases h with h | h <;> cases h), fun h => (by rcases h with h | h <;> cases h)⟩
  · by_cases h2 : fK (sV a) = 4 ∨ fK (sV b) = 4
    · rw [order_nan _ _ (sV_lt a ha) (sV_lt b hb) h2]
      exact ⟨fun _ h => (by cases h), fun _ h => (by cases h)⟩
    · rw [order_bits a b ha hb (by omega) (by omega), order_bits _ _ (sV_lt a ha) (sV_lt b hb) (by omega) (by omega)]
      have r1 := fun h => rises7 a b ha hb (by omega) (by omega) h (by omega) (by omega)
      have r2 := fun h => rises7 b a hb ha (by omega) (by omega) h (by omega) (by omega)
      generalize fZ (sV a) = u at *
      generalize fZ (sV b) = v at *
      generalize fZ a = x at *
      generalize fZ b = y at *
      refine ⟨fun h e => ?_, fun h e => ?_⟩
      · simp only [Option.some.injEq] at h e
        have e1 := Int.compare_eq_gt.1 e
        have : x ≤ y := by
          rcases h with h | h
          · exact Int.le_of_lt (Int.compare_eq_lt.1 h)
          · exact Int.le_of_eq (Int.compare_eq_eq.1 h)
        have := r1 this
        omega
      · simp only [Option.some.injEq] at h e
        have e1 := Int.compare_eq_lt.1 e
        have : y ≤ x := by
          rcases h with h | h
          · exact Int.le_of_lt (Int.compare_eq_gt.1 h)
          · exact Int.le_of_eq (Int.compare_eq_eq.1 h).symm
        have := r2 this
        omega

/-- How great and how small a root is. -/
theorem tlow : rnd (2 ^ 61) (-598) = 486 * 4503599627370496 := by decide +kernel
theorem thigh : rnd (2 ^ 1110) (-598) = 1535 * 4503599627370496 := by decide +kernel
theorem two60 : (2 : Nat) ^ 60 * 2 ^ 60 = 1 * 2 ^ 120 := by decide
theorem two1109 : (2 : Nat) ^ 1109 * 2 ^ 1109 = 2 ^ 2098 * 2 ^ 120 := by decide +kernel
theorem tS_low (a : Nat) (h0 : fK a ≠ 0) : 2 ^ 60 ≤ isq (rv (fR a) * 2 ^ 120) ∧ 2 ^ 61 ≤ tS a := by
  have hr : rv (fR a) ≠ 0 := fun e => h0 ((fK_zero a).2 ((rv_eq0 _).1 e))
  have h1 : 1 * 2 ^ 120 ≤ rv (fR a) * 2 ^ 120 := Nat.mul_le_mul_right _ (by omega)
  obtain ⟨g1, g2⟩ := isq_spec (rv (fR a) * 2 ^ 120)
  have h2 : 2 ^ 60 < isq (rv (fR a) * 2 ^ 120) + 1 := sq_lt_iff.1 (by rw [two60]; exact Nat.lt_of_le_of_lt h1 g2)
  refine ⟨Nat.le_of_lt_succ h2, ?_⟩
  have h3 := Nat.le_of_lt_succ h2
  have e : (2 : Nat) ^ 61 = 2 * 2 ^ 60 := by decide
  unfold tS rS
  rw [e]
  exact Nat.le_trans (Nat.mul_le_mul_left 2 h3) (Nat.le_add_right _ _)
theorem sq_top {V P c R : Nat} (hV : V < P) (hc : 0 < c) (hR : R * R = P * c) : isq (V * c) < R := by
  obtain ⟨g1, g2⟩ := isq_spec (V * c)
  have : V * c < P * c := (Nat.mul_lt_mul_right hc).2 hV
  exact sq_lt_iff.1 (by rw [hR]; omega)
theorem sq_topV {V : Nat} (h : V < 2 ^ 2098) : isq (V * 2 ^ 120) < 2 ^ 1109 := by
  have h1 := two1109
  have h2 := Nat.two_pow_pos 120
  generalize (2 : Nat) ^ 1109 = R at *
  generalize (2 : Nat) ^ 2098 = P at *
  generalize (2 : Nat) ^ 120 = c at *
  exact sq_top h h2 h1
theorem e1110 : (2 : Nat) ^ 1110 = 2 ^ 1109 * 2 := by decide +kernel
theorem e1074 : (2 : Nat) ^ 1074 = 2 ^ 120 * (2 ^ 477 * 2 ^ 477) := by decide +kernel
theorem e478 : (2 : Nat) ^ 478 = 2 * 2 * 2 ^ 476 := by decide +kernel
theorem e477 : (2 : Nat) ^ 477 = 2 * 2 ^ 476 := by decide +kernel
theorem rS_lt {N P : Nat} (h : isq N < P) : rS N ≤ P * 2 := by
  unfold rS
  have ht : (if isq N * isq N = N then 0 else 1) ≤ 1 := by split <;> omega
  omega
theorem tV_range (a : Nat) (hf : fFin a = true) (h0 : fK a ≠ 0) : 486 * 4503599627370496 ≤ tV a ∧ tV a ≤ 1535 * 4503599627370496 := by
  have h1 := fZ_lt a hf
  rw [fZ_abs] at h1
  have h3 := sq_topV h1
  have h4 : tS a ≤ 2 ^ 1110 := by
    rw [e1110]
    generalize (2 : Nat) ^ 1109 = R at *
    exact rS_lt h3
  refine ⟨?_, ?_⟩
  · rw [← tlow]; exact rnd_mono _ (tS_low a h0).2
  · rw [← thigh]; exact rnd_mono _ h4

theorem rv_mul (r : Nat) (h : 479 * 4503599627370496 ≤ r) : ∃ c, rv r = c * 2 ^ 478 := by
  unfold rv
  rw [if_neg (by omega)]
  obtain ⟨d, hd⟩ : ∃ d, r / 4503599627370496 - 1 = d + 478 := ⟨r / 4503599627370496 - 1 - 478, by omega⟩
  rw [hd, Nat.pow_add, ← Nat.mul_assoc]
  exact ⟨_, rfl⟩

/-- A number's value lies between. -/
theorem between7 (a : Nat) (hf : fFin a = true) (h0 : fK a ≠ 0) :
    (rv (tV a) + rv (tV a - 1)) * (rv (tV a) + rv (tV a - 1)) ≤ 4 * (rv (fR a) * 2 ^ 1074) ∧ 4 * (rv (fR a) * 2 ^ 1074) ≤ (rv (tV a) + rv (tV a + 1)) * (rv (tV a) + rv (tV a + 1)) := by
  obtain ⟨r1, r2⟩ := tV_range a hf h0
  have hs0 : tS a ≠ 0 := by have := (tS_low a h0).2; have := Nat.two_pow_pos 61; omega
  have hbl : (bl (tS a) : Int) + (-598) ≤ 1024 := by
    rcases Int.lt_or_le 1024 ((bl (tS a) : Int) + (-598)) with h | h
    · exfalso
      have : tV a = 9218868437227405312 := by unfold tV rnd; rw [if_neg hs0, if_pos h]
      omega
    · exact h
  have nn := near_num (tS a) (-598) (-1074) hs0 hbl 476 0 (by omega) (by omega)
  have m1 := rv_succ (tV a)
  have m2 := rv_succ (tV a - 1)
  rw [show tV a - 1 + 1 = tV a by omega] at m2
  obtain ⟨c0, e0⟩ := rv_mul (tV a) (by omega)
  obtain ⟨c1, e1⟩ := rv_mul (tV a - 1) (by omega)
  obtain ⟨c2, e2⟩ := rv_mul (tV a + 1) (by omega)
  obtain ⟨g1, g2⟩ := isq_spec (rv (fR a) * 2 ^ 120)
  have ht : tS a = 2 * isq (rv (fR a) * 2 ^ 120) + (if isq (rv (fR a) * 2 ^ 120) * isq (rv (fR a) * 2 ^ 120) = rv (fR a) * 2 ^ 120 then 0 else 1) := rfl
  have hV : rv (fR a) * 2 ^ 1074 = rv (fR a) * 2 ^ 120 * (2 ^ 477 * 2 ^ 477) := by
    rw [e1074, Nat.mul_assoc]
  rw [hV]
  have nn1 := nn.1
  have nn2 := nn.2 (by show 1 ≤ tV a; omega)
  rw [show rnd (tS a) (-598) = tV a from rfl] at nn1 nn2
  rw [Nat.pow_zero, Nat.mul_one, Nat.mul_one] at nn1 nn2
  rw [e478] at e0 e1 e2
  rw [e477]
  have hp : 0 < 2 ^ 476 := Nat.two_pow_pos 476
  generalize (2 : Nat) ^ 476 = p at *
  generalize (2 : Nat) ^ 120 = c120 at *
  generalize rv (fR a) * c120 = N at *
  generalize tS a = s at *
  generalize isq N = q at *
  generalize rv (tV a) = y at *
  generalize rv (tV a - 1) = x at *
  generalize rv (tV a + 1) = z at *
  clear nn hV r1 r2 hbl hs0
  -- twice the root against the sums
  have i1 : 2 * (s * p) ≤ y + z := by omega
  have i2 : y + x ≤ 2 * (s * p) := by omega
  have q4 : ∀ c : Nat, c * (2 * 2 * p) = 4 * (c * p) := fun c => by rw [show (4 : Nat) = 2 * 2 by decide]; ac_rfl
  rw [q4] at e0 e1 e2
  have k1 : y + x = 4 * ((c0 + c1) * p) := by rw [Nat.add_mul]; omega
  have k2 : y + z = 4 * ((c0 + c2) * p) := by rw [Nat.add_mul]; omega
  have j1 : s ≤ 2 * (c0 + c2) := Nat.le_of_mul_le_mul_right (by rw [Nat.mul_assoc]; omega) hp
  have j2 : 2 * (c0 + c1) ≤ s := Nat.le_of_mul_le_mul_right (by rw [Nat.mul_assoc]; omega) hp
  have u1 : c0 + c1 ≤ q := by
    rw [ht] at j2
    split at j2 <;> omega
  have u2 : N ≤ (c0 + c2) * (c0 + c2) := by
    rw [ht] at j1
    split at j1
    · rename_i h
      rw [← h]
      exact sq_le (by omega)
    · have := sq_le (show q + 1 ≤ c0 + c2 by omega)
      omega
  have w1 := sq_le u1
  rw [k1, k2]
  have f1 : ∀ c : Nat, 4 * (c * p) * (4 * (c * p)) = 4 * (c * c * (2 * p * (2 * p))) := fun c => by rw [show (4 : Nat) = 2 * 2 by decide]; ac_rfl
  rw [f1, f1]
  exact ⟨Nat.mul_le_mul_left _ (Nat.mul_le_mul_right _ (by omega)), Nat.mul_le_mul_left _ (Nat.mul_le_mul_right _ u2)⟩

end Go.Proofs.YtgegjhkiiejhlaaDoor

/- The root of a square. -/
namespace Go.Proofs.YtgegjhkiiejhlaaDoor
open Go.RowKit

theorem cutE_mul (v u : Nat) : 2 * (cutE v u * 2 ^ u) ≤ 2 * v + 2 ^ u ∧ 2 * v ≤ 2 * (cutE v u * 2 ^ u) + 2 ^ u ∧ (v % 2 ^ u = 0 → cutE v u * 2 ^ u = v) := by
  have hp : 0 < 2 ^ u := Nat.two_pow_pos _
  have h1 := Nat.div_add_mod v (2 ^ u)
  have h2 := Nat.mod_lt v hp
  rw [Nat.mul_comm] at h1
  unfold cutE
  generalize v / 2 ^ u = q at *
  generalize v % 2 ^ u = r at *
  generalize (2 : Nat) ^ u = p at *
  split
  · rw [Nat.add_mul, Nat.one_mul]
    exact ⟨by omega, by omega, by omega⟩
  · rw [Nat.add_zero]
    exact ⟨by omega, by omega, by omega⟩

/-- The digits of a root that lies near a number. -/
theorem near_digits (T M c d : Nat) (hc : c = 2 * d) (hd : 0 < d) (h1 : (2 * M - 1) * (2 * M - 1) < 4 * T) (h2 : 4 * T < (2 * M + 1) * (2 * M + 1)) :
    (2 * M - 1) * c < rS (T * (c * c)) ∧ rS (T * (c * c)) < (2 * M + 1) * c := by
  obtain ⟨g1, g2⟩ := isq_spec (T * (c * c))
  have hcc : 0 < c * c := Nat.mul_pos (by omega) (by omega)
  have k1 : (2 * M - 1) * (2 * M - 1) * (c * c) < 4 * T * (c * c) := (Nat.mul_lt_mul_right hcc).2 h1
  have k2 : 4 * T * (c * c) < (2 * M + 1) * (2 * M + 1) * (c * c) := (Nat.mul_lt_mul_right hcc).2 h2
  have k3 : 4 * T * (c * c) = 4 * (T * (c * c)) := Nat.mul_assoc _ _ _
  rw [k3] at k1 k2
  rw [← sq_mul] at k1 k2
  have ev1 : (2 * M - 1) * c = 2 * ((2 * M - 1) * d) := by rw [hc]; ac_rfl
  have ev2 : (2 * M + 1) * c = 2 * ((2 * M + 1) * d) := by rw [hc]; ac_rfl
  unfold rS
  generalize T * (c * c) = N at *
  generalize isq N = Q at *
  have q4 : ∀ x : Nat, 2 * x * (2 * x) = 4 * (x * x) := fun x => by rw [show (4 : Nat) = 2 * 2 by decide]; ac_rfl
  have i1 : (2 * M - 1) * c < 2 * (Q + 1) := sq_lt_iff.1 (by rw [q4 (Q + 1)]; omega)
  have i2 : 2 * Q < (2 * M + 1) * c := sq_lt_iff.1 (by rw [q4 Q]; omega)
  split
  · rename_i h
    have i3 : (2 * M - 1) * c < 2 * Q := sq_lt_iff.1 (by rw [q4 Q]; omega)
    exact ⟨by omega, by omega⟩
  · exact ⟨by omega, by omega⟩

/-- What a root comes to that lies near a number: as it is reckoned with 10 digits more. -/
theorem near_root (T M : Nat) (e : Nat) (hM1 : 4503599627370496 ≤ M) (hM2 : M < 9007199254740992) (he : 1 ≤ e) (he2 : e ≤ 1900)
    (h1 : (2 * M - 1) * (2 * M - 1) < 4 * T) (h2 : 4 * T < (2 * M + 1) * (2 * M + 1)) (h3 : M = 4503599627370496 → rS (T * (1024 * 1024)) = 9223372036854775808) :
    rnd (rS (T * (1024 * 1024))) ((e : Int) - 1085) = M + e * 4503599627370496 := by
  obtain ⟨w1, w2⟩ := near_digits T M 1024 512 rfl (by decide) h1 h2
  have w3 : 9223372036854775808 ≤ rS (T * (1024 * 1024)) := by
    by_cases hm : M = 4503599627370496
    · rw [h3 hm]; exact Nat.le_refl _
    · omega
  generalize rS (T * (1024 * 1024)) = W at *
  clear h1 h2 h3
  have hb : bl W = 64 := bl_of (by decide) (by have : (2 : Nat) ^ (64 - 1) = 9223372036854775808 := by decide
                                               omega) (by have : (2 : Nat) ^ 64 = 18446744073709551616 := by decide
                                                          omega)
  have hl : lastE W ((e : Int) - 1085) = (e : Int) - 1074 := by unfold lastE; rw [hb]; omega
  rw [rnd_fin W _ (by omega) (by rw [hb]; omega), hl]
  unfold rndM
  rw [hl, show (e : Int) - 1085 - ((e : Int) - 1074) = -((11 : Nat) : Int) by omega, mS_down _ _ (by decide)]
  have hc : cutE W 11 = M := by
    unfold cutE
    rw [show (2 : Nat) ^ 11 = 2048 by decide]
    by_cases hh : M * 2048 ≤ W
    · have a1 : W / 2048 = M := by omega
      rw [a1, if_neg (by omega), Nat.add_zero]
    · have a1 : W / 2048 = M - 1 := by omega
      rw [a1, if_pos (by omega)]
      omega
  rw [hc, show ((e : Int) - 1074 + 1074).toNat = e by omega]

theorem rS_of {N q : Nat} (h : q * q = N) : rS N = 2 * q := by
  have h1 : isq N = q := isq_unique (Nat.le_of_eq h) (by have := sq_succ q; omega)
  unfold rS
  rw [h1, if_pos h, Nat.add_zero]
theorem rS_one {T : Nat} (h : T = 4503599627370496 * 4503599627370496) : rS (T * (1024 * 1024)) = 9223372036854775808 :=
  (rS_of (q := 4611686018427387904) (by rw [h])).trans (by decide)
theorem sq_104 {M : Nat} (h : 4503599627370496 ≤ M) : 20282409603651670423947251286016 ≤ M * M := Nat.le_trans (by decide) (sq_le h)
theorem big_sqL {T : Nat} (h : 81129638414606681695789005144064 ≤ T * 1048576) : 9007199254740992 ≤ isq (T * 2 ^ 20) := by
  refine big_sq ?_
  have e1 : (2 : Nat) ^ 106 = 81129638414606681695789005144064 := by decide
  have e2 : (2 : Nat) ^ 20 = 1048576 := by decide
  rw [e1, e2]
  exact h
theorem t106 {T v p : Nat} (h1 : 20282409603651670423947251286016 ≤ v) (h2 : 2 * v ≤ 2 * T + p) (hp : p ≤ 9007199254740992) : 81129638414606681695789005144064 ≤ T * 1048576 := by omega
theorem bl_105 (M : Nat) (hM1 : 4503599627370496 ≤ M) (hM2 : M < 9007199254740992) : bl (M * M) = 105 ∨ (bl (M * M) = 106 ∧ M ≠ 4503599627370496) := by
  have h1 := sq_le hM1
  have h2 := sq_lt hM2
  have e1 : (4503599627370496 : Nat) * 4503599627370496 = 2 ^ 104 := by decide
  have e2 : (9007199254740992 : Nat) * 9007199254740992 = 2 ^ 106 := by decide
  rw [e1] at h1
  rw [e2] at h2
  rcases Nat.lt_or_ge (M * M) (2 ^ 105) with h | h
  · exact .inl (bl_of (by decide) h1 h)
  · refine .inr ⟨bl_of (by decide) h h2, fun hm => ?_⟩
    rw [hm, e1] at h
    exact absurd h (by decide)

/-- The root of a square is what was squared, without its sign. -/
theorem squares7 (a : Nat) (h1 : 600 ≤ fP a) (h2 : fP a ≤ 1400) : sV (mV a a) = fR a := by
  have hP : fP a = fR a / 4503599627370496 := rfl
  have hF := Nat.div_add_mod (fR a) 4503599627370496
  have hFl := Nat.mod_lt (fR a) (show 0 < 4503599627370496 by decide)
  obtain ⟨M, hM⟩ : ∃ M, M = 4503599627370496 + fR a % 4503599627370496 := ⟨_, rfl⟩
  obtain ⟨e, he⟩ : ∃ e, fP a = e + 1 := ⟨fP a - 1, by omega⟩
  have hr : fR a = M + e * 4503599627370496 := by omega
  have hrv : rv (fR a) = M * 2 ^ e := by rw [hr]; exact rv_of M e (by omega) (fun _ => by omega)
  have fa : fFin a = true := (fK_rungs a).2.2.2 (by omega)
  have k3 : fK a ≠ 3 ∧ fK a ≠ 4 := fin_kind fa
  have k0 : fK a ≠ 0 := fun h => by have := (fK_zero a).1 h; omega
  -- the square, rounded
  have hv : mV a a = rnd (M * M) (2 * (e : Int) - 2148) := by
    rw [(mV_fin a a fa fa k0 k0).1, Bool.xor_self, wrd_false, hrv, show M * 2 ^ e * (M * 2 ^ e) = M * M * 2 ^ (e + e) by rw [Nat.pow_add]; ac_rfl, rnd_scale]
    congr 1
    omega
  have hbl := bl_105 M (by omega) (by omega)
  have hne : M * M ≠ 0 := Nat.mul_ne_zero (by omega) (by omega)
  obtain ⟨u, hu⟩ : ∃ u, bl (M * M) = u + 53 := ⟨bl (M * M) - 53, by omega⟩
  have hl : lastE (M * M) (2 * (e : Int) - 2148) = (u : Int) + 2 * e - 2148 := by unfold lastE; rw [hu]; omega
  have hmb := rndM_bounds (M * M) (2 * (e : Int) - 2148) hne
  have hMd : rndM (M * M) (2 * (e : Int) - 2148) = cutE (M * M) u := by
    unfold rndM
    rw [hl, show 2 * (e : Int) - 2148 - ((u : Int) + 2 * e - 2148) = -((u : Nat) : Int) by omega, mS_down _ _ (by omega)]
  have hs : mV a a = cutE (M * M) u + (u + 2 * e - 1074) * 4503599627370496 := by
    rw [hv, rnd_fin _ _ hne (by rw [hu]; omega), hl, hMd, show ((u : Int) + 2 * e - 2148 + 1074).toNat = u + 2 * e - 1074 by omega]
  rw [hMd] at hmb
  have hlow := hmb.2.1 (by rw [hl]; omega)
  have hrs : rv (mV a a) = cutE (M * M) u * 2 ^ (u + 2 * e - 1074) := by rw [hs]; exact rv_of _ _ hmb.1 (fun _ => hlow)
  have hslt : mV a a < 9218868437227405312 := by rw [hs]; have := hmb.1; omega
  have fRs : fR (mV a a) = mV a a := by unfold fR; omega
  have s0 : fK (mV a a) ≠ 0 := fun h => by
    have := (fK_zero _).1 h
    rw [fRs, hs] at this
    omega
  have s4 : fK (mV a a) ≠ 4 := fun h => by
    have := (fK_rungs _).1.1 h
    omega
  have sS : fS (mV a a) = false := decide_eq_false (by omega)
  have hsv : sV (mV a a) = tV (mV a a) := by
    unfold sV
    rw [if_neg s4, if_neg (by rintro (h | h); exact s0 h; omega), if_neg (by rw [sS]; decide)]
  obtain ⟨c1, c2, c3⟩ := cutE_mul (M * M) u
  have hpu : (u = 52 ∧ bl (M * M) = 105) ∨ (u = 53 ∧ M ≠ 4503599627370496) := by omega
  have p52' := p52
  have p53' := p53
  obtain ⟨T, hT⟩ : ∃ T, T = cutE (M * M) u * 2 ^ u := ⟨_, rfl⟩
  rw [← hT] at c1 c2 c3
  have t3 : M = 4503599627370496 → rS (T * (1024 * 1024)) = 9223372036854775808 := fun hm => by
    rcases hpu with ⟨q, _⟩ | ⟨_, q⟩
    · have hT2 : T = 4503599627370496 * 4503599627370496 := by
        rw [c3 (by rw [q, hm]), hm]
      exact rS_one hT2
    · exact absurd hm q
  have sq1 : (2 * M - 1) * (2 * M - 1) + 4 * M = 4 * (M * M) + 1 := by
    obtain ⟨x, hx⟩ : ∃ x, M = x + 1 := ⟨M - 1, by omega⟩
    rw [hx, show 2 * (x + 1) - 1 = 2 * x + 1 by omega, sq_succ, sq_succ]
    have : 2 * x * (2 * x) = 4 * (x * x) := by rw [show (4 : Nat) = 2 * 2 by decide]; ac_rfl
    omega
  have sq2 : (2 * M + 1) * (2 * M + 1) = 4 * (M * M) + 4 * M + 1 := by
    rw [sq_succ]
    have : 2 * M * (2 * M) = 4 * (M * M) := by rw [show (4 : Nat) = 2 * 2 by decide]; ac_rfl
    omega
  have hb1 : (2 * M - 1) * (2 * M - 1) < 4 * T ∧ 4 * T < (2 * M + 1) * (2 * M + 1) := by
    rcases hpu with ⟨q, _⟩ | ⟨q, q2⟩
    · rw [q, p52'] at c1 c2
      omega
    · rw [q, p53'] at c1 c2
      omega
  have hroot := near_root T M e (by omega) (by omega) (by omega) (by omega) hb1.1 hb1.2 t3
  -- as the root of that number
  have hk : T * 2 ^ (2 * e - 1074) = rv (fR (mV a a)) := by
    rw [fRs, hrs, hT, Nat.mul_assoc, ← Nat.pow_add, show u + (2 * e - 1074) = u + 2 * e - 1074 by omega]
  have hTb : 9007199254740992 ≤ isq (T * 2 ^ 20) := by
    refine big_sqL (t106 (sq_104 (show 4503599627370496 ≤ M by omega)) c2 ?_)
    rcases hpu with ⟨q, _⟩ | ⟨q, _⟩
    · rw [q, p52']; decide
    · rw [q, p53']; exact Nat.le_refl _
  rw [show (1024 : Nat) * 1024 = 2 ^ 20 by decide] at hroot
  have := (root_any (mV a a) T (2 * e - 1074) 20 ((e : Int) - 1084) s0 hk (by omega) hTb).1
  rw [hsv, ← this, show (e : Int) - 1084 - 1 = (e : Int) - 1085 by omega, hroot, hr]

end Go.Proofs.YtgegjhkiiejhlaaDoor

/- Roots looked for bit by bit; the root of a number's odd part. -/
namespace Go.Proofs.YtgegjhkiiejhlaaDoor
open Go.RowKit

/-- One bit more of a root: the root lies from r on, below r and twice p. -/
theorem sq_bit (n r p : Nat) (h1 : r * r ≤ n) (h2 : n < (r + 2 * p) * (r + 2 * p)) :
    ((r + p) * (r + p) ≤ n → (r + p) * (r + p) ≤ n ∧ n < (r + p + p) * (r + p + p)) ∧ (¬ (r + p) * (r + p) ≤ n → r * r ≤ n ∧ n < (r + p) * (r + p)) := by
  refine ⟨fun h => ⟨h, ?_⟩, fun h => ⟨h1, by omega⟩⟩
  rw [show r + p + p = r + 2 * p by omega]
  exact h2
/-- In the end, p being 1. -/
theorem sq_end {n r : Nat} (h1 : r * r ≤ n) (h2 : n < (r + 1) * (r + 1)) : r = isq n := (isq_unique h1 h2).symm

/-- The reference's way: the odd part with 240 or 241 digits more, so that the power is even. -/
theorem root_odd (a sh : Nat) (e : Int) (ha : a < 18446744073709551616) (fa : fFin a = true) (a0 : fK a ≠ 0) (hsh : 240 ≤ sh) (he : 2 * e = fX a - sh) :
    rnd (rS ((fD a).natAbs * 2 ^ sh)) (e - 1) = tV a ∧ rflag (oM (rS ((fD a).natAbs * 2 ^ sh) : Nat)).natAbs (oE (rS ((fD a).natAbs * 2 ^ sh) : Nat) (e - 1)) = tF a := by
  obtain ⟨α, x1, x2, x3, x4⟩ := odd_mag a ha fa a0
  refine root_any a (fD a).natAbs α sh e a0 x2.symm (by rw [he, x1]; omega) (big_sq ?_)
  have h1 : 1 * 2 ^ sh ≤ (fD a).natAbs * 2 ^ sh := Nat.mul_le_mul_right _ (by omega)
  rw [Nat.one_mul] at h1
  exact Nat.le_trans (pow_le2 (show 106 ≤ sh by omega)) h1
/-- What is left of it. -/
theorem rS_left (N q rest : Nat) (hq : q = isq N) (hr : rest = N - q * q) : (rest = 0 → rS N = 2 * q) ∧ (rest ≠ 0 → rS N = 2 * q + 1) := by
  have h := (isq_spec N).1
  rw [← hq] at h
  unfold rS
  rw [← hq]
  refine ⟨fun h0 => ?_, fun h0 => ?_⟩
  · rw [if_pos (by omega), Nat.add_zero]
  · rw [if_neg (by omega)]

end Go.Proofs.YtgegjhkiiejhlaaDoor

/- Long division: the program's, a digit a step, and the reference's; both are the quotient. -/
namespace Go.Proofs.YtgegjhkiiejhlaaDoor
open Go.RowKit

/-- One digit more of a quotient, the rest being reckoned against twice the divisor. -/
theorem lng_step (X y : Nat) (hy : 0 < y) : X * 2 / (2 * y) = 2 * (X / (2 * y)) + (if y ≤ X % (2 * y) then 1 else 0) ∧ X * 2 % (2 * y) = 2 * (X % (2 * y) - (if y ≤ X % (2 * y) then y else 0)) := by
  have h1 := Nat.div_add_mod X (2 * y)
  have h2 := Nat.mod_lt X (show 0 < 2 * y by omega)
  generalize X / (2 * y) = q at *
  generalize X % (2 * y) = r at *
  have e0 : X * 2 = 2 * y * (2 * q) + 2 * r := by rw [← h1, Nat.add_mul, Nat.mul_assoc, Nat.mul_comm q 2, Nat.mul_comm r 2]
  by_cases c : y ≤ r
  · rw [if_pos c, if_pos c]
    have e : X * 2 = 2 * y * (2 * q + 1) + 2 * (r - y) := by rw [Nat.mul_add, Nat.mul_one]; omega
    rw [e]
    refine ⟨?_, ?_⟩
    · rw [Nat.mul_add_div (by omega), Nat.div_eq_of_lt (by omega), Nat.add_zero]
    · rw [Nat.mul_add_mod, Nat.mod_eq_of_lt (by omega)]
  · rw [if_neg c, if_neg c]
    rw [e0]
    refine ⟨?_, ?_⟩
    · rw [Nat.mul_add_div (by omega), Nat.div_eq_of_lt (by omega), Nat.add_zero]
    · rw [Nat.mul_add_mod, Nat.mod_eq_of_lt (by omega)]; omega

/-- The quotient and the rest after i digits. -/
def lQ (x y i : Nat) : Nat := x * 2 ^ i / (2 * y)
def lR (x y i : Nat) : Nat := x * 2 ^ i % (2 * y)
theorem l_zero (x y : Nat) (h : x < 2 * y) : lQ x y 0 = 0 ∧ lR x y 0 = x := by
  unfold lQ lR
  rw [Nat.pow_zero, Nat.mul_one]
  exact ⟨Nat.div_eq_of_lt h, Nat.mod_eq_of_lt h⟩
theorem l_succ (x y i : Nat) (hy : 0 < y) : lQ x y (i + 1) = 2 * lQ x y i + (if y ≤ lR x y i then 1 else 0) ∧ lR x y (i + 1) = 2 * (lR x y i - (if y ≤ lR x y i then y else 0)) := by
  have := lng_step (x * 2 ^ i) y hy
  unfold lQ lR
  rw [Nat.pow_succ, ← Nat.mul_assoc]
  exact this
theorem lR_lt (x y i : Nat) (hy : 0 < y) : lR x y i < 2 * y := Nat.mod_lt _ (by omega)
theorem lQ_lt (x y i : Nat) (h : x < 2 * y) : lQ x y i < 2 ^ i := by
  unfold lQ
  rw [Nat.div_lt_iff_lt_mul (by omega), Nat.mul_comm (2 ^ i)]
  exact (Nat.mul_lt_mul_right (Nat.two_pow_pos i)).2 h
/-- In the end. -/
theorem l_end (x y : Nat) : stk (x * 2 ^ 54) y = 2 * lQ x y 55 + (if 0 < lR x y 55 then 1 else 0) := by
  have e : x * 2 ^ 55 = 2 * (x * 2 ^ 54) := by rw [show (2 : Nat) ^ 55 = 2 * 2 ^ 54 by decide]; ac_rfl
  unfold stk lQ lR
  rw [e, Nat.mul_div_mul_left _ _ (by decide), Nat.mul_mod_mul_left]
  congr 1
  by_cases c : x * 2 ^ 54 % y = 0
  · rw [if_pos c, c, if_neg (by omega)]
  · rw [if_neg c, if_pos (by omega)]

/-- The next bit down, of a dividend whose upper bits are N. -/
theorem ref_step (N b t : Nat) (hb : 0 < b) (ht : t ≤ 1) : (2 * N + t) / b = 2 * (N / b) + (if b ≤ 2 * (N % b) + t then 1 else 0) ∧ (2 * N + t) % b = 2 * (N % b) + t - (if b ≤ 2 * (N % b) + t then b else 0) := by
  have h1 := Nat.div_add_mod N b
  have h2 := Nat.mod_lt N hb
  generalize N / b = q at *
  generalize N % b = r at *
  have e0 : 2 * N + t = b * (2 * q) + (2 * r + t) := by
    have : b * (2 * q) = 2 * (b * q) := Nat.mul_left_comm _ _ _
    omega
  by_cases c : b ≤ 2 * r + t
  · rw [if_pos c, if_pos c]
    have e : 2 * N + t = b * (2 * q + 1) + (2 * r + t - b) := by rw [Nat.mul_add, Nat.mul_one]; omega
    rw [e]
    refine ⟨?_, ?_⟩
    · rw [Nat.mul_add_div hb, Nat.div_eq_of_lt (by omega), Nat.add_zero]
    · rw [Nat.mul_add_mod, Nat.mod_eq_of_lt (by omega)]
  · rw [if_neg c, if_neg c]
    rw [e0]
    refine ⟨?_, ?_⟩
    · rw [Nat.mul_add_div hb, Nat.div_eq_of_lt (by omega), Nat.add_zero]
    · rw [Nat.mul_add_mod, Nat.mod_eq_of_lt (by omega)]; omega
theorem bit_step (A i : Nat) : A / 2 ^ i = 2 * (A / 2 ^ (i + 1)) + A / 2 ^ i % 2 := by
  rw [Nat.pow_succ, ← Nat.div_div_eq_div_mul]; omega

/-- What the program divides: the odd parts with their first digit at 2^52. -/
def dS (b : Nat) : Nat := (fD b).natAbs * 2 ^ (53 - bl (fD b).natAbs)
def dT (b : Nat) : Int := (bl (fD b).natAbs : Int) + fX b

theorem dS_facts (b : Nat) (hb : b < 18446744073709551616) (hf : fFin b = true) (h0 : fK b ≠ 0) :
    bl (fD b).natAbs ≤ 53 ∧ 1 ≤ bl (fD b).natAbs ∧ 4503599627370496 ≤ dS b ∧ dS b < 9007199254740992 ∧ -1074 ≤ fX b ∧ fX b ≤ 1024 ∧ (fD b).natAbs % 2 = 1 ∧ (fD b).natAbs < 9007199254740992 := by
  obtain ⟨β, x1, x2, x3, x4⟩ := odd_mag b hb hf h0
  have hne : (fD b).natAbs ≠ 0 := by omega
  obtain ⟨b1, b2, b3⟩ := bl_spec _ hne
  have hbl : bl (fD b).natAbs ≤ 53 := by
    have : (2 : Nat) ^ (bl (fD b).natAbs - 1) < 2 ^ 53 := by rw [p53]; omega
    have := pow_lt_of this
    omega
  have hs := bl_scale (fD b).natAbs (53 - bl (fD b).natAbs) hne
  have hs' : bl (dS b) = 53 := by unfold dS; rw [hs]; omega
  have hd0 : dS b ≠ 0 := by
    unfold dS
    exact Nat.mul_ne_zero hne (Nat.pos_iff_ne_zero.1 (Nat.two_pow_pos _))
  obtain ⟨c1, c2, c3⟩ := bl_spec _ hd0
  rw [hs'] at c2 c3
  have hz := fZ_lt b hf
  rw [fZ_abs, x2] at hz
  have hβ : β < 2098 := by
    have h1 : 2 ^ β ≤ (fD b).natAbs * 2 ^ β := Nat.le_mul_of_pos_left _ (by omega)
    exact pow_lt_of (Nat.lt_of_le_of_lt h1 hz)
  refine ⟨hbl, b1, ?_, ?_, by omega, by omega, x3, x4⟩
  · exact c2
  · rw [p53] at c3; exact c3

/-- What the program's quotient, rounded, comes to. -/
def pS (a b : Nat) : Nat := stk (dS a * 2 ^ 54) (dS b)
theorem quo_prog (a b : Nat) (ha : a < 18446744073709551616) (hb : b < 18446744073709551616) (fa : fFin a = true) (fb : fFin b = true) (a0 : fK a ≠ 0) (b0 : fK b ≠ 0) :
    rnd (pS a b) (dT a - dT b - 55) = qV a b ∧ rflag (oM (pS a b : Nat)).natAbs (oE (pS a b : Nat) (dT a - dT b - 55)) = qF a b := by
  obtain ⟨x1, x2, x3, x4, x5, x6, x7, x8⟩ := dS_facts a ha fa a0
  obtain ⟨y1, y2, y3, y4, y5, y6, y7, y8⟩ := dS_facts b hb fb b0
  have hbig := quo_big (fD a).natAbs (fD b).natAbs (by omega) y8 (by omega)
  obtain ⟨u1, u2, u3⟩ := bl_spec (fD a).natAbs (by omega)
  obtain ⟨v1, v2, v3⟩ := bl_spec (fD b).natAbs (by omega)
  unfold pS qV qF qS dS dT
  generalize (fD a).natAbs = oa at *
  generalize (fD b).natAbs = ob at *
  have e1 : oa * 2 ^ (53 - bl oa) * 2 ^ 54 = oa * 2 ^ (54 - bl oa + bl ob) * 2 ^ (53 - bl ob) := by
    rw [Nat.mul_assoc, ← Nat.pow_add, Nat.mul_assoc, ← Nat.pow_add]
    congr 2
    omega
  have hb54 : 54 - bl oa + bl ob = 54 + bl ob - bl oa := by omega
  rw [e1, stk_both]
  have hq : 9007199254740992 ≤ oa * 2 ^ (54 - bl oa + bl ob) / ob := by
    rw [Nat.le_div_iff_mul_le (by omega)]
    have h1 : 9007199254740992 * ob ≤ 2 ^ 53 * 2 ^ bl ob := by rw [p53]; exact Nat.mul_le_mul_left _ (by omega)
    have h2 : (2 : Nat) ^ 53 * 2 ^ bl ob ≤ 2 ^ (bl oa - 1) * 2 ^ (54 - bl oa + bl ob) := by
      rw [← Nat.pow_add, ← Nat.pow_add]; exact pow_le2 (by omega)
    have h3 : 2 ^ (bl oa - 1) * 2 ^ (54 - bl oa + bl ob) ≤ oa * 2 ^ (54 - bl oa + bl ob) := Nat.mul_le_mul_right _ u2
    omega
  have E1 : (bl oa : Int) + fX a - ((bl ob : Int) + fX b) - 55 = (fX a - fX b - 1) - (54 - bl oa + bl ob : Nat) := by omega
  have E2 : fX a - fX b - 181 = (fX a - fX b - 1) - (180 : Nat) := by omega
  rw [E1, E2]
  exact ⟨stk_any oa ob _ 180 _ (by omega) hq hbig, stk_any_flag oa ob _ 180 _ y7 hq hbig⟩

theorem pS_facts (a b : Nat) (ha : a < 18446744073709551616) (hb : b < 18446744073709551616) (fa : fFin a = true) (fb : fFin b = true) (a0 : fK a ≠ 0) (b0 : fK b ≠ 0) : pS a b ≠ 0 ∧ pS a b < 144115188075855872 ∧ dS a < 2 * dS b := by
  obtain ⟨x1, x2, x3, x4, x5, x6, x7, x8⟩ := dS_facts a ha fa a0
  obtain ⟨y1, y2, y3, y4, y5, y6, y7, y8⟩ := dS_facts b hb fb b0
  have h := l_end (dS a) (dS b)
  have h1 := lQ_lt (dS a) (dS b) 55 (by omega)
  have h2 : (2 : Nat) ^ 55 = 36028797018963968 := by decide
  have ht : (if 0 < lR (dS a) (dS b) 55 then 1 else 0) ≤ 1 := by split <;> omega
  refine ⟨?_, ?_, by omega⟩
  · have : 1 ≤ dS a * 2 ^ 54 / dS b := by
      rw [Nat.le_div_iff_mul_le (by omega), Nat.one_mul]
      have : dS a * 1 ≤ dS a * 2 ^ 54 := Nat.mul_le_mul_left _ (by decide)
      have h5 : dS a * 2 ≤ dS a * 2 ^ 54 := Nat.mul_le_mul_left _ (by decide)
      omega
    unfold pS stk
    omega
  · show stk (dS a * 2 ^ 54) (dS b) < _
    rw [h]; omega

end Go.Proofs.YtgegjhkiiejhlaaDoor

/- Roots reckoned digit by digit. -/
namespace Go.Proofs.YtgegjhkiiejhlaaDoor
open Go.RowKit

/-- What is left of a number by its root's square. -/
def rest7 (N : Nat) : Nat := N - isq N * isq N

/-- One digit more. -/
theorem next7 (N p : Nat) (hp : p < 4) :
    (4 * rest7 N + p < 4 * isq N + 1 → isq (4 * N + p) = 2 * isq N ∧ rest7 (4 * N + p) = 4 * rest7 N + p) ∧
    (¬ 4 * rest7 N + p < 4 * isq N + 1 → isq (4 * N + p) = 2 * isq N + 1 ∧ rest7 (4 * N + p) = 4 * rest7 N + p - (4 * isq N + 1)) := by
  obtain ⟨g1, g2⟩ := isq_spec N
  have s1 := sq_succ (isq N)
  have s2 := sq_succ (2 * isq N)
  have s3 := sq_succ (2 * isq N + 1)
  have q4 : 2 * isq N * (2 * isq N) = 4 * (isq N * isq N) := by rw [show (4 : Nat) = 2 * 2 by decide]; ac_rfl
  unfold rest7
  refine ⟨fun h => ?_, fun h => ?_⟩
  · have e : isq (4 * N + p) = 2 * isq N := isq_unique (by omega) (by omega)
    refine ⟨e, ?_⟩
    rw [e]
    omega
  · have e : isq (4 * N + p) = 2 * isq N + 1 := isq_unique (by omega) (by omega)
    refine ⟨e, ?_⟩
    rw [e]
    omega
theorem rest7_le (N : Nat) : rest7 N ≤ 2 * isq N := by
  obtain ⟨g1, g2⟩ := isq_spec N
  have s1 := sq_succ (isq N)
  unfold rest7
  omega
theorem rest7_zero (N : Nat) : rest7 N = 0 ↔ isq N * isq N = N := by
  obtain ⟨g1, g2⟩ := isq_spec N
  unfold rest7
  omega
theorem isq_lt {N k : Nat} (h : N < k * k) : isq N < k := by
  obtain ⟨g1, g2⟩ := isq_spec N
  exact sq_lt_iff.1 (by omega)

/-- The first i pairs of n's digits. -/
def top7 (n i : Nat) : Nat := n / 4 ^ (32 - i)
theorem top7_zero (n : Nat) (h : n < 18446744073709551616) : top7 n 0 = 0 := by
  unfold top7
  rw [show (4 : Nat) ^ (32 - 0) = 18446744073709551616 by decide]
  omega
theorem top7_end (n : Nat) : top7 n 32 = n := by
  unfold top7
  simp
theorem top7_succ (n i : Nat) (hi : i < 32) : top7 n (i + 1) = 4 * top7 n i + n / 2 ^ (2 * (31 - i)) % 4 := by
  unfold top7
  have e : (4 : Nat) ^ (32 - i) = 4 ^ (32 - (i + 1)) * 4 := by rw [← Nat.pow_succ]; congr 1; omega
  have e2 : (2 : Nat) ^ (2 * (31 - i)) = 4 ^ (32 - (i + 1)) := by rw [Nat.pow_mul, show 32 - (i + 1) = 31 - i by omega]
  rw [e, e2, ← Nat.div_div_eq_div_mul]
  omega
theorem top7_lt (n i : Nat) (h : n < 18446744073709551616) : top7 n i < 18446744073709551616 := by
  unfold top7
  exact Nat.lt_of_le_of_lt (Nat.div_le_self _ _) h
theorem isq_top7 (n i : Nat) (h : n < 18446744073709551616) : isq (top7 n i) < 4294967296 := isq_lt (Nat.lt_of_lt_of_le (top7_lt n i h) (by decide))

/-- With noughts behind. -/
theorem isq_low7 (n i : Nat) (h : n < 18446744073709551616) (hi : i ≤ 22) : isq (n * 4 ^ i) < 18014398509481984 := by
  refine isq_lt ?_
  have h1 : (4 : Nat) ^ i ≤ 4 ^ 22 := Nat.pow_le_pow_right (by decide) hi
  rw [show (4 : Nat) ^ 22 = 17592186044416 by decide] at h1
  have h2 : n * 4 ^ i ≤ n * 17592186044416 := Nat.mul_le_mul_left _ h1
  omega
theorem low7_succ (n i : Nat) : n * 4 ^ (i + 1) = 4 * (n * 4 ^ i) + 0 := by rw [Nat.pow_succ]; ac_rfl

/-- The program's way to a root: the odd part and as many digits more as make 64 of it, or 63. -/
def nS (b : Nat) : Nat := (fD b).natAbs * 2 ^ (64 - bl (fD b).natAbs - ((dT b) % 2).toNat)
def nT (b : Nat) : Int := dT b + (dT b) % 2

theorem nS_facts (b : Nat) (hb : b < 18446744073709551616) (hf : fFin b = true) (h0 : fK b ≠ 0) :
    nS b < 18446744073709551616 ∧ 4611686018427387904 ≤ nS b := by
  obtain ⟨x1, x2, x3, x4, x5, x6, x7, x8⟩ := dS_facts b hb hf h0
  obtain ⟨b1, b2, b3⟩ := bl_spec (fD b).natAbs (by omega)
  unfold nS
  have hp := Nat.two_pow_pos (64 - bl (fD b).natAbs - ((dT b) % 2).toNat)
  have k1 := (Nat.mul_lt_mul_right hp).2 b3
  have k2 := Nat.mul_le_mul_right (2 ^ (64 - bl (fD b).natAbs - ((dT b) % 2).toNat)) b2
  rw [← Nat.pow_add] at k1 k2
  have k3 : 2 ^ (bl (fD b).natAbs + (64 - bl (fD b).natAbs - ((dT b) % 2).toNat)) ≤ 2 ^ 64 := Nat.pow_le_pow_right (by decide) (by omega)
  have k4 : 2 ^ 62 ≤ 2 ^ (bl (fD b).natAbs - 1 + (64 - bl (fD b).natAbs - ((dT b) % 2).toNat)) := Nat.pow_le_pow_right (by decide) (by omega)
  rw [show (2 : Nat) ^ 64 = 18446744073709551616 by decide] at k3
  rw [show (2 : Nat) ^ 62 = 4611686018427387904 by decide] at k4
  exact ⟨Nat.lt_of_lt_of_le k1 k3, Nat.le_trans k4 k2⟩

theorem nS_root (a : Nat) (ha : a < 18446744073709551616) (fa : fFin a = true) (a0 : fK a ≠ 0) :
    rnd (rS (nS a * 4 ^ 22)) (nT a / 2 - 55) = tV a ∧ rflag (oM (rS (nS a * 4 ^ 22) : Nat)).natAbs (oE (rS (nS a * 4 ^ 22) : Nat) (nT a / 2 - 55)) = tF a := by
  obtain ⟨α, x1, x2, x3, x4⟩ := odd_mag a ha fa a0
  obtain ⟨y1, y2, y3, y4, y5, y6, y7, y8⟩ := dS_facts a ha fa a0
  obtain ⟨n1, n2⟩ := nS_facts a ha fa a0
  have hN : nS a * 4 ^ 22 = (fD a).natAbs * 2 ^ (64 - bl (fD a).natAbs - ((dT a) % 2).toNat + 44) := by
    unfold nS
    rw [Nat.pow_add, Nat.mul_assoc]
  have hbig : 9007199254740992 ≤ isq (nS a * 4 ^ 22) := by
    refine big_sq ?_
    rw [show (2 : Nat) ^ 106 = 4611686018427387904 * 4 ^ 22 by decide]
    exact Nat.mul_le_mul_right _ n2
  rw [hN] at hbig ⊢
  have hd : dT a = (bl (fD a).natAbs : Int) + fX a := rfl
  have hn : nT a = dT a + dT a % 2 := rfl
  have := root_any a (fD a).natAbs α (64 - bl (fD a).natAbs - ((dT a) % 2).toNat + 44) (nT a / 2 - 54) a0 x2.symm (by omega) hbig
  rwa [show nT a / 2 - 54 - 1 = nT a / 2 - 55 by omega] at this

theorem rS_54 (n : Nat) (h : n < 18446744073709551616) : rS (n * 4 ^ 22) < 36028797018963968 := by
  have := isq_low7 n 22 h (by decide)
  unfold rS
  split <;> omega

end Go.Proofs.YtgegjhkiiejhlaaDoor

