/- Part 17 of the texts. -/
import Derived.Test.YtlbggedahpnjgaaDoorPart16
/- Contract of dyadic's Compare. -/
namespace Go.Proofs.YtlbggedahpnjgaaDoor
open Go.RowKit
attribute [local go_sem ↓] Go.wp_at_zero Go.wp_at_succ

/-- The ways that Compare goes. -/
theorem cmp_ways {na nb : Bool} {A B : List Nat} {x y : Int} (fA : Fits A) (fB : Fits B) (hra : drB na A x = true) (hrb : drB nb B y = true) :
    (sgnB na A.length ≠ sgnB nb B.length ∧ cmpI (sgnB na A.length) (sgnB nb B.length) = cmpV (sval na A) x (sval nb B) y ∧ min 1 (max (-1) (sgnB na A.length - sgnB nb B.length)) = cmpV (sval na A) x (sval nb B) y) ∨
    (sgnB na A.length = sgnB nb B.length ∧ ∃ s c : Int, (s = 1 ∨ s = -1) ∧ ((c = 1 ∧ topR B y < topR A x) ∨ (c = -1 ∧ topR A x < topR B y)) ∧ sgnB na A.length = s ∧ cmpI (topR A x) (topR B y) = c ∧ cmpV (sval na A) x (sval nb B) y = s * c) ∨
    (sgnB na A.length = sgnB nb B.length ∧ topR A x = topR B y ∧ upE (sval na A) x (min x y) = 0 ∧ upE (sval nb B) y (min x y) = 0 ∧ cmpI (up (sval na A) x (min x y)) (up (sval nb B) y (min x y)) = cmpV (sval na A) x (sval nb B) y ∧ lowE (sval na A) x (sval nb B) y = min x y) := by
  obtain ⟨ra, _, a1, a2, zx⟩ := drB_bounds hra
  obtain ⟨rb, _, b1, b2, zy⟩ := drB_bounds hrb
  rw [sgnB_I ra, sgnB_I rb]
  by_cases hs : sgnI (sval na A) = sgnI (sval nb B)
  case neg =>
    left
    have h := cmp_signs (up (sval na A) x (lowE (sval na A) x (sval nb B) y)) (up (sval nb B) y (lowE (sval na A) x (sval nb B) y)) (by rw [sgnI_up, sgnI_up]; exact hs)
    rw [sgnI_up, sgnI_up] at h
    exact ⟨hs, h.1, h.2⟩
  right
  by_cases hA : A.length = 0
  · have sa := (sval_zero_iff ra).2 hA
    have sb : sval nb B = 0 := by
      rw [sa, sgnI_zero] at hs
      rcases Int.lt_trichotomy (sval nb B) 0 with h | h | h
      · rw [sgnI_neg h] at hs; exact absurd hs (by decide)
      · exact h
      · rw [sgnI_pos h] at hs; exact absurd hs (by decide)
    have hB := (sval_zero_iff rb).1 sb
    right
    refine ⟨hs, by unfold topR; rw [if_pos hA, if_pos hB], ?_⟩
    rw [sa, sb, zx hA, zy hB]
    refine ⟨upE_ok _ _ _ (by rw [up_zero]; exact TOP_pos) (by decide), upE_ok _ _ _ (by rw [up_zero]; exact TOP_pos) (by decide), ?_, by simp [lowE]⟩
    unfold cmpV
    simp [up_zero]
  have a0 : sval na A ≠ 0 := fun e => hA ((sval_zero_iff ra).1 e)
  have b0 : sval nb B ≠ 0 := fun e => by
    rw [e, sgnI_zero] at hs
    rcases Int.lt_trichotomy (sval na A) 0 with h | h | h
    · rw [sgnI_neg h] at hs; exact absurd hs (by decide)
    · exact a0 h
    · rw [sgnI_pos h] at hs; exact absurd hs (by decide)
  have hB : B.length ≠ 0 := fun e => b0 ((sval_zero_iff rb).2 e)
  have hn : na = nb ∧ sgnI (sval na A) = if na then -1 else 1 := by
    have e1 := sgnB_I ra
    have e2 := sgnB_I rb
    unfold sgnB at e1 e2
    rw [if_neg hA] at e1
    rw [if_neg hB] at e2
    refine ⟨?_, e1.symm⟩
    rw [← e1, ← e2] at hs
    cases na <;> cases nb <;> first | rfl | exact absurd hs (by decide)
  have tA : topR A x = lenL A + x := by unfold topR; rw [if_neg hA]
  have tB : topR B y = lenL B + y := by unfold topR; rw [if_neg hB]
  rw [tA, tB]
  rcases Int.lt_trichotomy (lenL A + x) (lenL B + y) with h | h | h
  · left
    have hv := (cmpV_tops fA fB ra rb hA hB hn.1 h).1
    refine ⟨hs, if na then -1 else 1, -1, ?_, .inr ⟨rfl, h⟩, hn.2, cmpI_lt h, ?_⟩
    · cases na <;> simp
    · rw [hv]; cases na <;> rfl
  · right
    have hf := tops_fit fA fB ra rb hA hB h
    refine ⟨hs, h, hf.1, hf.2, ?_, lowE_ne _ _ _ _ a0 b0⟩
    unfold cmpV
    rw [lowE_ne _ _ _ _ a0 b0]
  · left
    have hv := (cmpV_tops fB fA rb ra hB hA hn.1.symm h).2
    rw [← hn.1] at hv
    refine ⟨hs, if na then -1 else 1, 1, ?_, .inl ⟨rfl, h⟩, hn.2, cmpI_gt h, ?_⟩
    · cases na <;> simp
    · rw [hn.1, ← hn.1, hv]; cases na <;> rfl

end Go.Proofs.YtlbggedahpnjgaaDoor

/- Contract of the reference's Compare. -/
namespace Go.Proofs.YtlbggedahpnjgaaDoor
open Go.RowKit
attribute [local go_sem ↓] Go.wp_at_zero Go.wp_at_succ

theorem rsgn_dy {neg : Bool} {L : List Nat} {m : Int} (hc : Canon L) (hn : neg = decide (m < 0)) (hv : val L = m.natAbs) : rsgn neg L.length = sgnI m := by
  unfold rsgn
  rcases Int.lt_trichotomy m 0 with h | h | h
  · rw [hn, decide_eq_true h, if_pos rfl, sgnI_neg h]
  · subst h
    have : L = [] := (val_zero_of_canon L hc).1 (by rw [hv]; rfl)
    rw [hn, this]
    rfl
  · have h0 : L.length ≠ 0 := fun e => by
      have : L = [] := List.length_eq_zero_iff.1 e
      rw [this] at hv; simp [val] at hv; omega
    rw [hn, decide_eq_false (by omega), if_neg (by decide), if_neg h0, sgnI_pos h]

theorem sgnI_oM (z : Int) : sgnI (oM z) = sgnI z := by
  by_cases h : z = 0
  · subst h; rw [oM_zero]
  · have := (oddOf z h).1
    conv => rhs; rw [this]
    rw [sgnI_mul_pow]

theorem sgnB_three (n : Bool) (k : Nat) : sgnB n k = -1 ∨ sgnB n k = 0 ∨ sgnB n k = 1 := by
  unfold sgnB
  split
  · exact .inr (.inl rfl)
  · cases n
    · exact .inr (.inr rfl)
    · exact .inl rfl

end Go.Proofs.YtlbggedahpnjgaaDoor

/- The law DyadicOrders, walked. -/
namespace Go.Proofs.YtlbggedahpnjgaaDoor
open Go.RowKit
attribute [local go_sem ↓] Go.wp_at_zero Go.wp_at_succ

theorem lowE_swap (sa x sb y : Int) (zx : sa = 0 → x = 0) (zy : sb = 0 → y = 0) : lowE sb y sa x = lowE sa x sb y := by
  unfold lowE
  by_cases h1 : sa = 0
  · by_cases h2 : sb = 0
    · rw [if_pos h2, if_pos h1, zx h1, zy h2]
    · rw [if_pos h1, if_neg h2, if_pos h1]
  · by_cases h2 : sb = 0
    · rw [if_pos h2, if_neg h1, if_pos h2]
    · rw [if_neg h1, if_neg h2, if_neg h1, if_neg h2]; omega

theorem cmpV_swap (sa x sb y : Int) (zx : sa = 0 → x = 0) (zy : sb = 0 → y = 0) : cmpV sb y sa x = - cmpV sa x sb y := by
  unfold cmpV
  rw [lowE_swap sa x sb y zx zy, cmpI_swap]

theorem cmpV_three (sa x sb y : Int) : cmpV sa x sb y = -1 ∨ cmpV sa x sb y = 0 ∨ cmpV sa x sb y = 1 := by
  unfold cmpV cmpI
  split
  · exact .inl rfl
  · split
    · exact .inr (.inr rfl)
    · exact .inr (.inl rfl)

theorem ad_two (sa x sb y : Int) : (adE sa x sb y = 0 ∧ sgnI (adM sa x sb y) = sgnI (sumZ sa x sb y)) ∨ adE sa x sb y = 2 := by
  unfold adE adM
  cases fitsB sa x sb y
  · exact .inr rfl
  · simp only [if_true]
    unfold dErr dM
    cases dOk (sumZ sa x sb y) (lowE sa x sb y)
    · exact .inr rfl
    · exact .inl ⟨rfl, sgnI_oM _⟩

theorem sub_sign (sa x sb y : Int) : sgnI (sumZ sa x (-sb) y) = cmpV sa x sb y := by
  unfold cmpV sumZ
  rw [cmpI_sgn, lowE_neg, up_neg, Int.sub_eq_add_neg]

end Go.Proofs.YtlbggedahpnjgaaDoor

/- Dyadic numbers at a level: each is a whole number times one power of two; sums and products there. -/
namespace Go.Proofs.YtlbggedahpnjgaaDoor
open Go.RowKit

theorem pow2_ne (k : Nat) : (2 : Int) ^ k ≠ 0 := Int.pow_ne_zero (by decide)

theorem oM_scale (z : Int) (k : Nat) (e : Int) : oM (z * 2 ^ k) = oM z ∧ oE (z * 2 ^ k) e = oE z (e + k) := by
  by_cases h : z = 0
  · subst h; rw [Int.zero_mul, oM_zero, oE_zero, oE_zero]; exact ⟨rfl, rfl⟩
  · have h1 : z * 2 ^ k ≠ 0 := fun e => by rcases Int.mul_eq_zero.1 e with e | e; exact h e; exact pow2_ne k e
    have hO := oddOf z h
    have h2 : OddOf (z * 2 ^ k) (oM z) (tz z.natAbs + k) := by
      refine ⟨?_, hO.2⟩
      conv => lhs; rw [hO.1]
      rw [Int.mul_assoc, ← Int.pow_add]
    obtain ⟨_, e1, e2⟩ := h2.eq
    refine ⟨e1.symm, ?_⟩
    rw [oE_ne _ _ h1, oE_ne _ _ h, ← e2]
    omega

theorem oM_mul (z1 z2 : Int) : oM (z1 * z2) = oM z1 * oM z2 := by
  by_cases h1 : z1 = 0
  · subst h1; rw [Int.zero_mul, oM_zero, Int.zero_mul]
  by_cases h2 : z2 = 0
  · subst h2; rw [Int.mul_zero, oM_zero, Int.mul_zero]
  have a := oddOf z1 h1
  have b := oddOf z2 h2
  have h : OddOf (z1 * z2) (oM z1 * oM z2) (tz z1.natAbs + tz z2.natAbs) := by
    refine ⟨?_, ?_⟩
    · conv => lhs; rw [a.1, b.1]
      rw [Int.pow_add]
      simp only [Int.mul_assoc, Int.mul_left_comm]
    · rw [Int.mul_emod, a.2, b.2]; rfl
  exact h.eq.2.1.symm

theorem tz_mul2 (z1 z2 : Int) (h1 : z1 ≠ 0) (h2 : z2 ≠ 0) : tz (z1 * z2).natAbs = tz z1.natAbs + tz z2.natAbs := by
  have a := oddOf z1 h1
  have b := oddOf z2 h2
  have h : OddOf (z1 * z2) (oM z1 * oM z2) (tz z1.natAbs + tz z2.natAbs) := by
    refine ⟨?_, ?_⟩
    · conv => lhs; rw [a.1, b.1]
      rw [Int.pow_add]
      simp only [Int.mul_assoc, Int.mul_left_comm]
    · rw [Int.mul_emod, a.2, b.2]; rfl
  exact h.eq.2.2.symm

theorem oM_neg (z : Int) : oM (-z) = - oM z ∧ ∀ e, oE (-z) e = oE z e := by
  by_cases h : z = 0
  · subst h; rw [Int.neg_zero, oM_zero]; exact ⟨rfl, fun _ => rfl⟩
  · have a := oddOf z h
    have h2 : OddOf (-z) (- oM z) (tz z.natAbs) := by
      refine ⟨?_, by have := a.2; omega⟩
      conv => lhs; rw [a.1]
      rw [Int.neg_mul]
    refine ⟨h2.eq.2.1.symm, fun e => ?_⟩
    rw [oE_ne _ _ (by omega), oE_ne _ _ h, Int.natAbs_neg]

/-- z is of at most W bits, at the level lo, and the level is not out of range. -/
def Lvl (lo : Int) (W : Nat) (z : Int) : Prop := z.natAbs < 2 ^ W ∧ -16384 ≤ lo ∧ lo + W ≤ 16384 ∧ W ≤ 16384

theorem Lvl.tzs {lo : Int} {W : Nat} {z : Int} (h : Lvl lo W z) (h0 : z ≠ 0) : tz z.natAbs < W := tz_lt _ _ (by omega) h.1

theorem Lvl.tops {lo : Int} {W : Nat} {z : Int} (h : Lvl lo W z) : z.natAbs < TOP := lt_TOP h.1 h.2.2.2

theorem Lvl.right {lo : Int} {W : Nat} {z : Int} (h : Lvl lo W z) : dRt (oM z) (oE z lo) = true ∧ (oM z).natAbs < TOP := by
  refine ⟨?_, Nat.lt_of_le_of_lt (oM_le z) h.tops⟩
  unfold dRt
  by_cases h0 : z = 0
  · subst h0; rw [oM_zero, oE_zero]; rfl
  · obtain ⟨o1, o2⟩ := oM_ne z h0
    have ht := h.tzs h0
    obtain ⟨_, h2, h3, _⟩ := h
    rw [if_neg o1, oE_ne _ _ h0, decide_eq_true o2, decide_eq_true (show -16384 ≤ lo + (tz z.natAbs : Int) ∧ lo + (tz z.natAbs : Int) ≤ 16384 by omega)]
    rfl

/-- The number at its level. -/
theorem oM_level (z lo : Int) (h : z ≠ 0) : oM z * 2 ^ (oE z lo - lo).toNat = z := by
  rw [oE_ne _ _ h, show (lo + (tz z.natAbs : Int) - lo).toNat = tz z.natAbs by omega]
  exact (oddOf z h).1.symm

theorem dErr_odd (m e : Int) (h : dRt m e = true) : dErr m e = 0 ∧ dM m e = m ∧ dX m e = e := by
  unfold dRt at h
  by_cases h0 : m = 0
  · subst h0
    rw [if_pos rfl] at h
    have he := of_decide_eq_true h
    subst he
    decide
  · rw [if_neg h0, Bool.and_eq_true] at h
    have ho := of_decide_eq_true h.1
    have hr := of_decide_eq_true h.2
    have hm : OddOf m m 0 := ⟨by simp, ho⟩
    obtain ⟨_, e1, e2⟩ := hm.eq
    have hk : dOk m e = true := by
      unfold dOk
      rw [← e2, decide_eq_true (show -32768 ≤ e ∧ e ≤ 32768 by omega), decide_eq_true (show -16384 ≤ e + ((0 : Nat) : Int) ∧ e + ((0 : Nat) : Int) ≤ 16384 by omega)]
      simp
    unfold dErr dM dX
    rw [hk, ← e1, oE_ne _ _ h0, ← e2]
    simp

/-- The sum at a level. -/
theorem ad_level {lo : Int} {W : Nat} {z1 z2 : Int} (h1 : Lvl lo W z1) (h2 : Lvl lo W z2) (h3 : Lvl lo W (z1 + z2)) :
    adE (oM z1) (oE z1 lo) (oM z2) (oE z2 lo) = 0 ∧ adM (oM z1) (oE z1 lo) (oM z2) (oE z2 lo) = oM (z1 + z2) ∧ adX (oM z1) (oE z1 lo) (oM z2) (oE z2 lo) = oE (z1 + z2) lo := by
  have r1 := h1.right
  have r2 := h2.right
  have bE : ∀ m e, dRt m e = true → -16384 ≤ e ∧ e ≤ 16384 := fun m e h => by
    unfold dRt at h
    by_cases h0 : m = 0
    · rw [if_pos h0] at h; have := of_decide_eq_true h; omega
    · rw [if_neg h0, Bool.and_eq_true] at h; exact of_decide_eq_true h.2
  by_cases a0 : z1 = 0
  · subst a0
    rw [oM_zero, oE_zero, Int.zero_add]
    obtain ⟨p1, p2, p3⟩ := add_zero_l (oM z2) (oE z2 lo) (bE _ _ r2.1) r2.2
    rw [p1, p2, p3]
    exact dErr_odd _ _ r2.1
  by_cases b0 : z2 = 0
  · subst b0
    rw [oM_zero, oE_zero, Int.add_zero]
    obtain ⟨p1, p2, p3⟩ := add_zero_r (oM z1) (oE z1 lo) (bE _ _ r1.1) r1.2 (oM_ne z1 a0).1
    rw [p1, p2, p3]
    exact dErr_odd _ _ r1.1
  have sa := (oM_ne z1 a0).1
  have sb := (oM_ne z2 b0).1
  have x1 := oE_ne z1 lo a0
  have x2 := oE_ne z2 lo b0
  have t1 := h1.tzs a0
  have t2 := h2.tzs b0
  have hz1 := h1.tops
  obtain ⟨_, l1, l2, l3⟩ := h1
  have hl := lowE_ne (oM z1) (oE z1 lo) (oM z2) (oE z2 lo) sa sb
  obtain ⟨l, hl'⟩ : ∃ l, min (oE z1 lo) (oE z2 lo) = l := ⟨_, rfl⟩
  rw [hl'] at hl
  have hl0 : lo ≤ l := by omega
  obtain ⟨k, hk⟩ : ∃ k : Nat, (k : Int) = l - lo := ⟨(l - lo).toNat, by omega⟩
  have hlk : lo + (k : Int) = l := by omega
  have u1 : up (oM z1) (oE z1 lo) l * 2 ^ k = z1 := by
    conv => rhs; rw [← oM_level z1 lo a0]
    unfold up
    rw [Int.mul_assoc, ← Int.pow_add]
    congr 2
    omega
  have u2 : up (oM z2) (oE z2 lo) l * 2 ^ k = z2 := by
    conv => rhs; rw [← oM_level z2 lo b0]
    unfold up
    rw [Int.mul_assoc, ← Int.pow_add]
    congr 2
    omega
  have hz2 := h2.tops
  have dd1 : oE z1 lo - l ≤ 16384 := by clear hz1 hz2; omega
  have dd2 : oE z2 lo - l ≤ 16384 := by clear hz1 hz2; omega
  have le_of : ∀ u z : Int, u * 2 ^ k = z → u.natAbs ≤ z.natAbs := fun u z h => by
    rw [← h, Int.natAbs_mul, Int.natAbs_pow]
    exact Nat.le_mul_of_pos_right _ (Nat.pow_pos (by decide))
  have hZ : sumZ (oM z1) (oE z1 lo) (oM z2) (oE z2 lo) * 2 ^ k = z1 + z2 := by
    unfold sumZ
    rw [hl, Int.add_mul, u1, u2]
  have e1 : upE (oM z1) (oE z1 lo) l = 0 := upE_ok _ _ _ (Nat.lt_of_le_of_lt (le_of _ _ u1) hz1) dd1
  have e2 : upE (oM z2) (oE z2 lo) l = 0 := upE_ok _ _ _ (Nat.lt_of_le_of_lt (le_of _ _ u2) hz2) dd2
  have hzT : (sumZ (oM z1) (oE z1 lo) (oM z2) (oE z2 lo)).natAbs < TOP := Nat.lt_of_le_of_lt (le_of _ _ hZ) h3.tops
  obtain ⟨p1, p2, p3⟩ := ad_fits (by rw [hl]; exact e1) (by rw [hl]; exact e2) hzT
  rw [p1, p2, p3, hl]
  generalize sumZ (oM z1) (oE z1 lo) (oM z2) (oE z2 lo) = Z at *
  have hs := oM_scale Z k lo
  rw [hZ] at hs
  have hx : oE (z1 + z2) lo = oE Z l := by rw [hs.2, hlk]
  have r3 := h3.right.1
  rw [hs.1, hx] at r3 ⊢
  have hin : -32768 ≤ l ∧ l ≤ 32768 := by clear hz1 hz2 hzT; omega
  exact (told_make Z l hin).1 r3

/-- The product at the sum of the levels. -/
theorem mul_level {lo1 lo2 : Int} {W1 W2 W : Nat} {z1 z2 : Int} (h3 : Lvl (lo1 + lo2) W (z1 * z2)) (h1 : Lvl lo1 W1 z1) (h2 : Lvl lo2 W2 z2) :
    (oM z1 * oM z2).natAbs < TOP ∧ dErr (oM z1 * oM z2) (oE z1 lo1 + oE z2 lo2) = 0 ∧ dM (oM z1 * oM z2) (oE z1 lo1 + oE z2 lo2) = oM (z1 * z2) ∧ dX (oM z1 * oM z2) (oE z1 lo1 + oE z2 lo2) = oE (z1 * z2) (lo1 + lo2) := by
  have r3 := h3.right
  rw [← oM_mul]
  refine ⟨r3.2, ?_⟩
  by_cases a0 : z1 = 0
  · subst a0
    have bE : -16384 ≤ oE z2 lo2 ∧ oE z2 lo2 ≤ 16384 := by
      by_cases b0 : z2 = 0
      · subst b0; rw [oE_zero]; decide
      · have := h2.tzs b0
        rw [oE_ne _ _ b0]
        have := h2.2
        omega
    rw [Int.zero_mul, oM_zero, oE_zero, oE_zero, Int.zero_add]
    have hk : dOk 0 (oE z2 lo2) = true := by unfold dOk; rw [decide_eq_true (show -32768 ≤ oE z2 lo2 ∧ oE z2 lo2 ≤ 32768 by omega)]; simp
    unfold dErr dM dX
    rw [hk]
    simp [oM_zero, oE_zero]
  by_cases b0 : z2 = 0
  · subst b0
    have bE : -16384 ≤ oE z1 lo1 ∧ oE z1 lo1 ≤ 16384 := by
      have := h1.tzs a0
      rw [oE_ne _ _ a0]
      have := h1.2
      omega
    rw [Int.mul_zero, oM_zero, oE_zero, oE_zero, Int.add_zero]
    have hk : dOk 0 (oE z1 lo1) = true := by unfold dOk; rw [decide_eq_true (show -32768 ≤ oE z1 lo1 ∧ oE z1 lo1 ≤ 32768 by omega)]; simp
    unfold dErr dM dX
    rw [hk]
    simp [oM_zero, oE_zero]
  have hx : oE z1 lo1 + oE z2 lo2 = oE (z1 * z2) (lo1 + lo2) := by
    have h0 : z1 * z2 ≠ 0 := fun e => by rcases Int.mul_eq_zero.1 e with e | e; exact a0 e; exact b0 e
    rw [oE_ne _ _ a0, oE_ne _ _ b0, oE_ne _ _ h0, tz_mul2 z1 z2 a0 b0]
    omega
  rw [hx]
  exact dErr_odd _ _ r3.1

/-- A right number at a level below its power. -/
theorem at_level {n : Bool} {L : List Nat} {x lo : Int} (h : drB n L x = true) (hl : lo ≤ x) : oM (up (sval n L) x lo) = sval n L ∧ oE (up (sval n L) x lo) lo = x := by
  obtain ⟨r, _, _, _, zx⟩ := drB_bounds h
  by_cases h0 : sval n L = 0
  · rw [h0, up_zero, oM_zero, oE_zero, zx ((sval_zero_iff r).1 h0)]
    exact ⟨rfl, rfl⟩
  · have ho := (drB_odd h h0).2
    have hO : OddOf (up (sval n L) x lo) (sval n L) (x - lo).toNat := ⟨rfl, ho⟩
    obtain ⟨e0, e1, e2⟩ := hO.eq
    exact ⟨e1.symm, by rw [oE_ne _ _ e0, ← e2]; omega⟩

end Go.Proofs.YtlbggedahpnjgaaDoor

/- Contracts of Add, Sub, Mul, Same at a level. -/
namespace Go.Proofs.YtlbggedahpnjgaaDoor
open Go.RowKit

theorem addN {w : World} {v u : Value} {lo : Int} {W : Nat} {z1 z2 : Int} (hv : IsDy w v (oM z1) (oE z1 lo)) (hu : IsDy w u (oM z2) (oE z2 lo)) (h1 : Lvl lo W z1) (h2 : Lvl lo W z2) (h3 : Lvl lo W (z1 + z2)) (t : Tab w) :
    Calls Tryd.prog 52 #[v, u] w fun r w' => DyR w' r 0 (oM (z1 + z2)) (oE (z1 + z2) lo) ∧ Below w.heap.size w w' := by
  obtain ⟨na, ao, ca, A, rfl, a1, a2, a3, a4, a5⟩ := hv.right h1.right.2
  obtain ⟨nb, bo, cb, B, rfl, b1, b2, b3, b4, b5⟩ := hu.right h2.right.2
  rw [h1.right.1] at a5
  rw [h2.right.1] at b5
  have := dadd_right na nb ao bo ca cb A B _ _ w a1 b1 a5 b5 t
  obtain ⟨e1, e2, e3⟩ := ad_level h1 h2 h3
  rwa [a3, b3, e1, e2, e3] at this

theorem mulN {w : World} {v u : Value} {lo1 lo2 : Int} {W1 W2 W : Nat} {z1 z2 : Int} (hv : IsDy w v (oM z1) (oE z1 lo1)) (hu : IsDy w u (oM z2) (oE z2 lo2)) (h1 : Lvl lo1 W1 z1) (h2 : Lvl lo2 W2 z2) (h3 : Lvl (lo1 + lo2) W (z1 * z2)) (t : Tab w) :
    Calls Tryd.prog 55 #[v, u] w fun r w' => DyR w' r 0 (oM (z1 * z2)) (oE (z1 * z2) (lo1 + lo2)) ∧ Below w.heap.size w w' := by
  obtain ⟨na, ao, ca, A, rfl, a1, a2, a3, a4, a5⟩ := hv.right h1.right.2
  obtain ⟨nb, bo, cb, B, rfl, b1, b2, b3, b4, b5⟩ := hu.right h2.right.2
  rw [h1.right.1] at a5
  rw [h2.right.1] at b5
  obtain ⟨e0, e1, e2, e3⟩ := mul_level h3 h1 h2
  have := dmul_right na nb ao bo ca cb A B _ _ w a1 b1 a5 b5 (by rw [a3, b3]; exact e0) t
  rwa [a3, b3, e1, e2, e3] at this

end Go.Proofs.YtlbggedahpnjgaaDoor

