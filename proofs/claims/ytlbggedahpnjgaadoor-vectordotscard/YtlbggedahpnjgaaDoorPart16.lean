/- Part 16 of the texts. -/
import Derived.Test.YtlbggedahpnjgaaDoorPart15
/- Contracts of the reference's Wide, Level, Neg. -/
namespace Go.Proofs.YtlbggedahpnjgaaDoor
open Go.RowKit
attribute [local go_sem ↓] Go.wp_at_zero Go.wp_at_succ

theorem lowR_bounds (n m : Nat) (x y : Int) (hx : -16384 ≤ x ∧ x ≤ 16384) (hy : -16384 ≤ y ∧ y ≤ 16384) : -16384 ≤ lowR n m x y ∧ lowR n m x y ≤ 16384 := by
  unfold lowR
  split
  · omega
  · split <;> omega

end Go.Proofs.YtlbggedahpnjgaaDoor

/- Contracts of the reference's Add, Sub. -/
namespace Go.Proofs.YtlbggedahpnjgaaDoor
open Go.RowKit
attribute [local go_sem ↓] Go.wp_at_zero Go.wp_at_succ

theorem upE_le {s x l : Int} (h : upE s x l = 0) : x - l ≤ 16384 := by
  unfold upE at h
  by_cases h1 : (up s x l).natAbs < TOP ∧ x - l ≤ 16384
  · exact h1.2
  · rw [if_neg h1] at h; exact absurd h (by decide)

end Go.Proofs.YtlbggedahpnjgaaDoor

/- Sums of few limbs: when they fit. -/
namespace Go.Proofs.YtlbggedahpnjgaaDoor
open Go.RowKit

theorem up_neg (s x l : Int) : up (-s) x l = - up s x l := by unfold up; rw [Int.neg_mul]
theorem upE_neg (s x l : Int) : upE (-s) x l = upE s x l := by unfold upE; rw [up_neg, Int.natAbs_neg]
theorem lowE_neg (sa x sb y : Int) : lowE sa x (-sb) y = lowE sa x sb y := by
  unfold lowE
  by_cases h : sb = 0
  · subst h; rfl
  · rw [if_neg h, if_neg (show ¬ -sb = 0 by omega)]

theorem sum_pow (a b d K N : Nat) (ha : a < 2 ^ K) (hb : b < 2 ^ K) (hu : a * 2 ^ d < 2 ^ N) (hd : d ≤ N) (hK : K + K + 1 ≤ N) : a * 2 ^ d + b < 2 ^ N := by
  by_cases h : K ≤ d
  · have hb2 : b < 2 ^ d := Nat.lt_of_lt_of_le hb (Nat.pow_le_pow_right (by decide) h)
    have e : 2 ^ N = 2 ^ (N - d) * 2 ^ d := by rw [← Nat.pow_add, Nat.sub_add_cancel hd]
    rw [e] at hu ⊢
    have h1 : a < 2 ^ (N - d) := Nat.lt_of_mul_lt_mul_right hu
    have h2 : (a + 1) * 2 ^ d ≤ 2 ^ (N - d) * 2 ^ d := Nat.mul_le_mul_right _ h1
    rw [Nat.add_mul] at h2
    omega
  · have h1 : a * 2 ^ d < 2 ^ (K + K) := by
      have : a * 2 ^ d ≤ a * 2 ^ K := Nat.mul_le_mul_left _ (Nat.pow_le_pow_right (by decide) (by omega))
      have h3 : a * 2 ^ K < 2 ^ K * 2 ^ K := Nat.mul_lt_mul_of_pos_right ha (Nat.pow_pos (by decide))
      rw [← Nat.pow_add] at h3
      omega
    have h2 : b < 2 ^ (K + K) := Nat.lt_of_lt_of_le hb (Nat.pow_le_pow_right (by decide) (by omega))
    have h3 : 2 ^ (K + K) + 2 ^ (K + K) = 2 ^ (K + K + 1) := by rw [Nat.pow_succ]; omega
    have h4 : 2 ^ (K + K + 1) ≤ 2 ^ N := Nat.pow_le_pow_right (by decide) hK
    omega

theorem natAbs_upi (s x l : Int) : (up s x l).natAbs = s.natAbs * 2 ^ (x - l).toNat := by
  unfold up
  rw [Int.natAbs_mul, Int.natAbs_pow]
  rfl

theorem sum_light (sa x sb y : Int) (K : Nat) (ha : sa.natAbs < 2 ^ K) (hb : sb.natAbs < 2 ^ K) (hK : K + K + 1 ≤ 32 * TOPN) (e1 : upE sa x (lowE sa x sb y) = 0) (e2 : upE sb y (lowE sa x sb y) = 0) : (sumZ sa x sb y).natAbs < TOP := by
  have u1 := upE_TOP e1
  have u2 := upE_TOP e2
  have d1 := upE_le e1
  have d2 := upE_le e2
  unfold sumZ
  by_cases h1 : sa = 0
  · subst h1; rw [up_zero, Int.zero_add]; exact u2
  by_cases h2 : sb = 0
  · subst h2; rw [up_zero, Int.add_zero]; exact u1
  rw [lowE_ne sa x sb y h1 h2] at u1 u2 d1 d2 ⊢
  have e2N : 32 * TOPN = 16384 := rfl
  rw [TOP_eq] at u1 u2 ⊢
  have htri : ∀ p q : Int, (p + q).natAbs ≤ p.natAbs + q.natAbs := fun p q => Int.natAbs_add_le p q
  rcases (show x ≤ y ∨ y ≤ x by omega) with h | h
  · have hm : min x y = x := by omega
    rw [hm] at u1 u2 d1 d2 ⊢
    rw [up_self] at u1 ⊢
    rw [natAbs_upi] at u2
    have h3 := sum_pow sb.natAbs sa.natAbs (y - x).toNat K (32 * TOPN) hb ha u2 (by omega) hK
    have h4 := htri sa (up sb y x)
    rw [natAbs_upi] at h4
    omega
  · have hm : min x y = y := by omega
    rw [hm] at u1 u2 d1 d2 ⊢
    rw [up_self] at u2 ⊢
    rw [natAbs_upi] at u1
    have h3 := sum_pow sa.natAbs sb.natAbs (x - y).toNat K (32 * TOPN) ha hb u1 (by omega) hK
    have h4 := htri (up sa x y) sb
    rw [natAbs_upi] at h4
    omega

/-- What the reference says of a width, and what the program does. -/
theorem wid_up {n : Bool} {L : List Nat} {x l : Int} (hf : Fits L) (hr : rightB n L = true) (h : L.length ≠ 0 → l ≤ x) (hz : L.length = 0 → x - l ≤ 16384) : widB L x l = false ↔ upE (sval n L) x l = 0 := by
  unfold widB
  by_cases h0 : L.length = 0
  · rw [decide_eq_false (fun h => h.1 h0)]
    refine ⟨fun _ => upE_ok _ _ _ ?_ (hz h0), fun _ => rfl⟩
    rw [(sval_zero_iff hr).2 h0, up_zero]; exact TOP_pos
  · have hb := up_bits n L x l hf hr (fun e => h0 (by rw [e]; rfl)) (h h0)
    rw [hb, decide_eq_false_iff_not]
    constructor
    · intro h1
      have h2 : ¬ (16384 < x - l ∨ 16384 < lenL L + x - l) := fun h3 => h1 ⟨h0, h3⟩
      omega
    · rintro ⟨h1, h2⟩ ⟨_, h3⟩
      omega

theorem wide_fits {na nb : Bool} {A B : List Nat} {x y : Int} (fA : Fits A) (fB : Fits B) (ra : rightB na A = true) (rb : rightB nb B = true) (hx : -16384 ≤ x ∧ x ≤ 16384) (hy : -16384 ≤ y ∧ y ≤ 16384) (zx : A.length = 0 → x = 0) (zy : B.length = 0 → y = 0) :
    (widB A x (lowR A.length B.length x y) || widB B y (lowR A.length B.length x y)) = false ↔ (upE (sval na A) x (lowE (sval na A) x (sval nb B) y) = 0 ∧ upE (sval nb B) y (lowE (sval na A) x (sval nb B) y) = 0) := by
  have hl := lowR_bounds A.length B.length x y hx hy
  have g1 : A.length ≠ 0 → lowR A.length B.length x y ≤ x := fun h => by
    unfold lowR; rw [if_neg h]; split <;> omega
  have g2 : B.length ≠ 0 → lowR A.length B.length x y ≤ y := fun h => by
    unfold lowR
    split
    · omega
    · omega
  rw [← lowR_E ra rb, Bool.or_eq_false_iff, wid_up fA ra g1 (fun h => by have := zx h; omega), wid_up fB rb g2 (fun h => by have := zy h; omega)]

end Go.Proofs.YtlbggedahpnjgaaDoor

/- The law DyadicSums, walked. -/
namespace Go.Proofs.YtlbggedahpnjgaaDoor
open Go.RowKit
attribute [local go_sem ↓] Go.wp_at_zero Go.wp_at_succ

theorem ad_fits {sa x sb y : Int} (e1 : upE sa x (lowE sa x sb y) = 0) (e2 : upE sb y (lowE sa x sb y) = 0) (hz : (sumZ sa x sb y).natAbs < TOP) :
    adE sa x sb y = dErr (sumZ sa x sb y) (lowE sa x sb y) ∧ adM sa x sb y = dM (sumZ sa x sb y) (lowE sa x sb y) ∧ adX sa x sb y = dX (sumZ sa x sb y) (lowE sa x sb y) := by
  have hf : fitsB sa x sb y = true := decide_eq_true ⟨e1, e2, hz⟩
  unfold adE adM adX
  rw [hf]
  exact ⟨rfl, rfl, rfl⟩

theorem ad_wide {sa x sb y : Int} (h : ¬ (upE sa x (lowE sa x sb y) = 0 ∧ upE sb y (lowE sa x sb y) = 0)) : adE sa x sb y = 2 ∧ adM sa x sb y = 0 ∧ adX sa x sb y = 0 := by
  have hf : fitsB sa x sb y = false := decide_eq_false (fun e => h ⟨e.1, e.2.1⟩)
  unfold adE adM adX
  rw [hf]
  exact ⟨rfl, rfl, rfl⟩

end Go.Proofs.YtlbggedahpnjgaaDoor

/- The order of dyadic numbers: by signs, by tops, by what they differ by. -/
namespace Go.Proofs.YtlbggedahpnjgaaDoor
open Go.RowKit

/-- The sign of a number. -/
def sgnI (z : Int) : Int := if z < 0 then -1 else if z = 0 then 0 else 1
/-- The order of two numbers, written with one power. -/
def cmpV (sa x sb y : Int) : Int := cmpI (up sa x (lowE sa x sb y)) (up sb y (lowE sa x sb y))

theorem sgnI_neg {u : Int} (h : u < 0) : sgnI u = -1 := by unfold sgnI; rw [if_pos h]
theorem sgnI_zero : sgnI 0 = 0 := rfl
theorem sgnI_pos {u : Int} (h : 0 < u) : sgnI u = 1 := by unfold sgnI; rw [if_neg (by omega), if_neg (by omega)]

theorem sgnI_mul_pow (s : Int) (k : Nat) : sgnI (s * 2 ^ k) = sgnI s := by
  have hp : (0 : Int) < 2 ^ k := Int.pow_pos (by decide)
  rcases Int.lt_trichotomy s 0 with h | h | h
  · rw [sgnI_neg h, sgnI_neg (Int.mul_neg_of_neg_of_pos h hp)]
  · subst h; rw [Int.zero_mul]
  · rw [sgnI_pos h, sgnI_pos (Int.mul_pos h hp)]

theorem sgnI_up (s x l : Int) : sgnI (up s x l) = sgnI s := sgnI_mul_pow s _

theorem sgnB_I {n : Bool} {L : List Nat} (h : rightB n L = true) : sgnB n L.length = sgnI (sval n L) := by
  unfold sgnB
  have hz := sval_zero_iff h
  by_cases h0 : L.length = 0
  · rw [if_pos h0, hz.2 h0]; rfl
  · have h1 : sval n L ≠ 0 := fun e => h0 (hz.1 e)
    rw [if_neg h0]
    unfold sval at h1 ⊢
    cases n
    · simp only [Bool.false_eq_true, if_false] at h1 ⊢
      rw [sgnI_pos (by omega)]
    · simp only [if_true] at h1 ⊢
      rw [sgnI_neg (by omega)]

theorem rsgn_I {n : Bool} {L : List Nat} (h : rightB n L = true) : rsgn n L.length = sgnI (sval n L) := by
  rw [← sgnB_I h]
  unfold rsgn sgnB
  cases n
  · rfl
  · have : L.length ≠ 0 := fun e => (right_canon h).2.2 rfl (List.length_eq_zero_iff.1 e)
    simp [this]

/-- Unlike signs say which is more. -/
theorem cmp_signs (u v : Int) (h : sgnI u ≠ sgnI v) : cmpI (sgnI u) (sgnI v) = cmpI u v ∧ min 1 (max (-1) (sgnI u - sgnI v)) = cmpI u v := by
  rcases Int.lt_trichotomy u 0 with h1 | h1 | h1 <;> rcases Int.lt_trichotomy v 0 with h2 | h2 | h2
  · rw [sgnI_neg h1, sgnI_neg h2] at h; exact absurd rfl h
  · subst h2; rw [sgnI_neg h1, sgnI_zero, cmpI_lt h1]; decide
  · rw [sgnI_neg h1, sgnI_pos h2, cmpI_lt (show u < v by omega)]; decide
  · subst h1; rw [sgnI_neg h2, sgnI_zero, cmpI_gt h2]; decide
  · subst h1; subst h2; exact absurd rfl h
  · subst h1; rw [sgnI_pos h2, sgnI_zero, cmpI_lt h2]; decide
  · rw [sgnI_pos h1, sgnI_neg h2, cmpI_gt (show v < u by omega)]; decide
  · subst h2; rw [sgnI_pos h1, sgnI_zero, cmpI_gt h1]; decide
  · rw [sgnI_pos h1, sgnI_pos h2] at h; exact absurd rfl h

/-- Tops that differ say which is more, without the sign. -/
theorem cmp_tops (va vb na nb da db : Nat) (h2 : va < 2 ^ na) (h3 : 2 ^ (nb - 1) ≤ vb) (hb : 1 ≤ nb) (h : na + da < nb + db) : va * 2 ^ da < vb * 2 ^ db := by
  have e1 : va * 2 ^ da < 2 ^ (na + da) := by rw [Nat.pow_add]; exact Nat.mul_lt_mul_of_pos_right h2 (Nat.pow_pos (by decide))
  have e2 : 2 ^ (nb - 1 + db) ≤ vb * 2 ^ db := by rw [Nat.pow_add]; exact Nat.mul_le_mul_right _ h3
  have e3 : 2 ^ (na + da) ≤ 2 ^ (nb - 1 + db) := Nat.pow_le_pow_right (by decide) (by omega)
  omega

theorem up_sval (n : Bool) (L : List Nat) (x l : Int) : up (sval n L) x l = sg n (val L * 2 ^ (x - l).toNat) := by
  unfold up
  rw [sval_sg]
  unfold sg
  cases n
  · simp
  · simp [Int.neg_mul]

theorem cmpI_swap (u v : Int) : cmpI v u = - cmpI u v := by
  unfold cmpI
  rcases Int.lt_trichotomy u v with h | h | h
  · rw [if_neg (by omega), if_pos h, if_pos h]; rfl
  · subst h; simp
  · rw [if_pos h, if_neg (by omega), if_pos h]

theorem cmpI_sgn (u v : Int) : cmpI u v = sgnI (u - v) := by
  rcases Int.lt_trichotomy u v with h | h | h
  · rw [cmpI_lt h, sgnI_neg (by omega)]
  · subst h; rw [cmpI_eq rfl, Int.sub_self]; rfl
  · rw [cmpI_gt h, sgnI_pos (by omega)]

/-- Two right numbers of one sign that is not 0, by their tops. -/
theorem cmpV_tops {na nb : Bool} {A B : List Nat} {x y : Int} (fA : Fits A) (fB : Fits B) (ra : rightB na A = true) (rb : rightB nb B = true) (hA : A.length ≠ 0) (hB : B.length ≠ 0) (hs : na = nb) (h : lenL A + x < lenL B + y) :
    cmpV (sval na A) x (sval nb B) y = (if na then 1 else -1) ∧ cmpV (sval nb B) y (sval na A) x = (if na then -1 else 1) := by
  have a0 : sval na A ≠ 0 := fun e => hA ((sval_zero_iff ra).1 e)
  have b0 : sval nb B ≠ 0 := fun e => hB ((sval_zero_iff rb).1 e)
  have sA := bits_spec A fA (right_canon ra).2.1 (fun e => hA (by rw [e]; rfl))
  have sB := bits_spec B fB (right_canon rb).2.1 (fun e => hB (by rw [e]; rfl))
  rw [lenL_bits, lenL_bits] at h
  have key : ∀ l, l ≤ x → l ≤ y → cmpI (up (sval na A) x l) (up (sval nb B) y l) = (if na then 1 else -1) := by
    intro l h1 h2
    have hlt := cmp_tops (val A) (val B) (bits1 A) (bits1 B) (x - l).toNat (y - l).toNat sA.2.2 sB.2.1 sB.1 (by omega)
    rw [up_sval, up_sval, ← hs]
    unfold sg
    cases na
    · simp only [Bool.false_eq_true, if_false]
      exact cmpI_lt (by omega)
    · simp only [if_true]
      exact cmpI_gt (by omega)
  constructor
  · unfold cmpV
    rw [lowE_ne _ _ _ _ a0 b0]
    exact key _ (by omega) (by omega)
  · unfold cmpV
    rw [lowE_ne _ _ _ _ b0 a0, cmpI_swap, key _ (by omega) (by omega)]
    cases na <;> rfl

/-- Tops alike: written with the lesser power neither is too wide. -/
theorem tops_fit {na nb : Bool} {A B : List Nat} {x y : Int} (fA : Fits A) (fB : Fits B) (ra : rightB na A = true) (rb : rightB nb B = true) (hA : A.length ≠ 0) (hB : B.length ≠ 0) (h : lenL A + x = lenL B + y) :
    upE (sval na A) x (min x y) = 0 ∧ upE (sval nb B) y (min x y) = 0 := by
  have bl : ∀ (n : Bool) (L : List Nat), Fits L → rightB n L = true → L.length ≠ 0 → 1 ≤ lenL L ∧ lenL L ≤ 16384 := fun n L f r h0 => by
    have s := bits_spec L f (right_canon r).2.1 (fun e => h0 (by rw [e]; rfl))
    have hT := (val_lt_TOP L f (right_canon r).2.1).2 (right_canon r).1
    have e2 : 32 * TOPN = 16384 := rfl
    rw [TOP_eq] at hT
    have hb := bits_up (val L) (bits1 L) 0 (32 * TOPN) s.1 s.2.1 s.2.2
    rw [Nat.pow_zero, Nat.mul_one] at hb
    have := hb.1 hT
    rw [lenL_bits]
    omega
  have b1 := bl na A fA ra hA
  have b2 := bl nb B fB rb hB
  rw [up_bits na A x _ fA ra (fun e => hA (by rw [e]; rfl)) (by omega), up_bits nb B y _ fB rb (fun e => hB (by rw [e]; rfl)) (by omega)]
  omega

/-- Each value has just one right number. -/
theorem cmpV_zero {na nb : Bool} {A B : List Nat} {x y : Int} (hra : drB na A x = true) (hrb : drB nb B y = true) : cmpV (sval na A) x (sval nb B) y = 0 ↔ (x = y ∧ sval na A = sval nb B) := by
  obtain ⟨ra, _, _, _, zx⟩ := drB_bounds hra
  obtain ⟨rb, _, _, _, zy⟩ := drB_bounds hrb
  have c0 : ∀ u v : Int, cmpI u v = 0 ↔ u = v := fun u v => by
    constructor
    · intro h
      rcases Int.lt_trichotomy u v with h1 | h1 | h1
      · rw [cmpI_lt h1] at h; exact absurd h (by decide)
      · exact h1
      · rw [cmpI_gt h1] at h; exact absurd h (by decide)
    · exact fun h => cmpI_eq h
  unfold cmpV
  rw [c0]
  constructor
  · intro h
    by_cases a0 : sval na A = 0
    · rw [a0, up_zero] at h
      have b0 : sval nb B = 0 := by
        have h2 := sgnI_up (sval nb B) y (lowE 0 x (sval nb B) y)
        rw [← h, sgnI_zero] at h2
        rcases Int.lt_trichotomy (sval nb B) 0 with h1 | h1 | h1
        · rw [sgnI_neg h1] at h2; exact absurd h2 (by decide)
        · exact h1
        · rw [sgnI_pos h1] at h2; exact absurd h2 (by decide)
      rw [zx ((sval_zero_iff ra).1 a0), zy ((sval_zero_iff rb).1 b0), a0, b0]
      exact ⟨rfl, rfl⟩
    · have b0 : sval nb B ≠ 0 := fun b0 => by
        rw [b0, up_zero] at h
        have h2 := sgnI_up (sval na A) x (lowE (sval na A) x 0 y)
        rw [h, sgnI_zero] at h2
        rcases Int.lt_trichotomy (sval na A) 0 with h1 | h1 | h1
        · rw [sgnI_neg h1] at h2; exact absurd h2 (by decide)
        · exact a0 h1
        · rw [sgnI_pos h1] at h2; exact absurd h2 (by decide)
      rw [lowE_ne _ _ _ _ a0 b0] at h
      have oA := (drB_odd hra a0).2
      have oB := (drB_odd hrb b0).2
      have hO : ∃ k j : Nat, sval na A * 2 ^ k = sval nb B * 2 ^ j ∧ (k : Int) = x - min x y ∧ (j : Int) = y - min x y := ⟨_, _, h, by omega, by omega⟩
      obtain ⟨k, j, h3, hk, hj⟩ := hO
      obtain ⟨e1, e2⟩ := OddOf.unique (z := sval na A * 2 ^ k) ⟨rfl, oA⟩ ⟨h3, oB⟩
      exact ⟨by omega, e1⟩
  · rintro ⟨rfl, e⟩
    rw [e]

end Go.Proofs.YtlbggedahpnjgaaDoor

