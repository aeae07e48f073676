/- Part 17 of the texts. -/
import Derived.Test.YtfnnbkclnflpfaaGreatDoorPartQ15
import Derived.Test.YtfnnbkclnflpfaaGreatDoorPartQ14
import Derived.Test.YtfnnbkclnflpfaaGreatDoorPartQ16
/- The reference's dyadic numbers at a level: Sub, Compare, Scale by 1, Neg. -/
namespace Go.Proofs.YtfnnbkclnflpfaaGreatDoor
open Go.RowKit

theorem up_level (z lo : Int) (k : Nat) (h : z ≠ 0 → lo + k ≤ oE z lo) : up (oM z) (oE z lo) (lo + k) * 2 ^ k = z := by
  by_cases h0 : z = 0
  · subst h0; rw [oM_zero, up_zero]; simp
  · have h1 := h h0
    conv => rhs; rw [← oM_level z lo h0]
    unfold up
    rw [Int.mul_assoc, ← Int.pow_add]
    congr 2
    omega

theorem low_level {lo : Int} {W : Nat} {z1 z2 : Int} (h1 : Lvl lo W z1) (h2 : Lvl lo W z2) (h0 : ¬ (z1 = 0 ∧ z2 = 0)) :
    ∃ k : Nat, lowE (oM z1) (oE z1 lo) (oM z2) (oE z2 lo) = lo + k ∧ up (oM z1) (oE z1 lo) (lo + k) * 2 ^ k = z1 ∧ up (oM z2) (oE z2 lo) (lo + k) * 2 ^ k = z2 ∧ oE z1 lo - (lo + k) ≤ 16384 ∧ oE z2 lo - (lo + k) ≤ 16384 := by
  have b1 := h1.2.1
  have b2 := h1.2.2.1
  have b3 := h1.2.2.2
  have hb : ∀ z, Lvl lo W z → (z = 0 ∧ oM z = 0 ∧ oE z lo = 0) ∨ (z ≠ 0 ∧ oM z ≠ 0 ∧ oE z lo = lo + (tz z.natAbs : Int) ∧ tz z.natAbs < W) := fun z hz => by
    by_cases e : z = 0
    · left; subst e; exact ⟨rfl, oM_zero, oE_zero _⟩
    · right; exact ⟨e, (oM_ne z e).1, oE_ne z lo e, hz.tzs e⟩
  rcases hb z1 h1 with ⟨e1, m1, x1⟩ | ⟨e1, m1, x1, t1⟩
  · rcases hb z2 h2 with ⟨e2, m2, x2⟩ | ⟨e2, m2, x2, t2⟩
    · exact absurd ⟨e1, e2⟩ h0
    · refine ⟨tz z2.natAbs, ?_, up_level z1 lo _ (fun h => absurd e1 h), up_level z2 lo _ (fun _ => by omega), by omega, by omega⟩
      unfold lowE; rw [if_pos m1]; exact x2
  · rcases hb z2 h2 with ⟨e2, m2, x2⟩ | ⟨e2, m2, x2, t2⟩
    · refine ⟨tz z1.natAbs, ?_, up_level z1 lo _ (fun _ => by omega), up_level z2 lo _ (fun h => absurd e2 h), by omega, by omega⟩
      unfold lowE; rw [if_neg m1, if_pos m2]; exact x1
    · refine ⟨min (tz z1.natAbs) (tz z2.natAbs), ?_, up_level z1 lo _ (fun _ => by omega), up_level z2 lo _ (fun _ => by omega), by omega, by omega⟩
      rw [lowE_ne _ _ _ _ m1 m2, x1, x2]; omega

theorem le_scaled {u z : Int} {k : Nat} (h : u * 2 ^ k = z) : u.natAbs ≤ z.natAbs := by
  rw [← h, Int.natAbs_mul, Int.natAbs_pow]
  exact Nat.le_mul_of_pos_right _ (Nat.pow_pos (by decide))

theorem Lvl.neg {lo : Int} {W : Nat} {z : Int} (h : Lvl lo W z) : Lvl lo W (-z) := ⟨by rw [Int.natAbs_neg]; exact h.1, h.2⟩

theorem dRt_in {m e : Int} (h : dRt m e = true) : -16384 ≤ e ∧ e ≤ 16384 := by
  unfold dRt at h
  by_cases h0 : m = 0
  · rw [if_pos h0] at h; have := of_decide_eq_true h; omega
  · rw [if_neg h0, Bool.and_eq_true] at h; exact of_decide_eq_true h.2

theorem rsubN {w : World} {v u : Value} {lo : Int} {W : Nat} {z1 z2 : Int} (hv : IsDy w v (oM z1) (oE z1 lo)) (hu : IsDy w u (oM z2) (oE z2 lo)) (h1 : Lvl lo W z1) (h2 : Lvl lo W z2) :
    Calls Tryz.prog 47 #[v, u] w fun r w' => ∃ q, r = .returned q ∧ IsDy w' q (oM (z1 - z2)) (oE (z1 - z2) lo) ∧ Below w.heap.size w w' := by
  obtain ⟨na, ao, ca, A, rfl, a1, a2, a3, a4, a5⟩ := hv.right h1.right.2
  obtain ⟨nb, bo, cb, B, rfl, b1, b2, b3, b4, b5⟩ := hu.right h2.right.2
  have x1 := dRt_in h1.right.1
  have x2 := dRt_in h2.right.1
  have hn := oM_neg z2
  have hN := h2.neg
  have t1 := h1.tops
  have t2 := hN.tops
  by_cases h0 : z1 = 0 ∧ z2 = 0
  · obtain ⟨rfl, rfl⟩ := h0
    have hz : ∀ W : World, W = W := fun _ => rfl
    rw [oM_zero] at a3 b3
    rw [oE_zero] at *
    have eZ : sumZ 0 0 (-0) 0 = 0 := by decide
    have eU : upE 0 0 (lowE 0 0 (-0) 0) = 0 := upE_ok _ _ _ (by rw [up_zero]; exact TOP_pos) (by decide)
    have eU2 : upE (-0) 0 (lowE 0 0 (-0) 0) = 0 := upE_ok _ _ _ (by rw [Int.neg_zero, up_zero]; exact TOP_pos) (by decide)
    have := rsub_any na nb ao bo ca cb A B 0 0 w a1 b1 a2 b2 (by omega) (by omega) (by rw [a3, b3]; exact eU) (by rw [a3, b3]; exact eU2)
    rw [a3, b3, eZ, oM_zero, oE_zero] at this
    simpa [oM_zero, oE_zero] using this
  · obtain ⟨k, e1, e2, e3, e4, e5⟩ := low_level h1 hN (by omega)
    have hx : oE (-z2) lo = oE z2 lo := hn.2 lo
    rw [hn.1, hx] at e1
    have e3' := e3
    rw [hn.1, hx] at e3
    rw [hx] at e5
    have g1 : upE (oM z1) (oE z1 lo) (lo + k) = 0 := upE_ok _ _ _ (Nat.lt_of_le_of_lt (le_scaled e2) t1) e4
    have g2 : upE (-oM z2) (oE z2 lo) (lo + k) = 0 := upE_ok _ _ _ (Nat.lt_of_le_of_lt (le_scaled e3) t2) e5
    have := rsub_any na nb ao bo ca cb A B _ _ w a1 b1 a2 b2 x1 x2 (by rw [a3, b3, e1]; exact g1) (by rw [a3, b3, e1]; exact g2)
    rw [a3, b3, e1] at this
    have hZ : sumZ (oM z1) (oE z1 lo) (-oM z2) (oE z2 lo) * 2 ^ k = z1 - z2 := by
      unfold sumZ
      rw [e1, Int.add_mul, e2, e3, Int.sub_eq_add_neg]
    generalize sumZ (oM z1) (oE z1 lo) (-oM z2) (oE z2 lo) = Z at *
    have hs := oM_scale Z k lo
    rw [hZ] at hs
    rw [hs.1, hs.2]
    exact this

end Go.Proofs.YtfnnbkclnflpfaaGreatDoor

/- What sums of binary64 are: a number's value in units of the least one, the sum's bits and flags. -/
namespace Go.Proofs.YtfnnbkclnflpfaaGreatDoor
open Go.RowKit

/-- The rung; the value in units of the least number. -/
def fR (b : Nat) : Nat := b % 9223372036854775808
def fZ (b : Nat) : Int := pv (fS b) (fR b)

theorem b_wrd (b : Nat) (h : b < 18446744073709551616) : wrd (fS b) (fR b) = b := by
  unfold fS fR
  by_cases c : 9223372036854775808 ≤ b
  · rw [decide_eq_true c, wrd_true]; omega
  · rw [decide_eq_false c, wrd_false]; omega
theorem fR_lt (b : Nat) : fR b < 9223372036854775808 := by unfold fR; omega
theorem fR_fin (b : Nat) (hf : fFin b = true) : fR b < 9218868437227405312 := by
  have h1 := of_decide_eq_true hf
  unfold fP at h1
  unfold fR
  omega
theorem sg_pv (n : Bool) (s : Nat) : sg n (rv s) = pv n s := rfl

theorem fZ_level (b : Nat) (h : b < 18446744073709551616) (hf : fFin b = true) : oM (fZ b) = fD b ∧ oE (fZ b) (-1074) = fX b := by
  obtain ⟨j, h1, h2⟩ := fM_wrd (fS b) (fR b) (fR_fin b hf)
  rw [b_wrd b h] at h1 h2
  have h3 := oM_scale (fM b) j (-1074)
  rw [h2, sg_pv, ← h1] at h3
  exact h3

theorem rv_inf : rv 9218868437227405312 = 2 ^ 2098 := by decide +kernel
theorem pv_abs (n : Bool) (r : Nat) : (pv n r).natAbs = rv r := by unfold pv; split <;> omega
theorem fZ_abs (b : Nat) : (fZ b).natAbs = rv (fR b) := pv_abs _ _
theorem fZ_lt (b : Nat) (hf : fFin b = true) : (fZ b).natAbs < 2 ^ 2098 := by
  rw [fZ_abs, ← rv_inf]; exact rv_lt (fR_fin b hf)

end Go.Proofs.YtfnnbkclnflpfaaGreatDoor

/- Contracts of package compare: Abs, place, Order, Less, Equal, Max. -/
namespace Go.Proofs.YtfnnbkclnflpfaaGreatDoor
open Go.RowKit
/-- Where a number stands. -/
def pl (a : Nat) : Int := if fS a = true then -(fR a : Int) else (fR a : Int)

theorem rv8_lt {r s : Nat} (h : r < s) : rv r < rv s := Nat.lt_of_lt_of_le (rv_succ r) (rv_mono h)
theorem rv_pos {r : Nat} (h : 0 < r) : 0 < rv r := by have := rv8_lt h; rw [rv_zero] at this; exact this
end Go.Proofs.YtfnnbkclnflpfaaGreatDoor

/- Products and quotients of binary64: what they are, and that the model's own are these. -/
namespace Go.Proofs.YtfnnbkclnflpfaaGreatDoor
open Go.RowKit

theorem rv_eq0 (r : Nat) : rv r = 0 ↔ r = 0 := by
  constructor
  · intro h
    rcases Nat.eq_zero_or_pos r with e | e
    · exact e
    · have := rv_lt e; rw [rv_zero] at this; omega
  · intro h; rw [h, rv_zero]
theorem fK_zero (b : Nat) : fK b = 0 ↔ fR b = 0 := by
  have h := fR_lt b
  have hF : fF b = fR b % 4503599627370496 := by unfold fF fR; omega
  have hP : fP b = fR b / 4503599627370496 := rfl
  unfold fK
  rw [hF, hP]
  generalize fR b = r at *
  split
  · split <;> constructor <;> intro _ <;> omega
  · split
    · split <;> constructor <;> intro _ <;> omega
    · constructor <;> intro _ <;> omega

/-- The quotient's odd parts, and where they stand. -/
theorem odd_mag (b : Nat) (hb : b < 18446744073709551616) (hf : fFin b = true) (h0 : fK b ≠ 0) :
    ∃ β : Nat, fX b = -1074 + (β : Int) ∧ rv (fR b) = (fD b).natAbs * 2 ^ β ∧ (fD b).natAbs % 2 = 1 ∧ (fD b).natAbs < 9007199254740992 := by
  obtain ⟨d1, d2⟩ := fZ_level b hb hf
  have hr : fR b ≠ 0 := fun e => h0 ((fK_zero b).2 e)
  have hz : fZ b ≠ 0 := fun e => hr ((rv_eq0 _).1 (by rw [← fZ_abs, e]; rfl))
  have h1 := oM_abs (fZ b) hz
  have h2 := oE_ne (fZ b) (-1074) hz
  refine ⟨tz (fZ b).natAbs, by rw [← d2, h2], by rw [← fZ_abs, h1, d1]; congr 2; rw [← d1, ← h1], ?_, ?_⟩
  · have := (oM_ne (fZ b) hz).2
    rw [d1] at this
    omega
  · have : (oM (fM b)).natAbs ≤ (fM b).natAbs := oM_le _
    have h3 := fM_lt b
    show (oM (fM b)).natAbs < _
    omega

end Go.Proofs.YtfnnbkclnflpfaaGreatDoor

/- Long division: the program's, a digit a step, and the reference's; both are the quotient. -/
namespace Go.Proofs.YtfnnbkclnflpfaaGreatDoor
open Go.RowKit
/-- What the program divides: the odd parts with their first digit at 2^52. -/
def dS (b : Nat) : Nat := (fD b).natAbs * 2 ^ (53 - bl (fD b).natAbs)
theorem dS_facts (b : Nat) (hb : b < 18446744073709551616) (hf : fFin b = true) (h0 : fK b ≠ 0) :
    bl (fD b).natAbs ≤ 53 ∧ 1 ≤ bl (fD b).natAbs ∧ 4503599627370496 ≤ dS b ∧ dS b < 9007199254740992 ∧ -1074 ≤ fX b ∧ fX b ≤ 1024 ∧ (fD b).natAbs % 2 = 1 ∧ (fD b).natAbs < 9007199254740992 := by
  obtain ⟨β, x1, x2, x3, x4⟩ := odd_mag b hb hf h0
  have hne : (fD b).natAbs ≠ 0 := by omega
  obtain ⟨b1, b2, b3⟩ := bl_spec _ hne
  have hbl : bl (fD b).natAbs ≤ 53 := by
    have : (2 : Nat) ^ (bl (fD b).natAbs - 1) < 2 ^ 53 := by rw [p53]; omega
    have := pow_lt_of this
    omega
  have hs := bl_scale (fD b).natAbs (53 - bl (fD b).natAbs) hne
  have hs' : bl (dS b) = 53 := by unfold dS; rw [hs]; omega
  have hd0 : dS b ≠ 0 := by
    unfold dS
    exact Nat.mul_ne_zero hne (Nat.pos_iff_ne_zero.1 (Nat.two_pow_pos _))
  obtain ⟨c1, c2, c3⟩ := bl_spec _ hd0
  rw [hs'] at c2 c3
  have hz := fZ_lt b hf
  rw [fZ_abs, x2] at hz
  have hβ : β < 2098 := by
    have h1 : 2 ^ β ≤ (fD b).natAbs * 2 ^ β := Nat.le_mul_of_pos_left _ (by omega)
    exact pow_lt_of (Nat.lt_of_le_of_lt h1 hz)
  refine ⟨hbl, b1, ?_, ?_, by omega, by omega, x3, x4⟩
  · exact c2
  · rw [p53] at c3; exact c3

end Go.Proofs.YtfnnbkclnflpfaaGreatDoor

