/- Part 37 of the texts. -/
import Derived.Test.YtceofkjefmilfaaGreatDoorPartc36
import Derived.Test.YtceofkjefmilfaaGreatDoorPartc35
import Derived.Test.YtceofkjefmilfaaGreatDoorPartc32
import Derived.Deep.RegionLaw
import Derived.Test.YtceofkjefmilfaaGreatDoorPartc31
import Derived.Test.YtceofkjefmilfaaGreatDoorPartc16
import Derived.Test.YtceofkjefmilfaaGreatDoorPartc27
import Derived.Test.YtceofkjefmilfaaGreatDoorPartc34
import Derived.Test.YtceofkjefmilfaaGreatDoorPartc08
import Derived.Test.YtceofkjefmilfaaGreatDoorPartc30
import Derived.Test.YtceofkjefmilfaaGreatDoorPartc33
/- Package certify: Square, Residual, Orthogonal, Gradient of matrices of finite numbers. -/
namespace Go.Proofs.YtceofkjefmilfaaGreatDoor
open Go.RowKit

theorem fZ_lvl (b : Nat) (hf : fFin b = true) : Lvl (-1074) 2098 (fZ b) := ⟨fZ_lt b hf, by decide, by decide, by decide⟩
theorem up_lvl (b : Nat) (hf : fFin b = true) : Lvl (-2148) 4200 (fZ b * 2 ^ 1074) := ⟨up_ltV (j := 2098) (k := 1074) (V := 4200) (by decide) (fZ_lt b hf), by decide, by decide, by decide⟩
theorem dt_lvl (n : Nat) (hn : n ≤ 8) (x y : Nat → Nat) (hx : ∀ j, j < n → fFin (x j) = true) (hy : ∀ j, j < n → fFin (y j) = true) : Lvl (-2148) 4200 (smI (fun j => fZ (x j) * fZ (y j)) n) :=
  (dtZ_lvl n hn x y hx hy).more (by decide) (by decide) (by decide)
theorem pr_lvl (a b : Nat) (ha : fFin a = true) (hb : fFin b = true) : Lvl (-2148) 4200 (fZ a * fZ b) :=
  (show Lvl (-2148) 4196 (fZ a * fZ b) from ⟨mul_ltV (j := 2098) (k := 2098) (V := 4196) (by decide) (fZ_lt a ha) (fZ_lt b hb), by decide, by decide, by decide⟩).more (by decide) (by decide) (by decide)

end Go.Proofs.YtceofkjefmilfaaGreatDoor

/- The mathematics of a row times a power of two, and of a turned matrix (ahead of CertifyRanks, CertifyScales). -/
namespace Go.Proofs.YtceofkjefmilfaaGreatDoor
theorem p2_int (n : Nat) : p2 (n : Int) = ((2 ^ n : Int) : Rat) := by
  unfold p2
  rw [Rat.zpow_natCast]
  simp
end Go.Proofs.YtceofkjefmilfaaGreatDoor

/- The turn of two numbers in the document's order; what it leaves, in exact numbers. Ahead of stage 12 (GivensOne, GivensRight, GivensKeeps). -/
namespace Go.Proofs.YtceofkjefmilfaaGreatDoor

/-- The turn of f and g: c, s and r. -/
def gvC (f g : Nat) : Nat := if fK g = 0 then 4607182418800017408 else if fK f = 0 then 0 else dV (xV f (-gvK f g)) (gvN f g)
def gvS (f g : Nat) : Nat := if fK g = 0 then 0 else if fK f = 0 then 4607182418800017408 else dV (xV g (-gvK f g)) (gvN f g)
def gvR (f g : Nat) : Nat := if fK g = 0 then f else if fK f = 0 then g else xV (gvN f g) (gvK f g)

/-- Neither very great nor very small. -/
def TameO (x : Nat) : Prop := x < 18446744073709551616 ∧ fFin x = true ∧ (fK x = 0 ∨ (-400 ≤ eX x ∧ eX x < 400))
theorem TameO.of {x : Nat} (hx : x < 18446744073709551616) (h : tmB 400 x = true) : TameO x := by
  unfold tmB at h
  rw [Bool.and_eq_true, Bool.or_eq_true, decide_eq_true_eq, decide_eq_true_eq] at h
  exact ⟨hx, h.1, h.2⟩
theorem TameO.strict {x : Nat} (h : TameO x) (h0 : fK x ≠ 0) : TameN x := ⟨h.1, h.2.1, h0, (h.2.2.resolve_left h0).1, (h.2.2.resolve_left h0).2⟩

theorem fQ_one12 : fQ 4607182418800017408 = 1 := by
  unfold fQ
  rw [fZ_one11, show ((2 ^ 1074 : Int) : Rat) = p2 (1074 : Nat) from (p2_int 1074).symm, ← p2_add]
  exact p2_0
theorem fQ_zero12 : fQ 0 = 0 := by
  unfold fQ
  rw [fZ_zero11]
  exact Rat.zero_mul _
theorem fin_one12 : fFin 4607182418800017408 = true := by decide +kernel
theorem fin_zero12 : fFin 0 = true := by decide +kernel
theorem ab_zero12 : ab 0 = 0 := by unfold ab; grind

/-- What the turn leaves. -/
theorem gv_facts {f g : Nat} (hf : TameO f) (hg : TameO g) :
    fFin (gvC f g) = true ∧ fFin (gvS f g) = true ∧ fFin (gvR f g) = true ∧ gvC f g < 18446744073709551616 ∧ gvS f g < 18446744073709551616 ∧ gvR f g < 18446744073709551616 ∧
    281474976710656 * ab (fQ (gvC f g) * fQ (gvC f g) + fQ (gvS f g) * fQ (gvS f g) - 1) ≤ 1 ∧
    281474976710656 * ab (fQ (gvC f g) * fQ f + fQ (gvS f g) * fQ g - fQ (gvR f g)) ≤ ab (fQ (gvR f g)) ∧
    281474976710656 * ab (fQ (gvC f g) * fQ g - fQ (gvS f g) * fQ f) ≤ ab (fQ (gvR f g)) := by
  unfold gvC gvS gvR
  by_cases g0 : fK g = 0
  · rw [if_pos g0, if_pos g0, if_pos g0, fQ_one12, fQ_zero12, fQ_nought g g0]
    have := ab_0 (fQ f)
    refine ⟨fin_one12, fin_zero12, hf.2.1, by decide, by decide, hf.1, ?_, ?_, ?_⟩
    · rw [show (1 : Rat) * 1 + 0 * 0 - 1 = 0 by grind, ab_zero12, Rat.mul_zero]; decide
    · rw [show (1 : Rat) * fQ f + 0 * 0 - fQ f = 0 by grind, ab_zero12]; grind
    · rw [show (1 : Rat) * 0 - 0 * fQ f = 0 by grind, ab_zero12]; grind
  · rw [if_neg g0, if_neg g0, if_neg g0]
    by_cases f0 : fK f = 0
    · rw [if_pos f0, if_pos f0, if_pos f0, fQ_one12, fQ_zero12, fQ_nought f f0]
      have := ab_0 (fQ g)
      refine ⟨fin_zero12, fin_one12, hg.2.1, by decide, by decide, hg.1, ?_, ?_, ?_⟩
      · rw [show (0 : Rat) * 0 + 1 * 1 - 1 = 0 by grind, ab_zero12, Rat.mul_zero]; decide
      · rw [show (0 : Rat) * 0 + 1 * fQ g - fQ g = 0 by grind, ab_zero12]; grind
      · rw [show (0 : Rat) * fQ g - 1 * 0 = 0 by grind, ab_zero12]; grind
    · rw [if_neg f0, if_neg f0, if_neg f0]
      obtain ⟨k, hk⟩ : ∃ k, k = gvK f g := ⟨_, rfl⟩
      obtain ⟨n, hn⟩ : ∃ n, n = gvN f g := ⟨_, rfl⟩
      rw [← hk, ← hn]
      obtain ⟨q1, q2, q3, q4, q5, q6, q7, q8, q9, q10, q11, q12⟩ := gv_core f g n _ _ k (fQ f * p2 (-k)) (fQ g * p2 (-k)) (hf.strict f0) (hg.strict g0) hk hn rfl rfl rfl rfl
      obtain ⟨r1, r2, r3⟩ := gv_right (fQ n) _ _ _ _ q5 q7 q8 q11 q12
      have pk := p2_pos k
      have n0 : 0 ≤ fQ n := by grind
      have an : ab (fQ n) = fQ n := ab_pos n0
      have e1 := p2_mono (show -400 ≤ k by omega)
      have e2 := p2_mono (show k + 2 ≤ 402 by omega)
      have e3 := p2_mono (show (-1022 : Int) ≤ -401 by omega)
      have e4 : p2 402 < p2 1023 := p2_lt (by omega)
      have e5 : p2 (k + 2) = p2 k * 4 := by rw [p2_add, show p2 2 = 4 from rfl]
      have e6 : p2 (-400) = p2 (-401) * 2 := by rw [show (-400 : Int) = -401 + 1 by omega, p2_add, show p2 1 = 2 from rfl]
      have m1 := Rat.mul_le_mul_of_nonneg_left q6 (Rat.le_of_lt pk)
      have m2 := Rat.mul_le_mul_of_nonneg_left q5 (Rat.le_of_lt pk)
      obtain ⟨s1, s2⟩ := scale_exact n k q2 q3 (by rw [an]; grind) (by rw [an]; grind)
      have p1 : p2 (-k) * p2 k = 1 := by rw [← p2_add, show -k + k = 0 by omega]; exact p2_0
      obtain ⟨c, hc⟩ : ∃ c, c = fQ (dV (xV f (-k)) n) := ⟨_, rfl⟩
      obtain ⟨s, hs⟩ : ∃ s, s = fQ (dV (xV g (-k)) n) := ⟨_, rfl⟩
      rw [← hc, ← hs] at r1 r2 r3 ⊢
      rw [s2]
      have ar : ab (fQ n * p2 k) = fQ n * p2 k := ab_pos (Rat.mul_nonneg n0 (Rat.le_of_lt pk))
      rw [ar]
      have ef : fQ f = fQ f * p2 (-k) * p2 k := by rw [Rat.mul_assoc, p1, Rat.mul_one]
      have eg : fQ g = fQ g * p2 (-k) * p2 k := by rw [Rat.mul_assoc, p1, Rat.mul_one]
      generalize fQ f * p2 (-k) = A at *
      generalize fQ g * p2 (-k) = B at *
      rw [ef, eg]
      have a1 : ab (c * (A * p2 k) + s * (B * p2 k) - fQ n * p2 k) = ab (c * A + s * B - fQ n) * p2 k := by
        rw [show c * (A * p2 k) + s * (B * p2 k) - fQ n * p2 k = (c * A + s * B - fQ n) * p2 k by grind, ab_mul, ab_pos (Rat.le_of_lt pk)]
      have a2 : ab (c * (B * p2 k) - s * (A * p2 k)) = ab (c * B - s * A) * p2 k := by
        rw [show c * (B * p2 k) - s * (A * p2 k) = (c * B - s * A) * p2 k by grind, ab_mul, ab_pos (Rat.le_of_lt pk)]
      refine ⟨q9, q10, s1, dV_lt _ _, dV_lt _ _, xV_lt _ _ q2, r1, ?_, ?_⟩
      · rw [a1, ← Rat.mul_assoc]
        exact Rat.mul_le_mul_of_nonneg_right r2 (Rat.le_of_lt pk)
      · rw [a2, ← Rat.mul_assoc]
        exact Rat.mul_le_mul_of_nonneg_right r3 (Rat.le_of_lt pk)

end Go.Proofs.YtceofkjefmilfaaGreatDoor

/- What the turn of two numbers leaves, in whole numbers (GivensOne, GivensRight); rows turned keep the square (GivensKeeps). Ahead of stage 12. -/
namespace Go.Proofs.YtceofkjefmilfaaGreatDoor

theorem ab_int (d : Int) : ab (d : Rat) = ((d.natAbs : Int) : Rat) := by
  unfold ab
  rcases Int.le_total 0 d with g | g
  · have : (0 : Rat) ≤ (d : Rat) := Rat.intCast_nonneg.2 g
    rw [show ((d.natAbs : Nat) : Int) = d by omega]
    grind
  · have : (d : Rat) ≤ 0 := by
      have := Rat.intCast_le_intCast.2 g
      grind
    rw [show ((d.natAbs : Nat) : Int) = -d by omega, Rat.intCast_neg]
    grind
/-- A bound in rational numbers, said in whole ones. -/
theorem int_form {N Z W : Int} {p : Rat} (hp : 0 < p) (h : (N : Rat) * ab ((Z : Rat) * p) ≤ (W : Rat) * p) : (Z.natAbs : Int) * N ≤ W := by
  rw [ab_mul, ab_pos (Rat.le_of_lt hp), ← Rat.mul_assoc] at h
  have h4 := Rat.le_of_mul_le_mul_right h hp
  rw [ab_int, ← Rat.intCast_mul, Rat.intCast_le_intCast] at h4
  rw [Int.mul_comm]
  exact h4
theorem p2_split : p2 (-2148) = p2 (-1074) * p2 (-1074) := by rw [← p2_add]; rfl
theorem p2_one (n : Nat) : ((2 ^ n : Int) : Rat) * p2 (-(n : Int)) = 1 := by
  rw [← p2_int, ← p2_add, show (n : Int) + -(n : Int) = 0 by omega]
  exact p2_0
theorem n48 : ((2 ^ 48 : Int) : Rat) = 281474976710656 := by
  rw [show (2 ^ 48 : Int) = 281474976710656 by decide]
  rfl

/-- A sum of two products less a third number, in whole numbers. -/
theorem less_int {z u r : Int} {x y : Rat} (h : 281474976710656 * ab x ≤ ab y) (hx : x = (z : Rat) * p2 (-2148)) (hy : y = (r : Rat) * p2 (-1074)) (hu : u = 2 ^ 1074) : (z.natAbs : Int) * 2 ^ 48 ≤ (r.natAbs : Int) * u := by
  refine int_form (p2_pos (-2148)) ?_
  rw [n48, ← hx]
  have e1 : ((2 ^ 1074 : Int) : Rat) * p2 (-1074) = 1 := p2_one 1074
  have e2 : (((r.natAbs : Int) * u : Int) : Rat) * p2 (-2148) = ab y := by
    rw [hy, ab_mul, ab_pos (Rat.le_of_lt (p2_pos _)), ab_int, Rat.intCast_mul, hu, p2_split]
    generalize ((2 ^ 1074 : Int) : Rat) = T at *
    generalize p2 (-1074) = P at *
    generalize (((r.natAbs : Nat) : Int) : Rat) = R at *
    rw [Rat.mul_assoc, ← Rat.mul_assoc T, e1, Rat.one_mul]
  rw [e2]
  exact h
/-- GivensRight in whole numbers. -/
theorem right_int {f g c s r : Nat} (h1 : 281474976710656 * ab (fQ c * fQ f + fQ s * fQ g - fQ r) ≤ ab (fQ r)) (h2 : 281474976710656 * ab (fQ c * fQ g - fQ s * fQ f) ≤ ab (fQ r)) :
    ((fZ c * fZ f + fZ s * fZ g - fZ r * 2 ^ 1074).natAbs : Int) * 2 ^ 48 ≤ ((fZ r).natAbs : Int) * 2 ^ 1074 ∧ ((fZ c * fZ g - fZ s * fZ f).natAbs : Int) * 2 ^ 48 ≤ ((fZ r).natAbs : Int) * 2 ^ 1074 := by
  have e1 : ((2 ^ 1074 : Int) : Rat) * p2 (-1074) = 1 := p2_one 1074
  refine ⟨less_int h1 ?_ rfl rfl, less_int h2 ?_ rfl rfl⟩
  · rw [Rat.intCast_sub, Rat.intCast_add, Rat.intCast_mul, Rat.intCast_mul, Rat.intCast_mul, p2_split]
    unfold fQ
    generalize ((2 ^ 1074 : Int) : Rat) = T at *
    generalize p2 (-1074) = P at *
    have : (fZ r : Rat) * P = (fZ r : Rat) * T * (P * P) := by rw [Rat.mul_assoc, ← Rat.mul_assoc T, e1, Rat.one_mul]
    grind
  · rw [Rat.intCast_sub, Rat.intCast_mul, Rat.intCast_mul, p2_split]
    unfold fQ
    grind

/-- A tame number is no greater than 2^400; if it is not 0, no less than 2^-400. -/
theorem TameO.size {x : Nat} (h : TameO x) : ab (fQ x) ≤ p2 400 ∧ (fQ x = 0 ∨ p2 (-400) ≤ ab (fQ x)) := by
  by_cases h0 : fK x = 0
  · rw [fQ_nought x h0, ab_zero12]
    exact ⟨Rat.le_of_lt (p2_pos _), .inl rfl⟩
  · obtain ⟨t1, t2⟩ := eX_top x h.1 h.2.1 h0
    have h2 := h.2.2.resolve_left h0
    have m1 := p2_mono (show -400 ≤ eX x by omega)
    have m2 := p2_mono (show eX x + 1 ≤ 400 by omega)
    exact ⟨by grind, .inr (by grind)⟩

end Go.Proofs.YtceofkjefmilfaaGreatDoor

/- The reference of layer 10: Eye, In. -/
namespace Go.Proofs.YtceofkjefmilfaaGreatDoor
open Go.RowKit
attribute [local go_sem ↓] Go.wp_at_zero Go.wp_at_succ

/-- A matrix in a variable's box at g, the result's box at gr. -/
structure LpSt (w wr : World) (g gr p q : Nat) (mo : Option Addr) (mc : Nat) (S : List Nat) : Prop where
  bel : Below w.heap.size w wr
  box : BoxM wr g (.int .i64 p) (.int .i64 q) (.slice mo S.length mc)
  res : BoxM wr gr (.int .i64 0) (.int .i64 0) (.slice none 0 0)
  bits : BitsAt wr mo mc (mxL S)
  ne : gr ≠ g
  lo : w.heap.size ≤ g
theorem LpSt.all {w wr w' : World} {g gr p q : Nat} {mo : Option Addr} {mc : Nat} {S : List Nat} (h : LpSt w wr g gr p q mo mc S) (hb : Below wr.heap.size wr w') : LpSt w w' g gr p q mo mc S :=
  ⟨h.bel.trans (hb.mono h.bel.size), h.box.all hb, h.res.all hb, h.bits.below hb, h.ne, h.lo⟩
theorem LpSt.put {w wr : World} {g gr p q : Nat} {mo : Option Addr} {mc : Nat} {S : List Nat} (h : LpSt w wr g gr p q mo mc S) {no : Option Addr} {nc : Nat} {T : List Nat} (hT : BitsAt wr no nc (mxL T)) :
    LpSt w (((wr.setCell ⟨g, 0, none⟩ (.int .i64 p)).setCell ⟨g, 1, none⟩ (.int .i64 q)).setCell ⟨g, 2, none⟩ (.slice no T.length nc)) g gr p q no nc T :=
  ⟨below_putM h.bel h.lo _ _ _, h.box.put _ _ _, ((h.res.other (p := ⟨g, 0, none⟩) h.ne _).other (p := ⟨g, 1, none⟩) h.ne _).other (p := ⟨g, 2, none⟩) h.ne _, hT.putM h.box _ _ _, h.ne, h.lo⟩

theorem NewM.any {w : World} {r c : Nat} {S : List Nat} {ao : Option Addr} {cap : Nat} (h : BitsAt w ao cap (mxL S)) : NewM 0 w r c S (.agg #[.int .i64 r, .int .i64 c, .slice ao S.length cap]) := by
  refine ⟨ao, cap, rfl, ?_, h⟩
  rcases h.2.2 with e | ⟨b, off, e1, _, _⟩
  · exact .inl e
  · exact .inr ⟨b, off, e1, Nat.zero_le _⟩

end Go.Proofs.YtceofkjefmilfaaGreatDoor

