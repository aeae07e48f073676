/- Part 26 of the texts. -/
import Derived.Test.YtceofkjefmilfaaGreatDoorParta20
import Derived.Test.YtceofkjefmilfaaGreatDoorParta17
import Derived.Test.YtceofkjefmilfaaGreatDoorParta18
import Derived.Deep.Cut
import Derived.BigQuiet
import Derived.Test.YtceofkjefmilfaaGreatDoorParta16
import Derived.Test.YtceofkjefmilfaaGreatDoorParta19
import Derived.Test.YtceofkjefmilfaaGreatDoorParta24
/- A list of bits; the sum of all: contracts of sum's All and the reference's. -/
namespace Go.Proofs.YtceofkjefmilfaaGreatDoor
open Go.RowKit

/-- The bits I lie at ao. -/
def BitsAt (w : World) (ao : Option Addr) (cap : Nat) (I : List Int) : Prop :=
  I.length ≤ cap ∧ (∀ x ∈ I, 0 ≤ x ∧ x ≤ 18446744073709551615) ∧ (I = [] ∨ ∃ b off, ao = some ⟨b, off, none⟩ ∧ b < w.heap.size ∧ ∀ i, i < I.length → w.cell? ⟨b, off + i, none⟩ = some (.int .u64 (I[i]?.getD 0)))

theorem BitsAt.below {w w' : World} {ao : Option Addr} {cap : Nat} {I : List Int} (h : BitsAt w ao cap I) (hb : Below w.heap.size w w') : BitsAt w' ao cap I := by
  refine ⟨h.1, h.2.1, ?_⟩
  rcases h.2.2 with h | ⟨b, off, h1, h2, h3⟩
  · exact .inl h
  · refine .inr ⟨b, off, h1, Nat.lt_of_lt_of_le h2 hb.size, fun i hi => ?_⟩
    rw [hb.cell (p := ⟨b, off + i, none⟩) h2]
    exact h3 i hi
def atB (I : List Int) (j : Nat) : Nat := (I[j]?.getD 0).toNat
theorem BitsAt.wf {w : World} {ao : Option Addr} {cap : Nat} {I : List Int} (h : BitsAt w ao cap I) (j : Nat) : I[j]?.getD 0 = (atB I j : Int) ∧ atB I j < 18446744073709551616 := by
  unfold atB
  by_cases hi : j < I.length
  · have := h.2.1 _ (List.getElem_mem hi)
    rw [List.getElem?_eq_getElem hi]
    simp only [Option.getD_some]
    omega
  · rw [List.getElem?_eq_none (by omega)]; simp
theorem BitsAt.ne {w : World} {ao : Option Addr} {cap : Nat} {I : List Int} (h : BitsAt w ao cap I) (h0 : 0 < I.length) : ∃ b off, ao = some ⟨b, off, none⟩ ∧ b < w.heap.size ∧ ∀ i, i < I.length → w.cell? ⟨b, off + i, none⟩ = some (.int .u64 (atB I i : Int)) := by
  rcases h.2.2 with e | ⟨b, off, e1, e2, e3⟩
  · rw [e] at h0; simp at h0
  · exact ⟨b, off, e1, e2, fun i hi => by rw [e3 i hi, (h.wf i).1]⟩

end Go.Proofs.YtceofkjefmilfaaGreatDoor

/- Rounding errs by a part in 2^53: numbers as rational ones. Ahead of stage 9. -/
namespace Go.Proofs.YtceofkjefmilfaaGreatDoor
open Go.RowKit

/-- A power of two. -/
def p2 (e : Int) : Rat := (2 : Rat) ^ e
theorem two_ne : (2 : Rat) ≠ 0 := by decide
theorem p2_pos (e : Int) : 0 < p2 e := Rat.zpow_pos (by decide)
theorem p2_add (a b : Int) : p2 (a + b) = p2 a * p2 b := Rat.zpow_add two_ne a b
theorem p2_0 : p2 0 = 1 := Rat.zpow_zero 2
theorem p2_nat (k : Nat) : p2 (k : Int) = ((2 ^ k : Nat) : Rat) := by
  unfold p2
  rw [Rat.zpow_natCast, Rat.natCast_pow]
  rfl
theorem p2_mono {a b : Int} (h : a ≤ b) : p2 a ≤ p2 b := by
  obtain ⟨k, hk⟩ : ∃ k : Nat, b = a + (k : Int) := ⟨(b - a).toNat, by omega⟩
  rw [hk, p2_add, p2_nat]
  have h1 : ((1 : Nat) : Rat) ≤ ((2 ^ k : Nat) : Rat) := Rat.natCast_le_natCast.2 Nat.one_le_two_pow
  have h2 := Rat.mul_le_mul_of_nonneg_left h1 (Rat.le_of_lt (p2_pos a))
  have h3 : ((1 : Nat) : Rat) = 1 := rfl
  rw [h3, Rat.mul_one] at h2
  exact h2

/-- What is rounded, and to what. -/
def xE (v : Nat) (E : Int) : Rat := (v : Rat) * p2 E
end Go.Proofs.YtceofkjefmilfaaGreatDoor

/- Sums, products, powers of two, roots of numbers, as rational ones: how far they err. Ahead of stage 9. -/
namespace Go.Proofs.YtceofkjefmilfaaGreatDoor
open Go.RowKit

/-- Without its sign. -/
def ab (x : Rat) : Rat := if x < 0 then -x else x
theorem ab_pos {x : Rat} (h : 0 ≤ x) : ab x = x := by unfold ab; grind
theorem ab_neg (x : Rat) : ab (-x) = ab x := by unfold ab; grind
/-- A finite number's value. -/
def fQ (a : Nat) : Rat := (fZ a : Rat) * p2 (-1074)
theorem fQ_pv (n : Bool) (r : Nat) : (pv n r : Rat) * p2 (-1074) = if n = true then -((rv r : Rat) * p2 (-1074)) else (rv r : Rat) * p2 (-1074) := by
  unfold pv
  cases n
  · simp only [Bool.false_eq_true, if_false]; rfl
  · simp only [if_true]
    rw [Rat.intCast_neg, Rat.neg_mul]
    rfl
theorem fQ_sign (a : Nat) : fQ a = if fS a = true then -((rv (fR a) : Rat) * p2 (-1074)) else (rv (fR a) : Rat) * p2 (-1074) := fQ_pv _ _
theorem mag_0 (r : Nat) : 0 ≤ (rv r : Rat) * p2 (-1074) := Rat.mul_nonneg Rat.natCast_nonneg (Rat.le_of_lt (p2_pos _))
theorem fQ_ab (a : Nat) : ab (fQ a) = (rv (fR a) : Rat) * p2 (-1074) := by
  have := mag_0 (fR a)
  rw [fQ_sign]
  cases fS a
  · simp only [Bool.false_eq_true, if_false]; exact ab_pos this
  · simp only [if_true]; rw [ab_neg]; exact ab_pos this

end Go.Proofs.YtceofkjefmilfaaGreatDoor

/- Powers of two and roots of numbers, as rational ones: how far they err; when what is rounded is finite. Ahead of stage 9. -/
namespace Go.Proofs.YtceofkjefmilfaaGreatDoor
open Go.RowKit
/-- A number lies from its highest digit on, below twice that. -/
theorem xE_top (v : Nat) (E : Int) (h : v ≠ 0) : p2 ((bl v : Int) + E - 1) ≤ xE v E ∧ xE v E < p2 ((bl v : Int) + E) := by
  obtain ⟨b1, b2, b3⟩ := bl_spec v h
  have hp := p2_pos E
  constructor
  · rw [show (bl v : Int) + E - 1 = ((bl v - 1 : Nat) : Int) + E by omega, p2_add, p2_nat]
    unfold xE
    have := Rat.mul_le_mul_of_nonneg_left (Rat.natCast_le_natCast.2 b2) (Rat.le_of_lt hp)
    grind
  · rw [p2_add, p2_nat]
    unfold xE
    have := Rat.mul_lt_mul_of_pos_left (Rat.natCast_lt_natCast.2 b3) hp
    grind
theorem fD_mag (a : Nat) (ha : a < 18446744073709551616) (fa : fFin a = true) (a0 : fK a ≠ 0) (n : Int) : xE (fD a).natAbs (fX a + n) = (rv (fR a) : Rat) * p2 (-1074) * p2 n := by
  obtain ⟨β, x1, x2, x3, x4⟩ := odd_mag a ha fa a0
  unfold xE
  rw [x2, Rat.natCast_mul, ← p2_nat, show fX a + n = (β : Int) + -1074 + n by omega, p2_add, p2_add]
  grind
theorem fQ_nought (a : Nat) (a0 : fK a = 0) : fQ a = 0 := by
  have h := fQ_ab a
  rw [(fK_zero a).1 a0, rv_zero] at h
  have h2 : ab (fQ a) = 0 := by rw [h]; exact Rat.zero_mul _
  unfold ab at h2
  grind

end Go.Proofs.YtceofkjefmilfaaGreatDoor

/- The greatest number; the norm: right but for a part in 2^44; at least the greatest one but for a part in 2^50. Ahead of stage 9. -/
namespace Go.Proofs.YtceofkjefmilfaaGreatDoor
open Go.RowKit
/-- The greater one of two; the greatest one without signs. -/
def mx (a b : Nat) : Nat := if fK a = 4 ∨ fK b = 4 then 9221120237041090560 else if fZ a < fZ b then b else a
theorem mag_fZ (r : Nat) (h : r < 9223372036854775808) : fZ r = (rv r : Int) ∧ fR r = r ∧ fS r = false := by
  have h1 : fR r = r := by unfold fR; omega
  have h2 : fS r = false := decide_eq_false (by omega)
  refine ⟨?_, h1, h2⟩
  unfold fZ pv
  rw [h1, h2]
  rfl
theorem mx_mag (m r : Nat) (hm : m < 9218868437227405312) (hr : r < 9218868437227405312) : mx m r = max m r := by
  obtain ⟨a1, a2, a3⟩ := mag_fZ m (by omega)
  obtain ⟨b1, b2, b3⟩ := mag_fZ r (by omega)
  have k1 := (fin_kind ((fK_rungs m).2.2.2 (by rw [a2]; exact hm))).2
  have k2 := (fin_kind ((fK_rungs r).2.2.2 (by rw [b2]; exact hr))).2
  unfold mx
  rw [if_neg (by omega), a1, b1]
  rcases Nat.lt_or_ge m r with h | h
  · have := rv8_lt h
    rw [if_pos (by omega)]
    omega
  · have := rv_mono h
    rw [if_neg (by omega)]
    omega
/-- A number lies from 2^Exp on, below twice that. -/
theorem eX_top (a : Nat) (ha : a < 18446744073709551616) (fa : fFin a = true) (a0 : fK a ≠ 0) : p2 (eX a) ≤ ab (fQ a) ∧ ab (fQ a) < p2 (eX a + 1) := by
  obtain ⟨a3, a4⟩ := fin_kind fa
  obtain ⟨z1, z2, z3, z4, z5, z6, z7, z8, z9⟩ := sc_facts a ha fa a0
  have h := xE_top (fD a).natAbs (fX a) z3
  have e := fD_mag a ha fa a0 0
  rw [Int.add_zero, p2_0, Rat.mul_one, ← fQ_ab] at e
  rw [e] at h
  unfold eX
  rw [if_neg (by omega), show (bl (fD a).natAbs : Int) + fX a - 1 + 1 = (bl (fD a).natAbs : Int) + fX a by omega]
  exact h

end Go.Proofs.YtceofkjefmilfaaGreatDoor

