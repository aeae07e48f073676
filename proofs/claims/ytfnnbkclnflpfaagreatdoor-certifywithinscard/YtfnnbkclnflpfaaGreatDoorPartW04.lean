/- Part 4 of the texts. -/
import Derived.Test.YtfnnbkclnflpfaaGreatDoorPartW02
import Derived.Test.YtfnnbkclnflpfaaGreatDoorPartW03
import Derived.Lib.TrailingZeros
import Ieee.Arith
import Derived.Test.YtfnnbkclnflpfaaGreatDoorPartW01
import Derived.Laws.Bits64b
import Derived.Laws.Bits64
import Derived.Laws.StructEq
/- What number a struct of a sign and limbs is. -/
namespace Go.Proofs.YtfnnbkclnflpfaaGreatDoor
open Go.RowKit

/-- The value of a sign and limbs. -/
def sval (neg : Bool) (L : List Nat) : Int := if neg then -(val L : Int) else (val L : Int)

/-- v is the number x in w: with no 0 on top, a sign only below 0; its limbs lie in blocks from B on. -/
def IsNum (B : Nat) (w : World) (v : Value) (x : Int) : Prop :=
  ∃ neg ao cap L, v = .agg #[.bool neg, .slice ao L.length cap] ∧ LimbsAt w ao cap L ∧ NewAt B ao L ∧ Canon L ∧ neg = decide (x < 0) ∧ val L = x.natAbs ∧ L.length ≤ 35184372088832

/-- 2^16384: as great as no number of 512 limbs is. -/
def TOPN : Nat := 512
def TOP : Nat := 4294967296 ^ TOPN
/-- What a number that is made answers: none, if it is too great. -/
def errOf (x : Int) : Int := if x.natAbs < TOP then 0 else 2
def numOf (x : Int) : Int := if x.natAbs < TOP then x else 0

theorem NewAt.nil (B : Nat) (ao : Option Addr) : NewAt B ao [] := .inl rfl
theorem NewAt.mono {B B' : Nat} {ao : Option Addr} {L : List Nat} (h : NewAt B ao L) (hb : B' ≤ B) : NewAt B' ao L := by
  rcases h with h | ⟨b, off, h1, h2⟩
  · exact .inl h
  · exact .inr ⟨b, off, h1, Nat.le_trans hb h2⟩
theorem NewAt.zero {w : World} {ao : Option Addr} {cap : Nat} {L : List Nat} (h : LimbsAt w ao cap L) : NewAt 0 ao L := by
  rcases h.2.2 with h | ⟨b, off, h1, _⟩
  · exact .inl h
  · exact .inr ⟨b, off, h1, Nat.zero_le _⟩

theorem IsNum.below {B : Nat} {w w' : World} {v : Value} {x : Int} (h : IsNum B w v x) (hb : Below w.heap.size w w') : IsNum B w' v x := by
  obtain ⟨neg, ao, cap, L, h1, h2, h3⟩ := h
  exact ⟨neg, ao, cap, L, h1, h2.below hb, h3⟩
theorem IsNum.mono {B B' : Nat} {w : World} {v : Value} {x : Int} (h : IsNum B w v x) (hb : B' ≤ B) : IsNum B' w v x := by
  obtain ⟨neg, ao, cap, L, h1, h2, h3, h4⟩ := h
  exact ⟨neg, ao, cap, L, h1, h2, h3.mono hb, h4⟩
theorem IsNum.zero (B : Nat) (w : World) (ao : Option Addr) (cap : Nat) : IsNum B w (.agg #[.bool false, .slice ao 0 cap]) 0 :=
  ⟨false, ao, cap, [], rfl, LimbsAt.nil _ _ _, .inl rfl, .inl rfl, rfl, rfl, by simp⟩

theorem natAbs_sval (neg : Bool) (L : List Nat) : (sval neg L).natAbs = val L := by
  unfold sval; cases neg <;> simp

/-- Limbs without a 0 on top, not none, with a sign. -/
theorem IsNum.mk {B : Nat} {w : World} {neg : Bool} {ao : Option Addr} {cap : Nat} {L : List Nat} (h : LimbsAt w ao cap L) (hn : NewAt B ao L) (c : Canon L) (h0 : L ≠ []) (hl : L.length ≤ 35184372088832) : IsNum B w (.agg #[.bool neg, .slice ao L.length cap]) (sval neg L) := by
  refine ⟨neg, ao, cap, L, rfl, h, hn, c, ?_, (natAbs_sval neg L).symm, hl⟩
  have hv : val L ≠ 0 := fun e => h0 ((val_zero_of_canon L c).1 e)
  unfold sval; cases neg <;> simp <;> omega

theorem sval_congr {neg : Bool} {L L' : List Nat} (h : val L = val L') : sval neg L = sval neg L' := by unfold sval; rw [h]
theorem sval_nil (neg : Bool) : sval neg [] = 0 := by unfold sval; cases neg <;> simp [val]

theorem val_lt_TOP (L : List Nat) (h : Fits L) (c : Canon L) : val L < TOP ↔ L.length ≤ 512 := (length_le_iff L h c TOPN).symm

end Go.Proofs.YtfnnbkclnflpfaaGreatDoor

/- How often 2 goes into a number; the odd part; numbers times powers of two. -/
namespace Go.Proofs.YtfnnbkclnflpfaaGreatDoor

/-- How often 2 goes into v. -/
def tz (v : Nat) : Nat := Lib.ctzFrom v v

theorem tz_spec (v : Nat) (h : 0 < v) : ∃ m, v = 2 ^ tz v * (2 * m + 1) := by
  obtain ⟨m, hm, _⟩ := Lib.ctzFrom_spec v v h Nat.lt_two_pow_self
  exact ⟨m, hm⟩

theorem two_part (k j m n : Nat) (h : 2 ^ k * (2 * m + 1) = 2 ^ j * (2 * n + 1)) : k = j ∧ m = n := by
  rcases Nat.lt_trichotomy k j with hlt | rfl | hlt
  · exfalso
    obtain ⟨d, rfl⟩ : ∃ d, j = k + (d + 1) := ⟨j - k - 1, by omega⟩
    rw [Nat.pow_add, Nat.mul_assoc] at h
    have := Nat.eq_of_mul_eq_mul_left (Nat.pow_pos (by decide)) h
    rw [Nat.pow_succ, Nat.mul_assoc, Nat.mul_left_comm] at this
    omega
  · have := Nat.eq_of_mul_eq_mul_left (Nat.pow_pos (by decide)) h
    exact ⟨rfl, by omega⟩
  · exfalso
    obtain ⟨d, rfl⟩ : ∃ d, k = j + (d + 1) := ⟨k - j - 1, by omega⟩
    rw [Nat.pow_add, Nat.mul_assoc] at h
    have := Nat.eq_of_mul_eq_mul_left (Nat.pow_pos (by decide)) h
    rw [Nat.pow_succ, Nat.mul_assoc, Nat.mul_left_comm] at this
    omega

theorem tz_of (v k m : Nat) (h : v = 2 ^ k * (2 * m + 1)) : tz v = k := by
  have hp : 0 < v := by rw [h]; exact Nat.mul_pos (Nat.pow_pos (by decide)) (by omega)
  obtain ⟨m', hm⟩ := tz_spec v hp
  exact (two_part _ _ m' m (by rw [← hm, ← h])).1

theorem tz_mul (v k : Nat) (h : 0 < v) : tz (2 ^ k * v) = k + tz v := by
  obtain ⟨m, hm⟩ := tz_spec v h
  exact tz_of _ _ m (by rw [Nat.pow_add, Nat.mul_assoc, ← hm])

/-- tz of 32 bits is ctz's. -/
theorem tz_ctz (x : Nat) (h0 : x ≠ 0) (h : x < 4294967296) : tz x = Lib.ctz 32 x := by
  obtain ⟨m, hm, _⟩ := Lib.ctzFrom_spec 32 x (by omega) (by omega)
  have e : Lib.ctz 32 x = Lib.ctzFrom 32 x := by simp [Lib.ctz, h0]
  rw [e]
  exact tz_of _ _ m hm

theorem tz_lt (v k : Nat) (h0 : 0 < v) (h : v < 2 ^ k) : tz v < k := by
  obtain ⟨m, hm⟩ := tz_spec v h0
  apply Nat.lt_of_not_le
  intro hle
  have h1 : 2 ^ k ≤ 2 ^ tz v := Nat.pow_le_pow_right (by decide) hle
  have h2 : 2 ^ tz v ≤ 2 ^ tz v * (2 * m + 1) := Nat.le_mul_of_pos_right _ (by omega)
  omega

/-- Low limbs of 0, then one that isn't. -/
theorem tz_limbs (L : List Nat) (k x : Nat) (hv : val (L.take k) = 0) (hx : L[k]?.getD 0 = x) (h0 : x ≠ 0) (hlt : x < 4294967296) : val L ≠ 0 ∧ tz (val L) = 32 * k + tz x := by
  obtain ⟨m, hm⟩ := tz_spec x (by omega)
  have e : val L = 4294967296 ^ k * (x + 4294967296 * val (L.drop (k + 1))) := by
    rw [val_split L (k + 1), val_take_succ, hv, hx, Nat.zero_add, Nat.pow_succ, Nat.mul_add, Nat.mul_assoc]
  have ht : tz x < 32 := tz_lt x 32 (by omega) (by omega)
  have e2 : x + 4294967296 * val (L.drop (k + 1)) = 2 ^ tz x * (2 * (m + 2 ^ (31 - tz x) * val (L.drop (k + 1))) + 1) := by
    have e3 : 4294967296 = 2 ^ tz x * (2 * 2 ^ (31 - tz x)) := by
      rw [← Nat.pow_succ', ← Nat.pow_add, show tz x + (31 - tz x).succ = 32 by omega]
    rw [Nat.mul_add 2, Nat.add_right_comm, Nat.mul_add (2 ^ tz x), ← hm, ← Nat.mul_assoc 2, ← Nat.mul_assoc, ← e3]
  have e4 : val L = 2 ^ (32 * k + tz x) * (2 * (m + 2 ^ (31 - tz x) * val (L.drop (k + 1))) + 1) := by
    rw [e, e2, ← Nat.mul_assoc, two_pow_32]
  refine ⟨?_, tz_of _ _ _ e4⟩
  have : 0 < val L := by rw [e4]; exact Nat.mul_pos (Nat.pow_pos (by decide)) (by omega)
  omega

/-- The odd part of a number, and its power. -/
def oM (z : Int) : Int := z / 2 ^ tz z.natAbs
def oE (z e : Int) : Int := if z = 0 then 0 else e + tz z.natAbs

/-- m is z without the 2s in it, k of them. -/
def OddOf (z m : Int) (k : Nat) : Prop := z = m * 2 ^ k ∧ m % 2 = 1

theorem OddOf.unique {z m m' : Int} {k k' : Nat} (h : OddOf z m k) (h' : OddOf z m' k') : m = m' ∧ k = k' := by
  obtain ⟨h1, h2⟩ := h
  obtain ⟨h3, h4⟩ := h'
  have a1 : z.natAbs = 2 ^ k * (2 * (m.natAbs / 2) + 1) := by
    rw [h1, Int.natAbs_mul, Int.natAbs_pow, Nat.mul_comm, show (2 : Int).natAbs = 2 from rfl, show 2 * (m.natAbs / 2) + 1 = m.natAbs by omega]
  have a2 : z.natAbs = 2 ^ k' * (2 * (m'.natAbs / 2) + 1) := by
    rw [h3, Int.natAbs_mul, Int.natAbs_pow, Nat.mul_comm, show (2 : Int).natAbs = 2 from rfl, show 2 * (m'.natAbs / 2) + 1 = m'.natAbs by omega]
  obtain ⟨rfl, _⟩ := two_part _ _ _ _ (a1.symm.trans a2)
  have hp : (2 : Int) ^ k ≠ 0 := Int.pow_ne_zero (by decide)
  exact ⟨Int.eq_of_mul_eq_mul_right hp (h1.symm.trans h3), rfl⟩

theorem oddOf (z : Int) (h : z ≠ 0) : OddOf z (oM z) (tz z.natAbs) := by
  obtain ⟨m, hm⟩ := tz_spec z.natAbs (by omega)
  unfold oM
  generalize tz z.natAbs = k at *
  have hp : (2 : Int) ^ k ≠ 0 := Int.pow_ne_zero (by decide)
  have hz : z = 2 ^ k * (2 * (m : Int) + 1) ∨ z = 2 ^ k * (2 * (-(m : Int) - 1) + 1) := by
    have e : (z.natAbs : Int) = 2 ^ k * (2 * (m : Int) + 1) := by rw [hm]; push_cast; rfl
    rcases Int.natAbs_eq z with h1 | h1
    · left; rw [h1, e]
    · right; rw [h1, e, ← Int.mul_neg]; congr 1; omega
  rcases hz with hz | hz
  · have hd : z / 2 ^ k = 2 * (m : Int) + 1 := by rw [hz]; exact Int.mul_ediv_cancel_left _ hp
    rw [hd]
    exact ⟨by rw [Int.mul_comm]; exact hz, by omega⟩
  · have hd : z / 2 ^ k = 2 * (-(m : Int) - 1) + 1 := by rw [hz]; exact Int.mul_ediv_cancel_left _ hp
    rw [hd]
    exact ⟨by rw [Int.mul_comm]; exact hz, by omega⟩

theorem OddOf.eq {z m : Int} {k : Nat} (h : OddOf z m k) : z ≠ 0 ∧ m = oM z ∧ k = tz z.natAbs := by
  have hz : z ≠ 0 := by
    rw [h.1]
    intro e
    rcases Int.mul_eq_zero.1 e with e | e
    · have := h.2; rw [e] at this; simp at this
    · exact Int.pow_ne_zero (by decide) e
  obtain ⟨a, b⟩ := h.unique (oddOf z hz)
  exact ⟨hz, a, b⟩

end Go.Proofs.YtfnnbkclnflpfaaGreatDoor

/- Numbers of binary64: rounding, plain mathematics. -/
namespace Go.Proofs.YtfnnbkclnflpfaaGreatDoor

/-- How many digits a number has. -/
def bl (v : Nat) : Nat := if v = 0 then 0 else Nat.log2 v + 1

end Go.Proofs.YtfnnbkclnflpfaaGreatDoor

/- The rung of a number v times 2 to the E, rounded to binary64; its flags; what a rung is worth. -/
namespace Go.Proofs.YtfnnbkclnflpfaaGreatDoor
theorem p53 : (2 : Nat) ^ 53 = 9007199254740992 := by decide
/-- What a rung is worth, in units of the least number. -/
def rv (r : Nat) : Nat := if r < 4503599627370496 then r else (4503599627370496 + r % 4503599627370496) * 2 ^ (r / 4503599627370496 - 1)

theorem rv_of (m k : Nat) (h1 : m ≤ 9007199254740992) (h2 : k ≠ 0 → 4503599627370496 ≤ m) : rv (m + k * 4503599627370496) = m * 2 ^ k := by
  unfold rv
  by_cases h : m + k * 4503599627370496 < 4503599627370496
  · rw [if_pos h]
    obtain rfl : k = 0 := by omega
    simp
  · rw [if_neg h]
    by_cases h3 : m < 9007199254740992
    · have hm : 4503599627370496 ≤ m := by
        by_cases hk : k = 0
        · omega
        · exact h2 hk
      rw [show (m + k * 4503599627370496) / 4503599627370496 = k + 1 by omega, show (m + k * 4503599627370496) % 4503599627370496 = m - 4503599627370496 by omega, show 4503599627370496 + (m - 4503599627370496) = m by omega]
      rfl
    · obtain rfl : m = 9007199254740992 := by omega
      rw [show (9007199254740992 + k * 4503599627370496) / 4503599627370496 = k + 2 by omega, show (9007199254740992 + k * 4503599627370496) % 4503599627370496 = 0 by omega, show k + 2 - 1 = k + 1 by omega, Nat.pow_succ]
      omega

theorem rv_succ (r : Nat) : rv r < rv (r + 1) := by
  by_cases h : r < 4503599627370496
  · have e1 := rv_of r 0 (by omega) (by simp)
    have e2 := rv_of (r + 1) 0 (by omega) (by simp)
    simp at e1 e2
    rw [e1, e2]; omega
  · obtain ⟨k, hk⟩ : ∃ k, r / 4503599627370496 = k + 1 := ⟨r / 4503599627370496 - 1, by omega⟩
    have hr : r = (4503599627370496 + r % 4503599627370496) + k * 4503599627370496 := by omega
    generalize hm : 4503599627370496 + r % 4503599627370496 = m at *
    have hm1 : m < 9007199254740992 := by omega
    have e1 := rv_of m k (by omega) (fun _ => by omega)
    have e2 := rv_of (m + 1) k (by omega) (fun _ => by omega)
    rw [← hr] at e1
    rw [show m + 1 + k * 4503599627370496 = r + 1 by omega] at e2
    rw [e1, e2]
    exact Nat.mul_lt_mul_of_pos_right (by omega) (Nat.two_pow_pos _)

theorem rv_mono {r s : Nat} (h : r ≤ s) : rv r ≤ rv s := by
  obtain ⟨d, rfl⟩ := Nat.exists_eq_add_of_le h
  induction d with
  | zero => exact Nat.le_refl _
  | succ d ih => exact Nat.le_trans (ih (by omega)) (Nat.le_of_lt (rv_succ (r + d)))

end Go.Proofs.YtfnnbkclnflpfaaGreatDoor

/- The fields of bits; contracts of soft's split, Sign, Minus; of the reference's Neg, Power, Frac, Minus. -/
namespace Go.Proofs.YtfnnbkclnflpfaaGreatDoor
open Go.RowKit

def fS (b : Nat) : Bool := decide (9223372036854775808 ≤ b)
def fP (b : Nat) : Nat := b % 9223372036854775808 / 4503599627370496
def fF (b : Nat) : Nat := b % 4503599627370496
def fK (b : Nat) : Int := if fP b = 2047 then (if fF b = 0 then 3 else 4) else if fP b = 0 then (if fF b = 0 then 0 else 1) else 2

theorem and_top (b : Nat) (h : b < 18446744073709551616) : bits .and .u64 (b : Int) 9223372036854775808 = if fS b then 9223372036854775808 else 0 := by
  have h1 := bits_and_u64_nat b 9223372036854775808 h (by decide)
  refine h1.trans ?_
  have h2 : (b &&& 2 ^ 63) % 2 ^ 63 = 0 := by rw [Nat.and_mod_two_pow]; simp
  have h3 : (b &&& 2 ^ 63) / 2 ^ 63 = (b / 2 ^ 63) &&& 1 := by rw [Nat.and_div_two_pow]
  rw [show (9223372036854775808 : Nat) = 2 ^ 63 by decide]
  have h4 := Nat.div_add_mod (b &&& 2 ^ 63) (2 ^ 63)
  rw [h2, h3] at h4
  unfold fS
  by_cases hb : 9223372036854775808 ≤ b
  · rw [decide_eq_true hb, if_pos rfl]
    rw [show b / 2 ^ 63 = 1 by omega] at h4
    simp only [Nat.and_self] at h4
    omega
  · rw [decide_eq_false hb, if_neg (by simp)]
    rw [show b / 2 ^ 63 = 0 by omega] at h4
    simp only [Nat.zero_and] at h4
    omega

theorem and_low (b : Nat) (h : b < 18446744073709551616) : bits .and .u64 (b : Int) 4503599627370495 = (fF b : Int) := by
  have h1 := bits_and_u64_nat b 4503599627370495 h (by decide)
  refine h1.trans ?_
  have h2 : b &&& 2 ^ 52 - 1 = b % 2 ^ 52 := Nat.and_two_pow_sub_one_eq_mod b 52
  rw [show (4503599627370495 : Nat) = 2 ^ 52 - 1 by decide, h2]
  rfl

theorem and_mid (b : Nat) (h : b < 18446744073709551616) : bits .and .u64 ((b : Int) / 4503599627370496) 2047 = (fP b : Int) := by
  have h1 := bits_and_u64_nat (b / 4503599627370496) 2047 (by omega) (by decide)
  refine h1.trans ?_
  have h2 : (b / 4503599627370496) &&& 2 ^ 11 - 1 = (b / 4503599627370496) % 2 ^ 11 := Nat.and_two_pow_sub_one_eq_mod _ 11
  rw [show (2047 : Nat) = 2 ^ 11 - 1 by decide, h2]
  unfold fP
  omega

theorem fP_lt (b : Nat) : fP b < 2048 := by unfold fP; omega
theorem fF_lt (b : Nat) : fF b < 4503599627370496 := by unfold fF; omega
/-- Block b is a box of three cells, of fields. -/
def BoxF (w : World) (b : Nat) (x y z : Value) : Prop := w.heap[b]? = some (.cells #[x, y, z] 144 (0, 0))
theorem BoxF.c0 {w : World} {b : Nat} {x y z : Value} (h : BoxF w b x y z) : w.cell? ⟨b, 0, none⟩ = some x := by rw [cell_of_row w b 0 _ _ _ h]; rfl
theorem BoxF.c1 {w : World} {b : Nat} {x y z : Value} (h : BoxF w b x y z) : w.cell? ⟨b, 1, none⟩ = some y := by rw [cell_of_row w b 1 _ _ _ h]; rfl
theorem BoxF.c2 {w : World} {b : Nat} {x y z : Value} (h : BoxF w b x y z) : w.cell? ⟨b, 2, none⟩ = some z := by rw [cell_of_row w b 2 _ _ _ h]; rfl
theorem BoxF.free {w : World} {b : Nat} {x y z : Value} (h : BoxF w b x y z) (j : Nat) : w.frozen? ⟨b, j, none⟩ = false := frozen_of_row w b j _ _ h
theorem BoxF.lt {w : World} {b : Nat} {x y z : Value} (h : BoxF w b x y z) : b < w.heap.size := (Array.getElem?_eq_some_iff.1 h).1
theorem BoxF.below {w w' : World} {b : Nat} {x y z : Value} (h : BoxF w b x y z) {B : Nat} (hb : Below B w w') (hlt : b < B) : BoxF w' b x y z := (hb.block b hlt).trans h
theorem BoxF.new (w : World) (x y z : Value) : BoxF (w.alloc (.cells #[x, y, z] 144)) w.heap.size x y z := heap_alloc_new w _
theorem BoxF.all {w w' : World} {b : Nat} {x y z : Value} (h : BoxF w b x y z) (hb : Below w.heap.size w w') : BoxF w' b x y z := h.below hb h.lt

/-- What split tells. -/
def fV (b : Nat) : Value := .agg #[.bool (fS b), .int .u64 (fP b), .int .u64 (fF b)]

set_option maxHeartbeats 1000000 in
theorem split_any (b : Nat) (w : World) (h : b < 18446744073709551616) :
    Calls Tryz.prog 127 #[.int .u64 b] w fun e w' => e = .returned (fV b) ∧ Below w.heap.size w w' := by
  have k1 := and_top b h
  have k2 := and_low b h
  have k3 := and_mid b h
  unfold fV
  generalize fF b = f at *
  generalize fP b = p at *
  generalize fS b = s at *
  have hb : (0 : Int) ≤ b := by omega
  have hb2 : (b : Int) < 18446744073709551616 := by omega
  clear h
  cases s
  · simp only [Bool.false_eq_true, if_false] at k1
    go_enter Tryz.func127, Tryz.ntmps127
    go_wp2_with (simp only [k1, k2, k3])
    refine bodyPost_ret (v := .agg #[.bool false, .int .u64 p, .int .u64 f]) (by simp [results, Tryz.results127, go_sem]) rfl ⟨rfl, (Below.refl _ _).alloc (Nat.le_refl _) _⟩
  · simp only [if_true] at k1
    go_enter Tryz.func127, Tryz.ntmps127
    go_wp2_with (simp only [k1, k2, k3])
    refine bodyPost_ret (v := .agg #[.bool true, .int .u64 p, .int .u64 f]) (by simp [results, Tryz.results127, go_sem]) rfl ⟨rfl, (Below.refl _ _).alloc (Nat.le_refl _) _⟩

end Go.Proofs.YtfnnbkclnflpfaaGreatDoor

