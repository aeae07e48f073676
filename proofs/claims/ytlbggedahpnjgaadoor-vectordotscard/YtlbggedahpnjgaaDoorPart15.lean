/- Part 15 of the texts. -/
import Derived.Test.YtlbggedahpnjgaaDoorPart14
import Derived.Test.YtlbggedahpnjgaaDoorPart04
import Derived.Test.YtlbggedahpnjgaaDoorPart13
/- Contracts of the reference's Mul, Scale. -/
namespace Go.Proofs.YtlbggedahpnjgaaDoor
open Go.RowKit
attribute [local go_sem ↓] Go.wp_at_zero Go.wp_at_succ

theorem IsNum.toM {B : Nat} {w : World} {v : Value} {z : Int} (h : IsNum B w v z) (hz : z.natAbs < TOP) : IsNumM 512 B w v z := by
  obtain ⟨n, a, c, L, rfl, h1, h2, h3, h4, h5, h6⟩ := h
  exact ⟨n, a, c, L, rfl, h1, h2, h3, h4, h5, (val_lt_TOP L h1.2.1 h3).1 (by omega)⟩

theorem wrap_range (x : Int) : -9223372036854775808 ≤ IntKind.i64.wrap x ∧ IntKind.i64.wrap x ≤ 9223372036854775807 := by
  simp only [IntKind.wrap, IntKind.signed, IntKind.bits]
  simp
  split <;> omega

theorem val_lt_pow (L : List Nat) (hf : Fits L) (k : Nat) (h : L.length ≤ k) : val L < 2 ^ (32 * k) := by
  have h1 := val_lt L hf
  rw [show (4294967296 : Nat) = 2 ^ 32 by decide, ← Nat.pow_mul] at h1
  exact Nat.lt_of_lt_of_le h1 (Nat.pow_le_pow_right (by decide) (by omega))

theorem TOP_eq : TOP = 2 ^ (32 * TOPN) := by
  unfold TOP
  rw [show (4294967296 : Nat) = 2 ^ 32 by decide, ← Nat.pow_mul]

theorem lt_TOP {v k : Nat} (h : v < 2 ^ k) (hk : k ≤ 16384) : v < TOP := by
  rw [TOP_eq]
  exact Nat.lt_of_lt_of_le h (Nat.pow_le_pow_right (by decide) hk)

theorem mul_lt_pow {a b j k : Nat} (h1 : a < 2 ^ j) (h2 : b < 2 ^ k) : a * b < 2 ^ (j + k) := by
  rw [Nat.pow_add]
  exact Nat.mul_lt_mul_of_lt_of_le h1 (Nat.le_of_lt h2) (Nat.pow_pos (by decide))

theorem mul_TOP (na nb : Bool) (A B : List Nat) (fA : Fits A) (fB : Fits B) (la : A.length ≤ 30) (lb : B.length ≤ 30) : (sval na A * sval nb B).natAbs < TOP := by
  rw [Int.natAbs_mul, natAbs_sval, natAbs_sval]
  exact lt_TOP (mul_lt_pow (val_lt_pow A fA 30 la) (val_lt_pow B fB 30 lb)) (by decide)

end Go.Proofs.YtlbggedahpnjgaaDoor

/- Contract of the reference's Scale; what told asks of it. -/
namespace Go.Proofs.YtlbggedahpnjgaaDoor
open Go.RowKit
attribute [local go_sem ↓] Go.wp_at_zero Go.wp_at_succ

theorem drB_odd {neg : Bool} {L : List Nat} {e : Int} (h : drB neg L e = true) (h0 : sval neg L ≠ 0) : tz (sval neg L).natAbs = 0 ∧ sval neg L % 2 = 1 := by
  have hr := (drB_bounds h).1
  have hl : L.length ≠ 0 := fun e => h0 ((sval_zero_iff hr).2 e)
  unfold drB at h
  rw [if_neg hl, Bool.and_eq_true, Bool.and_eq_true] at h
  have ho : val L % 2 = 1 := of_decide_eq_true h.2.1
  refine ⟨by rw [natAbs_sval]; exact tz_odd _ ho, ?_⟩
  have := natAbs_sval neg L
  omega

theorem told_scale {na : Bool} {A : List Nat} {x n : Int} (h : drB na A x = true) (hn : -32768 ≤ n ∧ n ≤ 32768) :
    (dRt (oM (sval na A)) (oE (sval na A) (x + n)) = true → dErr (sval na A) (x + n) = 0 ∧ dM (sval na A) (x + n) = oM (sval na A) ∧ dX (sval na A) (x + n) = oE (sval na A) (x + n)) ∧ (dRt (oM (sval na A)) (oE (sval na A) (x + n)) = false → dErr (sval na A) (x + n) = 2 ∧ dM (sval na A) (x + n) = 0 ∧ dX (sval na A) (x + n) = 0) := by
  by_cases hin : -32768 ≤ x + n ∧ x + n ≤ 32768
  · exact told_make _ _ hin
  · obtain ⟨hr, hl, h1, h2, h3⟩ := drB_bounds h
    have h0 : sval na A ≠ 0 := fun e => by
      have := h3 ((sval_zero_iff hr).1 e)
      omega
    obtain ⟨ht, ho⟩ := drB_odd h h0
    have hd : dRt (oM (sval na A)) (oE (sval na A) (x + n)) = false := by
      unfold dRt
      rw [if_neg (oM_ne _ h0).1, oE_ne _ _ h0, ht, decide_eq_false (show ¬ (-16384 ≤ x + n + ((0 : Nat) : Int) ∧ x + n + ((0 : Nat) : Int) ≤ 16384) by omega), Bool.and_false]
    refine ⟨fun h => ?_, fun _ => make_far _ _ hin⟩
    rw [hd] at h
    exact absurd h (by decide)

end Go.Proofs.YtlbggedahpnjgaaDoor

/- How many bits a number has; when one is too wide. -/
namespace Go.Proofs.YtlbggedahpnjgaaDoor
open Go.RowKit

theorem bitLen_spec : ∀ (t : Nat), 0 < t → t < 4294967296 → 1 ≤ Lib.bitLen t ∧ 2 ^ (Lib.bitLen t - 1) ≤ t ∧ t < 2 ^ Lib.bitLen t := by
  intro t
  induction t using Nat.strongRecOn with
  | ind t ih =>
    intro h0 h1
    have hb := bitLen_half t h0 h1
    by_cases h2 : t = 1
    · subst h2; decide
    · obtain ⟨i1, i2, i3⟩ := ih (t / 2) (by omega) (by omega) (by omega)
      rw [hb]
      refine ⟨by omega, ?_, ?_⟩
      · rw [show 1 + Lib.bitLen (t / 2) - 1 = (Lib.bitLen (t / 2) - 1) + 1 by omega, Nat.pow_succ]
        omega
      · rw [show 1 + Lib.bitLen (t / 2) = Lib.bitLen (t / 2) + 1 by omega, Nat.pow_succ]
        omega

/-- The number of bits, as a natural number. -/
def bits1 (L : List Nat) : Nat := if L.length = 0 then 0 else 32 * (L.length - 1) + Lib.bitLen (L[L.length - 1]?.getD 0)

theorem lenL_bits (L : List Nat) : lenL L = (bits1 L : Int) := by
  unfold lenL bits1
  by_cases h : L.length = 0
  · rw [if_pos h, if_pos h]; rfl
  · rw [if_neg h, if_neg h]; omega

theorem bits_spec (L : List Nat) (hf : Fits L) (hc : Canon L) (h0 : L ≠ []) : 1 ≤ bits1 L ∧ 2 ^ (bits1 L - 1) ≤ val L ∧ val L < 2 ^ bits1 L := by
  have hl : 0 < L.length := List.length_pos_iff.2 h0
  have ht : L[L.length - 1]?.getD 0 ≠ 0 := by
    rcases hc with h | h
    · exact absurd h h0
    · exact h
  have htl : L[L.length - 1]?.getD 0 < 4294967296 := by
    rw [List.getElem?_eq_getElem (by omega)]
    exact hf _ (List.getElem_mem _)
  obtain ⟨s1, s2, s3⟩ := bitLen_spec (L[L.length - 1]?.getD 0) (by omega) htl
  have hv := val_take_succ L (L.length - 1)
  rw [show L.length - 1 + 1 = L.length by omega, List.take_length] at hv
  have hr := val_take_lt L hf (L.length - 1)
  rw [show (4294967296 : Nat) = 2 ^ 32 by decide, ← Nat.pow_mul] at hr hv
  unfold bits1
  rw [if_neg (by omega)]
  generalize L[L.length - 1]?.getD 0 = t at *
  generalize Lib.bitLen t = b at *
  generalize val (L.take (L.length - 1)) = r at *
  generalize hk : 32 * (L.length - 1) = k at *
  refine ⟨by omega, ?_, ?_⟩
  · rw [show k + b - 1 = k + (b - 1) by omega, Nat.pow_add, hv]
    have : 2 ^ k * 2 ^ (b - 1) ≤ 2 ^ k * t := Nat.mul_le_mul_left _ s2
    omega
  · rw [Nat.pow_add, hv]
    have : 2 ^ k * (t + 1) ≤ 2 ^ k * 2 ^ b := Nat.mul_le_mul_left _ s3
    rw [Nat.mul_add] at this
    omega

/-- A number of n bits times 2^d has n + d bits. -/
theorem bits_up (v n d k : Nat) (h1 : 1 ≤ n) (h2 : 2 ^ (n - 1) ≤ v) (h3 : v < 2 ^ n) : v * 2 ^ d < 2 ^ k ↔ n + d ≤ k := by
  constructor
  · intro h
    apply Nat.le_of_not_lt
    intro hlt
    have e1 : 2 ^ (n - 1) * 2 ^ d ≤ v * 2 ^ d := Nat.mul_le_mul_right _ h2
    rw [← Nat.pow_add] at e1
    have e2 : 2 ^ k ≤ 2 ^ (n - 1 + d) := Nat.pow_le_pow_right (by decide) (by omega)
    omega
  · intro h
    have e1 : v * 2 ^ d < 2 ^ n * 2 ^ d := Nat.mul_lt_mul_of_pos_right h3 (Nat.pow_pos (by decide))
    rw [← Nat.pow_add] at e1
    exact Nat.lt_of_lt_of_le e1 (Nat.pow_le_pow_right (by decide) h)

theorem natAbs_up (n : Bool) (L : List Nat) (x l : Int) : (up (sval n L) x l).natAbs = val L * 2 ^ (x - l).toNat := by
  unfold up
  rw [Int.natAbs_mul, natAbs_sval, Int.natAbs_pow]
  rfl

/-- Too wide, by bits. -/
theorem up_bits (n : Bool) (L : List Nat) (x l : Int) (hf : Fits L) (hr : rightB n L = true) (h0 : L ≠ []) (hl : l ≤ x) : upE (sval n L) x l = 0 ↔ (x - l ≤ 16384 ∧ lenL L + x - l ≤ 16384) := by
  obtain ⟨s1, s2, s3⟩ := bits_spec L hf (right_canon hr).2.1 h0
  have hb := bits_up (val L) (bits1 L) (x - l).toNat (32 * TOPN) s1 s2 s3
  rw [← TOP_eq, ← natAbs_up n L x l] at hb
  have e2 : 32 * TOPN = 16384 := rfl
  rw [lenL_bits]
  constructor
  · intro h
    have := hb.1 (upE_TOP h)
    omega
  · intro h
    exact upE_ok _ _ _ (hb.2 (by omega)) h.1

end Go.Proofs.YtlbggedahpnjgaaDoor

/- Contracts of soft's parts, Value. -/
namespace Go.Proofs.YtlbggedahpnjgaaDoor
open Go.RowKit

/-- The whole number without its sign; with it; its power. -/
def fA (b : Nat) : Nat := if fP b = 0 then fF b else fF b + 4503599627370496
def fM (b : Nat) : Int := sg (fS b) (fA b)
def fE (b : Nat) : Int := if fP b = 0 then -1074 else (fP b : Int) - 1075

theorem fA_lt (b : Nat) : fA b < 9007199254740992 := by unfold fA; have := fF_lt b; split <;> omega
theorem fM_lt (b : Nat) : (fM b).natAbs < 9007199254740992 := by
  have := fA_lt b
  unfold fM sg
  split <;> omega
theorem fE_in (b : Nat) : -1074 ≤ fE b ∧ fE b ≤ 972 := by
  have := fP_lt b
  unfold fE
  split <;> omega

set_option maxHeartbeats 2000000 in
theorem parts_any (b : Nat) (w : World) :
    Calls Tryd.prog 47 #[fV b] w fun e w' => e = .returned (.tuple #[.int .i64 (fM b), .int .i64 (fE b)]) ∧ Below w.heap.size w w' := by
  unfold fV fM fE fA
  have hp := fP_lt b
  have hf := fF_lt b
  generalize fF b = f at *
  generalize fP b = p at *
  generalize fS b = s at *
  have hf0 : (0 : Int) ≤ f := by omega
  have hf1 : (f : Int) < 4503599627370496 := by omega
  have hp1 : (p : Int) < 2048 := by omega
  by_cases h0 : p = 0
  · subst h0
    rw [if_pos rfl, if_pos rfl]
    cases s
    · go_enter Tryd.func47, Tryd.ntmps47
      go_wp2
      exact bodyPost_ret (v := .tuple #[.int .i64 f, .int .i64 (-1074)]) (by simp [results, Tryd.results47, go_sem]) rfl ⟨rfl, (Below.refl _ _).alloc (Nat.le_refl _) _⟩
    · go_enter Tryd.func47, Tryd.ntmps47
      go_wp2
      exact bodyPost_ret (v := .tuple #[.int .i64 (-f), .int .i64 (-1074)]) (by simp [results, Tryd.results47, go_sem]) rfl ⟨rfl, (Below.refl _ _).alloc (Nat.le_refl _) _⟩
  · rw [if_neg h0, if_neg h0]
    have h1 : 0 < p := by omega
    have h1' : decide (0 < p) = true := decide_eq_true h1
    have w0 : IntKind.i64.wrap (f : Int) = (f : Int) := by simp only [IntKind.wrap_i64]; omega
    have w2 : IntKind.i64.wrap (p : Int) = (p : Int) := by simp only [IntKind.wrap_i64]; omega
    obtain ⟨a, ha⟩ : ∃ a : Nat, a = f + 4503599627370496 := ⟨_, rfl⟩
    have w1 : IntKind.i64.wrap ((f : Int) + 4503599627370496) = (a : Int) := by simp only [IntKind.wrap_i64]; omega
    have w4 : IntKind.i64.wrap (-(a : Int)) = -(a : Int) := by simp only [IntKind.wrap_i64]; omega
    have w5 : IntKind.i64.wrap ((p : Int) - 1) = (p : Int) - 1 := by simp only [IntKind.wrap_i64]; omega
    have w6 : IntKind.i64.wrap (-1074 + ((p : Int) - 1)) = (p : Int) - 1075 := by simp only [IntKind.wrap_i64]; omega
    rw [← ha]
    clear h0 hf hp hf1 hp1 hf0 ha
    cases s
    · go_enter Tryd.func47, Tryd.ntmps47
      go_wp2
      exact bodyPost_ret (v := .tuple #[.int .i64 a, .int .i64 (p - 1075)]) (by simp [results, Tryd.results47, go_sem]) rfl ⟨rfl, (Below.refl _ _).alloc (Nat.le_refl _) _⟩
    · go_enter Tryd.func47, Tryd.ntmps47
      go_wp2
      exact bodyPost_ret (v := .tuple #[.int .i64 (-a), .int .i64 (p - 1075)]) (by simp [results, Tryd.results47, go_sem]) rfl ⟨rfl, (Below.refl _ _).alloc (Nat.le_refl _) _⟩

end Go.Proofs.YtlbggedahpnjgaaDoor

/- Contracts of the reference's Low, wide, Wide. -/
namespace Go.Proofs.YtlbggedahpnjgaaDoor
open Go.RowKit
attribute [local go_sem ↓] Go.wp_at_zero Go.wp_at_succ

def lowR (n m : Nat) (x y : Int) : Int := if n = 0 then y else if m = 0 then x else min x y

theorem lowR_E {na nb : Bool} {A B : List Nat} {x y : Int} (ra : rightB na A = true) (rb : rightB nb B = true) : lowR A.length B.length x y = lowE (sval na A) x (sval nb B) y := by
  unfold lowR lowE
  by_cases h1 : A.length = 0
  · rw [if_pos h1, if_pos ((sval_zero_iff ra).2 h1)]
  · rw [if_neg h1, if_neg (fun e => h1 ((sval_zero_iff ra).1 e))]
    by_cases h2 : B.length = 0
    · rw [if_pos h2, if_pos ((sval_zero_iff rb).2 h2)]
    · rw [if_neg h2, if_neg (fun e => h2 ((sval_zero_iff rb).1 e))]

/-- Is a right number too wide with the power l? -/
def widB (L : List Nat) (x l : Int) : Bool := decide (L.length ≠ 0 ∧ (16384 < x - l ∨ 16384 < lenL L + x - l))

end Go.Proofs.YtlbggedahpnjgaaDoor

