/- Part 12 of the texts. -/
import Derived.Test.YtfkndkaneffgdaaGreatDoorPartC11
import Derived.Test.YtfkndkaneffgdaaGreatDoorPartC04
import Derived.Test.YtfkndkaneffgdaaGreatDoorPartC10
/- Contracts of the reference's Mul, Scale. -/
namespace Go.Proofs.YtfkndkaneffgdaaGreatDoor
open Go.RowKit
attribute [local go_sem ↓] Go.wp_at_zero Go.wp_at_succ
theorem val_lt_pow (L : List Nat) (hf : Fits L) (k : Nat) (h : L.length ≤ k) : val L < 2 ^ (32 * k) := by
  have h1 := val_lt L hf
  rw [show (4294967296 : Nat) = 2 ^ 32 by decide, ← Nat.pow_mul] at h1
  exact Nat.lt_of_lt_of_le h1 (Nat.pow_le_pow_right (by decide) (by omega))

theorem TOP_eq : TOP = 2 ^ (32 * TOPN) := by
  unfold TOP
  rw [show (4294967296 : Nat) = 2 ^ 32 by decide, ← Nat.pow_mul]

theorem lt_TOP {v k : Nat} (h : v < 2 ^ k) (hk : k ≤ 16384) : v < TOP := by
  rw [TOP_eq]
  exact Nat.lt_of_lt_of_le h (Nat.pow_le_pow_right (by decide) hk)

end Go.Proofs.YtfkndkaneffgdaaGreatDoor

/- How many bits a number has; when one is too wide. -/
namespace Go.Proofs.YtfkndkaneffgdaaGreatDoor
open Go.RowKit

theorem bitLen_spec : ∀ (t : Nat), 0 < t → t < 4294967296 → 1 ≤ Lib.bitLen t ∧ 2 ^ (Lib.bitLen t - 1) ≤ t ∧ t < 2 ^ Lib.bitLen t := by
  intro t
  induction t using Nat.strongRecOn with
  | ind t ih =>
    intro h0 h1
    have hb := bitLen_half t h0 h1
    by_cases h2 : t = 1
    · subst h2; decide
    · obtain ⟨i1, i2, i3⟩ := ih (t / 2) (by omega) (by omega) (by omega)
      rw [hb]
      refine ⟨by omega, ?_, ?_⟩
      · rw [show 1 + Lib.bitLen (t / 2) - 1 = (Lib.bitLen (t / 2) - 1) + 1 by omega, Nat.pow_succ]
        omega
      · rw [show 1 + Lib.bitLen (t / 2) = Lib.bitLen (t / 2) + 1 by omega, Nat.pow_succ]
        omega

/-- The number of bits, as a natural number. -/
def bits1 (L : List Nat) : Nat := if L.length = 0 then 0 else 32 * (L.length - 1) + Lib.bitLen (L[L.length - 1]?.getD 0)

theorem lenL_bits (L : List Nat) : lenL L = (bits1 L : Int) := by
  unfold lenL bits1
  by_cases h : L.length = 0
  · rw [if_pos h, if_pos h]; rfl
  · rw [if_neg h, if_neg h]; omega

theorem bits_spec (L : List Nat) (hf : Fits L) (hc : Canon L) (h0 : L ≠ []) : 1 ≤ bits1 L ∧ 2 ^ (bits1 L - 1) ≤ val L ∧ val L < 2 ^ bits1 L := by
  have hl : 0 < L.length := List.length_pos_iff.2 h0
  have ht : L[L.length - 1]?.getD 0 ≠ 0 := by
    rcases hc with h | h
    · exact absurd h h0
    · exact h
  have htl : L[L.length - 1]?.getD 0 < 4294967296 := by
    rw [List.getElem?_eq_getElem (by omega)]
    exact hf _ (List.getElem_mem _)
  obtain ⟨s1, s2, s3⟩ := bitLen_spec (L[L.length - 1]?.getD 0) (by omega) htl
  have hv := val_take_succ L (L.length - 1)
  rw [show L.length - 1 + 1 = L.length by omega, List.take_length] at hv
  have hr := val_take_lt L hf (L.length - 1)
  rw [show (4294967296 : Nat) = 2 ^ 32 by decide, ← Nat.pow_mul] at hr hv
  unfold bits1
  rw [if_neg (by omega)]
  generalize L[L.length - 1]?.getD 0 = t at *
  generalize Lib.bitLen t = b at *
  generalize val (L.take (L.length - 1)) = r at *
  generalize hk : 32 * (L.length - 1) = k at *
  refine ⟨by omega, ?_, ?_⟩
  · rw [show k + b - 1 = k + (b - 1) by omega, Nat.pow_add, hv]
    have : 2 ^ k * 2 ^ (b - 1) ≤ 2 ^ k * t := Nat.mul_le_mul_left _ s2
    omega
  · rw [Nat.pow_add, hv]
    have : 2 ^ k * (t + 1) ≤ 2 ^ k * 2 ^ b := Nat.mul_le_mul_left _ s3
    rw [Nat.mul_add] at this
    omega

end Go.Proofs.YtfkndkaneffgdaaGreatDoor

/- Contracts of soft's parts, Value. -/
namespace Go.Proofs.YtfkndkaneffgdaaGreatDoor
open Go.RowKit

/-- The whole number without its sign; with it; its power. -/
def fA (b : Nat) : Nat := if fP b = 0 then fF b else fF b + 4503599627370496
def fM (b : Nat) : Int := sg (fS b) (fA b)
def fE (b : Nat) : Int := if fP b = 0 then -1074 else (fP b : Int) - 1075

theorem fA_lt (b : Nat) : fA b < 9007199254740992 := by unfold fA; have := fF_lt b; split <;> omega
theorem fM_lt (b : Nat) : (fM b).natAbs < 9007199254740992 := by
  have := fA_lt b
  unfold fM sg
  split <;> omega
theorem fE_in (b : Nat) : -1074 ≤ fE b ∧ fE b ≤ 972 := by
  have := fP_lt b
  unfold fE
  split <;> omega

set_option maxHeartbeats 2000000 in
theorem parts_any (b : Nat) (w : World) :
    Calls Tryz.prog 158 #[fV b] w fun e w' => e = .returned (.tuple #[.int .i64 (fM b), .int .i64 (fE b)]) ∧ Below w.heap.size w w' := by
  unfold fV fM fE fA
  have hp := fP_lt b
  have hf := fF_lt b
  generalize fF b = f at *
  generalize fP b = p at *
  generalize fS b = s at *
  have hf0 : (0 : Int) ≤ f := by omega
  have hf1 : (f : Int) < 4503599627370496 := by omega
  have hp1 : (p : Int) < 2048 := by omega
  by_cases h0 : p = 0
  · subst h0
    rw [if_pos rfl, if_pos rfl]
    cases s
    · go_enter Tryz.func158, Tryz.ntmps158
      go_wp2
      exact bodyPost_ret (v := .tuple #[.int .i64 f, .int .i64 (-1074)]) (by simp [results, Tryz.results158, go_sem]) rfl ⟨rfl, (Below.refl _ _).alloc (Nat.le_refl _) _⟩
    · go_enter Tryz.func158, Tryz.ntmps158
      go_wp2
      exact bodyPost_ret (v := .tuple #[.int .i64 (-f), .int .i64 (-1074)]) (by simp [results, Tryz.results158, go_sem]) rfl ⟨rfl, (Below.refl _ _).alloc (Nat.le_refl _) _⟩
  · rw [if_neg h0, if_neg h0]
    have h1 : 0 < p := by omega
    have h1' : decide (0 < p) = true := decide_eq_true h1
    have w0 : IntKind.i64.wrap (f : Int) = (f : Int) := by simp only [IntKind.wrap_i64]; omega
    have w2 : IntKind.i64.wrap (p : Int) = (p : Int) := by simp only [IntKind.wrap_i64]; omega
    obtain ⟨a, ha⟩ : ∃ a : Nat, a = f + 4503599627370496 := ⟨_, rfl⟩
    have w1 : IntKind.i64.wrap ((f : Int) + 4503599627370496) = (a : Int) := by simp only [IntKind.wrap_i64]; omega
    have w4 : IntKind.i64.wrap (-(a : Int)) = -(a : Int) := by simp only [IntKind.wrap_i64]; omega
    have w5 : IntKind.i64.wrap ((p : Int) - 1) = (p : Int) - 1 := by simp only [IntKind.wrap_i64]; omega
    have w6 : IntKind.i64.wrap (-1074 + ((p : Int) - 1)) = (p : Int) - 1075 := by simp only [IntKind.wrap_i64]; omega
    rw [← ha]
    clear h0 hf hp hf1 hp1 hf0 ha
    cases s
    · go_enter Tryz.func158, Tryz.ntmps158
      go_wp2
      exact bodyPost_ret (v := .tuple #[.int .i64 a, .int .i64 (p - 1075)]) (by simp [results, Tryz.results158, go_sem]) rfl ⟨rfl, (Below.refl _ _).alloc (Nat.le_refl _) _⟩
    · go_enter Tryz.func158, Tryz.ntmps158
      go_wp2
      exact bodyPost_ret (v := .tuple #[.int .i64 (-a), .int .i64 (p - 1075)]) (by simp [results, Tryz.results158, go_sem]) rfl ⟨rfl, (Below.refl _ _).alloc (Nat.le_refl _) _⟩

end Go.Proofs.YtfkndkaneffgdaaGreatDoor

/- The law DyadicSums, walked. -/
namespace Go.Proofs.YtfkndkaneffgdaaGreatDoor
open Go.RowKit
attribute [local go_sem ↓] Go.wp_at_zero Go.wp_at_succ

theorem ad_fits {sa x sb y : Int} (e1 : upE sa x (lowE sa x sb y) = 0) (e2 : upE sb y (lowE sa x sb y) = 0) (hz : (sumZ sa x sb y).natAbs < TOP) :
    adE sa x sb y = dErr (sumZ sa x sb y) (lowE sa x sb y) ∧ adM sa x sb y = dM (sumZ sa x sb y) (lowE sa x sb y) ∧ adX sa x sb y = dX (sumZ sa x sb y) (lowE sa x sb y) := by
  have hf : fitsB sa x sb y = true := decide_eq_true ⟨e1, e2, hz⟩
  unfold adE adM adX
  rw [hf]
  exact ⟨rfl, rfl, rfl⟩

end Go.Proofs.YtfkndkaneffgdaaGreatDoor

/- The order of dyadic numbers: by signs, by tops, by what they differ by. -/
namespace Go.Proofs.YtfkndkaneffgdaaGreatDoor
open Go.RowKit

/-- The sign of a number. -/
def sgnI (z : Int) : Int := if z < 0 then -1 else if z = 0 then 0 else 1
theorem sgnI_neg {u : Int} (h : u < 0) : sgnI u = -1 := by unfold sgnI; rw [if_pos h]
theorem sgnI_pos {u : Int} (h : 0 < u) : sgnI u = 1 := by unfold sgnI; rw [if_neg (by omega), if_neg (by omega)]

theorem sgnI_mul_pow (s : Int) (k : Nat) : sgnI (s * 2 ^ k) = sgnI s := by
  have hp : (0 : Int) < 2 ^ k := Int.pow_pos (by decide)
  rcases Int.lt_trichotomy s 0 with h | h | h
  · rw [sgnI_neg h, sgnI_neg (Int.mul_neg_of_neg_of_pos h hp)]
  · subst h; rw [Int.zero_mul]
  · rw [sgnI_pos h, sgnI_pos (Int.mul_pos h hp)]

end Go.Proofs.YtfkndkaneffgdaaGreatDoor

