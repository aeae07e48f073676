/- Contract of bits.Len32. -/
import Derived.Test.YtiebegjgaflfiaaR5
import Derived.Lib.BitFns
namespace Go.Proofs.Ytiebegjgaflfiaa
open Go.RowKit

set_option maxHeartbeats 4000000 in
set_option maxRecDepth 100000 in
theorem len32_any (x : Int) (w : World) (h0 : 0 ≤ x) (h1 : x ≤ 4294967295) :
    Calls Try.prog 48 #[.int .u32 x] w fun e w' => e = .returned (.int .i64 (Lib.bitLen x.toNat)) ∧ w = w' := by
  rcases (show x < 256 ∨ (256 ≤ x ∧ x < 65536) ∨ (65536 ≤ x ∧ x < 16777216) ∨ 16777216 ≤ x by omega) with h | ⟨ha, hb⟩ | ⟨ha, hb⟩ | h
  · have hi := fun w => Lib.run_index_len8tab (P := Try.prog) w 9 .u8 (x) Try.underlying9 (by omega) (by omega)
    have l1 := Lib.len8_eq ⟨(x).toNat, by omega⟩
    have l2 := Lib.bitLen_le8 ⟨(x).toNat, by omega⟩
    have hl0 : 0 ≤ Lib.len8 (x) := by simp only [Int.toNat_of_nonneg (show 0 ≤ x by omega)] at l1; rw [l1]; omega
    have hl8 : Lib.len8 (x) ≤ 8 := by simp only [Int.toNat_of_nonneg (show 0 ≤ x by omega)] at l1; rw [l1]; simp only at l2; omega
    have HE : Hid (Lib.len8 (x) = (Lib.bitLen (x).toNat : Int)) := by unfold Hid; simp only [Int.toNat_of_nonneg (show 0 ≤ x by omega)] at l1; exact l1
    clear l1 l2
    go_enter Try.func48, Try.ntmps48
    go_wp2
    go_ret
    refine ⟨ret_int ?_, rfl⟩
    rw [HE.out]
  · have hi := fun w => Lib.run_index_len8tab (P := Try.prog) w 9 .u8 (x / 256) Try.underlying9 (by omega) (by omega)
    have l1 := Lib.len8_eq ⟨(x / 256).toNat, by omega⟩
    have l2 := Lib.bitLen_le8 ⟨(x / 256).toNat, by omega⟩
    have hl0 : 0 ≤ Lib.len8 (x / 256) := by simp only [Int.toNat_of_nonneg (show 0 ≤ x / 256 by omega)] at l1; rw [l1]; omega
    have hl8 : Lib.len8 (x / 256) ≤ 8 := by simp only [Int.toNat_of_nonneg (show 0 ≤ x / 256 by omega)] at l1; rw [l1]; simp only at l2; omega
    have HE : Hid (Lib.len8 (x / 256) = (Lib.bitLen (x / 256).toNat : Int)) := by unfold Hid; simp only [Int.toNat_of_nonneg (show 0 ≤ x / 256 by omega)] at l1; exact l1
    clear l1 l2
    go_enter Try.func48, Try.ntmps48
    go_wp2
    go_ret
    refine ⟨ret_int ?_, rfl⟩
    rw [HE.out]
    have s := Lib.bitLen_shift8 x.toNat (by omega) (by omega)
    rw [show (x / 256).toNat = x.toNat / 256 by omega]
    omega
  · have hi := fun w => Lib.run_index_len8tab (P := Try.prog) w 9 .u8 (x / 65536) Try.underlying9 (by omega) (by omega)
    have l1 := Lib.len8_eq ⟨(x / 65536).toNat, by omega⟩
    have l2 := Lib.bitLen_le8 ⟨(x / 65536).toNat, by omega⟩
    have hl0 : 0 ≤ Lib.len8 (x / 65536) := by simp only [Int.toNat_of_nonneg (show 0 ≤ x / 65536 by omega)] at l1; rw [l1]; omega
    have hl8 : Lib.len8 (x / 65536) ≤ 8 := by simp only [Int.toNat_of_nonneg (show 0 ≤ x / 65536 by omega)] at l1; rw [l1]; simp only at l2; omega
    have HE : Hid (Lib.len8 (x / 65536) = (Lib.bitLen (x / 65536).toNat : Int)) := by unfold Hid; simp only [Int.toNat_of_nonneg (show 0 ≤ x / 65536 by omega)] at l1; exact l1
    clear l1 l2
    go_enter Try.func48, Try.ntmps48
    go_wp2
    go_ret
    refine ⟨ret_int ?_, rfl⟩
    rw [HE.out]
    have s := Lib.bitLen_shift16 x.toNat (by omega) (by omega)
    rw [show (x / 65536).toNat = x.toNat / 65536 by omega]
    omega
  · have hi := fun w => Lib.run_index_len8tab (P := Try.prog) w 9 .u8 (x / 65536 / 256) Try.underlying9 (by omega) (by omega)
    have l1 := Lib.len8_eq ⟨(x / 65536 / 256).toNat, by omega⟩
    have l2 := Lib.bitLen_le8 ⟨(x / 65536 / 256).toNat, by omega⟩
    have hl0 : 0 ≤ Lib.len8 (x / 65536 / 256) := by simp only [Int.toNat_of_nonneg (show 0 ≤ x / 65536 / 256 by omega)] at l1; rw [l1]; omega
    have hl8 : Lib.len8 (x / 65536 / 256) ≤ 8 := by simp only [Int.toNat_of_nonneg (show 0 ≤ x / 65536 / 256 by omega)] at l1; rw [l1]; simp only at l2; omega
    have HE : Hid (Lib.len8 (x / 65536 / 256) = (Lib.bitLen (x / 65536 / 256).toNat : Int)) := by unfold Hid; simp only [Int.toNat_of_nonneg (show 0 ≤ x / 65536 / 256 by omega)] at l1; exact l1
    clear l1 l2
    go_enter Try.func48, Try.ntmps48
    go_wp2
    go_ret
    refine ⟨ret_int ?_, rfl⟩
    rw [HE.out]
    have s := Lib.bitLen_shift24 x.toNat (by omega) (by omega)
    rw [show (x / 65536 / 256).toNat = x.toNat / 16777216 by omega]
    omega

end Go.Proofs.Ytiebegjgaflfiaa
