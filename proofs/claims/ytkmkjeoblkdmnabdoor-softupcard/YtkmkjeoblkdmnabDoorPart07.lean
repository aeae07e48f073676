/- Part 7 of the texts. -/
import Derived.Test.YtkmkjeoblkdmnabDoorPart06
import Derived.Test.YtkmkjeoblkdmnabDoorPart05
import Derived.Lib.BitFns
/- Contracts of Of, checkBoth. -/
namespace Go.Proofs.YtkmkjeoblkdmnabDoor
open Go.RowKit
attribute [local go_sem ↓] Go.wp_at_zero Go.wp_at_succ

/-- What checkBoth says. -/
def chk2 (na : Bool) (A : List Nat) (nb : Bool) (B : List Nat) : Int := if rightB na A && rightB nb B then 0 else 1

theorem chkE_val (neg : Bool) (L : List Nat) : chkE neg L = 0 ∨ chkE neg L = 1 := by unfold chkE; split <;> simp

end Go.Proofs.YtkmkjeoblkdmnabDoor

/- Contracts of Add, Sub. -/
namespace Go.Proofs.YtkmkjeoblkdmnabDoor
open Go.RowKit

/-- What an operation answers: ok: are its numbers right; z: what it comes to. -/
def opErr (ok : Bool) (z : Int) : Int := if ok then errOf z else 1
def opNum (ok : Bool) (z : Int) : Int := if ok then numOf z else 0

theorem opErr_true (z : Int) : opErr true z = errOf z := by unfold opErr; rw [if_pos rfl]
theorem opNum_true (z : Int) : opNum true z = numOf z := by unfold opNum; rw [if_pos rfl]
theorem opErr_false (z : Int) : opErr false z = 1 := by unfold opErr; rw [if_neg (by decide)]
theorem opNum_false (z : Int) : opNum false z = 0 := by unfold opNum; rw [if_neg (by decide)]

theorem right_canon {neg : Bool} {L : List Nat} (h : rightB neg L = true) : L.length ≤ 512 ∧ Canon L ∧ (neg = true → L ≠ []) := by
  simp only [rightB, Bool.and_eq_true, decide_eq_true_eq, Bool.not_eq_true', Bool.and_eq_false_iff, decide_eq_false_iff_not, Bool.or_eq_true] at h
  obtain ⟨⟨h1, h2⟩, h3⟩ := h
  refine ⟨h1, ?_, ?_⟩
  · rcases h3 with h3 | h3
    · exact .inl (List.length_eq_zero_iff.1 h3)
    · exact .inr h3
  · rintro hn rfl
    rcases h2 with h2 | h2
    · simp at h2
    · rw [hn] at h2; cases h2

theorem sval_not (nb : Bool) (B : List Nat) : sval (!nb) B = - sval nb B := by unfold sval; cases nb <;> simp

end Go.Proofs.YtkmkjeoblkdmnabDoor

/- Contract of Sub. -/
namespace Go.Proofs.YtkmkjeoblkdmnabDoor
open Go.RowKit


end Go.Proofs.YtkmkjeoblkdmnabDoor

/- Contracts of the reference's Neg, Sub, Compare. -/
namespace Go.Proofs.YtkmkjeoblkdmnabDoor
open Go.RowKit
attribute [local go_sem ↓] Go.wp_at_zero Go.wp_at_succ

theorem LimbsAt.box {w : World} {ao : Option Addr} {cap g : Nat} {L : List Nat} (h : LimbsAt w ao cap L) {x : Bool} {a : Option Addr} {n c : Nat} (hx : Box2 w g (.bool x) (.slice a n c)) (u u' : Value) :
    LimbsAt ((w.setCell ⟨g, 0, none⟩ u).setCell ⟨g, 1, none⟩ u') ao cap L := by
  refine ⟨h.1, h.2.1, ?_⟩
  rcases h.2.2 with h0 | ⟨b, off, h1, h2, h3⟩
  · exact .inl h0
  · by_cases he : L = []
    · exact .inl he
    · have hp : 0 < L.length := List.length_pos_iff.2 he
      have hne : b ≠ g := by
        rintro rfl
        have h4 := h3 0 hp
        rw [cell_of_row w b (off + 0) _ _ _ hx] at h4
        rcases (show off = 0 ∨ off = 1 ∨ 2 ≤ off by omega) with e | e | e
        · subst e; simp at h4
        · subst e; simp at h4
        · rw [Array.getElem?_eq_none (by simp; omega)] at h4; simp at h4
      refine .inr ⟨b, off, h1, by simpa [World.setCell] using h2, fun i hi => ?_⟩
      rw [cell_setCell_other _ _ _ _ (by simpa using hne), cell_setCell_other _ _ _ _ (by simpa using hne)]
      exact h3 i hi

end Go.Proofs.YtkmkjeoblkdmnabDoor

/- Contract of bits.Len32. -/
namespace Go.Proofs.YtkmkjeoblkdmnabDoor
open Go.RowKit

set_option maxHeartbeats 4000000 in
set_option maxRecDepth 100000 in
theorem len32_any (x : Int) (w : World) (h0 : 0 ≤ x) (h1 : x ≤ 4294967295) :
    Calls Tryd.prog 40 #[.int .u32 x] w fun e w' => e = .returned (.int .i64 (Lib.bitLen x.toNat)) ∧ w = w' := by
  rcases (show x < 256 ∨ (256 ≤ x ∧ x < 65536) ∨ (65536 ≤ x ∧ x < 16777216) ∨ 16777216 ≤ x by omega) with h | ⟨ha, hb⟩ | ⟨ha, hb⟩ | h
  · have hi := fun w => Lib.run_index_len8tab (P := Tryd.prog) w 9 .u8 (x) Tryd.underlying9 (by omega) (by omega)
    have l1 := Lib.len8_eq ⟨(x).toNat, by omega⟩
    have l2 := Lib.bitLen_le8 ⟨(x).toNat, by omega⟩
    have hl0 : 0 ≤ Lib.len8 (x) := by simp only [Int.toNat_of_nonneg (show 0 ≤ x by omega)] at l1; rw [l1]; omega
    have hl8 : Lib.len8 (x) ≤ 8 := by simp only [Int.toNat_of_nonneg (show 0 ≤ x by omega)] at l1; rw [l1]; simp only at l2; omega
    have HE : Hid (Lib.len8 (x) = (Lib.bitLen (x).toNat : Int)) := by unfold Hid; simp only [Int.toNat_of_nonneg (show 0 ≤ x by omega)] at l1; exact l1
    clear l1 l2
    go_enter Tryd.func40, Tryd.ntmps40
    go_wp2
    go_ret
    refine ⟨ret_int ?_, rfl⟩
    rw [HE.out]
  · have hi := fun w => Lib.run_index_len8tab (P := Tryd.prog) w 9 .u8 (x / 256) Tryd.underlying9 (by omega) (by omega)
    have l1 := Lib.len8_eq ⟨(x / 256).toNat, by omega⟩
    have l2 := Lib.bitLen_le8 ⟨(x / 256).toNat, by omega⟩
    have hl0 : 0 ≤ Lib.len8 (x / 256) := by simp only [Int.toNat_of_nonneg (show 0 ≤ x / 256 by omega)] at l1; rw [l1]; omega
    have hl8 : Lib.len8 (x / 256) ≤ 8 := by simp only [Int.toNat_of_nonneg (show 0 ≤ x / 256 by omega)] at l1; rw [l1]; simp only at l2; omega
    have HE : Hid (Lib.len8 (x / 256) = (Lib.bitLen (x / 256).toNat : Int)) := by unfold Hid; simp only [Int.toNat_of_nonneg (show 0 ≤ x / 256 by omega)] at l1; exact l1
    clear l1 l2
    go_enter Tryd.func40, Tryd.ntmps40
    go_wp2
    go_ret
    refine ⟨ret_int ?_, rfl⟩
    rw [HE.out]
    have s := Lib.bitLen_shift8 x.toNat (by omega) (by omega)
    rw [show (x / 256).toNat = x.toNat / 256 by omega]
    omega
  · have hi := fun w => Lib.run_index_len8tab (P := Tryd.prog) w 9 .u8 (x / 65536) Tryd.underlying9 (by omega) (by omega)
    have l1 := Lib.len8_eq ⟨(x / 65536).toNat, by omega⟩
    have l2 := Lib.bitLen_le8 ⟨(x / 65536).toNat, by omega⟩
    have hl0 : 0 ≤ Lib.len8 (x / 65536) := by simp only [Int.toNat_of_nonneg (show 0 ≤ x / 65536 by omega)] at l1; rw [l1]; omega
    have hl8 : Lib.len8 (x / 65536) ≤ 8 := by simp only [Int.toNat_of_nonneg (show 0 ≤ x / 65536 by omega)] at l1; rw [l1]; simp only at l2; omega
    have HE : Hid (Lib.len8 (x / 65536) = (Lib.bitLen (x / 65536).toNat : Int)) := by unfold Hid; simp only [Int.toNat_of_nonneg (show 0 ≤ x / 65536 by omega)] at l1; exact l1
    clear l1 l2
    go_enter Tryd.func40, Tryd.ntmps40
    go_wp2
    go_ret
    refine ⟨ret_int ?_, rfl⟩
    rw [HE.out]
    have s := Lib.bitLen_shift16 x.toNat (by omega) (by omega)
    rw [show (x / 65536).toNat = x.toNat / 65536 by omega]
    omega
  · have hi := fun w => Lib.run_index_len8tab (P := Tryd.prog) w 9 .u8 (x / 65536 / 256) Tryd.underlying9 (by omega) (by omega)
    have l1 := Lib.len8_eq ⟨(x / 65536 / 256).toNat, by omega⟩
    have l2 := Lib.bitLen_le8 ⟨(x / 65536 / 256).toNat, by omega⟩
    have hl0 : 0 ≤ Lib.len8 (x / 65536 / 256) := by simp only [Int.toNat_of_nonneg (show 0 ≤ x / 65536 / 256 by omega)] at l1; rw [l1]; omega
    have hl8 : Lib.len8 (x / 65536 / 256) ≤ 8 := by simp only [Int.toNat_of_nonneg (show 0 ≤ x / 65536 / 256 by omega)] at l1; rw [l1]; simp only at l2; omega
    have HE : Hid (Lib.len8 (x / 65536 / 256) = (Lib.bitLen (x / 65536 / 256).toNat : Int)) := by unfold Hid; simp only [Int.toNat_of_nonneg (show 0 ≤ x / 65536 / 256 by omega)] at l1; exact l1
    clear l1 l2
    go_enter Tryd.func40, Tryd.ntmps40
    go_wp2
    go_ret
    refine ⟨ret_int ?_, rfl⟩
    rw [HE.out]
    have s := Lib.bitLen_shift24 x.toNat (by omega) (by omega)
    rw [show (x / 65536 / 256).toNat = x.toNat / 16777216 by omega]
    omega

end Go.Proofs.YtkmkjeoblkdmnabDoor

