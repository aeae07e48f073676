/- Part 6 of the texts. -/
import Derived.Test.YtpaikdlhkdgkpaaDoorPart05
import Derived.Test.YtpaikdlhkdgkpaaDoorPart04
import Derived.Lib.BitFns
/- Contracts of Of, checkBoth. -/
namespace Go.Proofs.YtpaikdlhkdgkpaaDoor
open Go.RowKit
attribute [local go_sem ↓] Go.wp_at_zero Go.wp_at_succ

/-- What checkBoth says. -/
def chk2 (na : Bool) (A : List Nat) (nb : Bool) (B : List Nat) : Int := if rightB na A && rightB nb B then 0 else 1

theorem chkE_val (neg : Bool) (L : List Nat) : chkE neg L = 0 ∨ chkE neg L = 1 := by unfold chkE; split <;> simp

end Go.Proofs.YtpaikdlhkdgkpaaDoor

/- Contracts of Add, Sub. -/
namespace Go.Proofs.YtpaikdlhkdgkpaaDoor
open Go.RowKit

/-- What an operation answers: ok: are its numbers right; z: what it comes to. -/
def opErr (ok : Bool) (z : Int) : Int := if ok then errOf z else 1
def opNum (ok : Bool) (z : Int) : Int := if ok then numOf z else 0

theorem opErr_true (z : Int) : opErr true z = errOf z := by unfold opErr; rw [if_pos rfl]
theorem opNum_true (z : Int) : opNum true z = numOf z := by unfold opNum; rw [if_pos rfl]
theorem opErr_false (z : Int) : opErr false z = 1 := by unfold opErr; rw [if_neg (by decide)]
theorem opNum_false (z : Int) : opNum false z = 0 := by unfold opNum; rw [if_neg (by decide)]

theorem right_canon {neg : Bool} {L : List Nat} (h : rightB neg L = true) : L.length ≤ 512 ∧ Canon L ∧ (neg = true → L ≠ []) := by
  simp only [rightB, Bool.and_eq_true, decide_eq_true_eq, Bool.not_eq_true', Bool.and_eq_false_iff, decide_eq_false_iff_not, Bool.or_eq_true] at h
  obtain ⟨⟨h1, h2⟩, h3⟩ := h
  refine ⟨h1, ?_, ?_⟩
  · rcases h3 with h3 | h3
    · exact .inl (List.length_eq_zero_iff.1 h3)
    · exact .inr h3
  · rintro hn rfl
    rcases h2 with h2 | h2
    · simp at h2
    · rw [hn] at h2; cases h2

theorem sval_not (nb : Bool) (B : List Nat) : sval (!nb) B = - sval nb B := by unfold sval; cases nb <;> simp

end Go.Proofs.YtpaikdlhkdgkpaaDoor

/- Contract of Sub. -/
namespace Go.Proofs.YtpaikdlhkdgkpaaDoor
open Go.RowKit


end Go.Proofs.YtpaikdlhkdgkpaaDoor

/- Contracts of the reference's Neg, Sub, Compare. -/
namespace Go.Proofs.YtpaikdlhkdgkpaaDoor
open Go.RowKit
attribute [local go_sem ↓] Go.wp_at_zero Go.wp_at_succ

theorem LimbsAt.box {w : World} {ao : Option Addr} {cap g : Nat} {L : List Nat} (h : LimbsAt w ao cap L) {x : Bool} {a : Option Addr} {n c : Nat} (hx : Box2 w g (.bool x) (.slice a n c)) (u u' : Value) :
    LimbsAt ((w.setCell ⟨g, 0, none⟩ u).setCell ⟨g, 1, none⟩ u') ao cap L := by
  refine ⟨h.1, h.2.1, ?_⟩
  rcases h.2.2 with h0 | ⟨b, off, h1, h2, h3⟩
  · exact .inl h0
  · by_cases he : L = []
    · exact .inl he
    · have hp : 0 < L.length := List.length_pos_iff.2 he
      have hne : b ≠ g := by
        rintro rfl
        have h4 := h3 0 hp
        rw [cell_of_row w b (off + 0) _ _ _ hx] at h4
        rcases (show off = 0 ∨ off = 1 ∨ 2 ≤ off by omega) with e | e | e
        · subst e; simp at h4
        · subst e; simp at h4
        · rw [Array.getElem?_eq_none (by simp; omega)] at h4; simp at h4
      refine .inr ⟨b, off, h1, by simpa [World.setCell] using h2, fun i hi => ?_⟩
      rw [cell_setCell_other _ _ _ _ (by simpa using hne), cell_setCell_other _ _ _ _ (by simpa using hne)]
      exact h3 i hi

set_option maxHeartbeats 400000 in
theorem refNeg_any (nb : Bool) (bo : Option Addr) (cb : Nat) (B : List Nat) (w : World) (hB : LimbsAt w bo cb B) (lb : B.length ≤ 35184372088830) :
    Calls Tryd.prog 68 #[.agg #[.bool nb, .slice bo B.length cb]] w fun e w' => ∃ v, e = .returned v ∧ IsNumM B.length 0 w' v (- sval nb B) ∧ Below w.heap.size w w' := by
  have HZ := hide (sval_not nb B)
  go_enter Tryd.func68, Tryd.ntmps68
  go_wp2_with fail
  have hb0 : Below w.heap.size w ((w.alloc (.cells #[.bool nb, .slice bo B.length cb] 46)).alloc (.cells #[.bool false, .slice none 0 0] 46)) := ((Below.refl _ _).alloc (Nat.le_refl _) _).alloc (by simp) _
  refine (made_any 0 (!nb) bo cb B _ (hB.below hb0) (NewAt.zero hB) (by omega)).mono ?_
  rw [unhide HZ]
  rintro e w1 ⟨v, rfl, ⟨n2, a2, c2, L2, rfl, i1⟩, hb1⟩
  have r1 : Box2 w1 (w.heap.size + 1) (.bool false) (.slice none 0 0) := by
    have := Box2.new (w.alloc (.cells #[.bool nb, .slice bo B.length cb] 46)) (.bool false) (.slice none 0 0)
    exact Box2.below (by simpa using this) hb1 (by simp)
  have y0 := r1.c0; have y1 := r1.c1; have f0 := r1.free 0; have f1 := r1.free 1
  have I1 := hide i1
  have R1 := hide r1
  have HB1 := hide (hb0.trans (hb1.mono (by simp; omega)))
  clear i1 hb1 hb0 r1
  go_wp2
  refine bodyPost_ret (v := .agg #[.bool n2, .slice a2 L2.length c2]) (by simp [results, Tryd.results68, go_sem, y0, y1]) rfl ⟨.agg #[.bool n2, .slice a2 L2.length c2], rfl, ?_, ?_⟩
  · exact ⟨n2, a2, c2, L2, rfl, (unhide I1).1.box (unhide R1) _ _, (unhide I1).2⟩
  · exact ((unhide HB1).setCell (by simp) _).setCell (by simp) _

set_option maxHeartbeats 1000000 in
theorem refSub_any (na nb : Bool) (ao bo : Option Addr) (ca cb : Nat) (A B : List Nat) (w : World) (hA : LimbsAt w ao ca A) (hB : LimbsAt w bo cb B) (la : A.length ≤ 35184372088830) (lb : B.length ≤ 35184372088830) :
    Calls Tryd.prog 95 #[.agg #[.bool na, .slice ao A.length ca], .agg #[.bool nb, .slice bo B.length cb]] w fun e w' => ∃ v, e = .returned v ∧ IsNumM (max A.length B.length + 1) w.heap.size w' v (sval na A - sval nb B) ∧ Below w.heap.size w w' := by
  go_enter Tryd.func95, Tryd.ntmps95
  go_wp2
  refine at_world (fun W => Below w.heap.size w W ∧ W.heap.size = w.heap.size + 3 ∧ Box2 W w.heap.size (.bool na) (.slice ao A.length ca) ∧ Box2 W (w.heap.size + 1) (.bool nb) (.slice bo B.length cb) ∧ Box2 W (w.heap.size + 2) (.bool false) (.slice none 0 0)) ?_ ?_
  · refine ⟨((((Below.refl _ _).alloc (Nat.le_refl _) _).alloc (by simp) _).alloc (by simp; omega) _), by simp, ((Box2.new _ _ _).old _).old _, ?_, ?_⟩
    · have := (Box2.new (w.alloc (.cells #[.bool na, .slice ao A.length ca] 46)) (.bool nb) (.slice bo B.length cb)).old (.cells #[.bool false, .slice none 0 0] 46)
      simpa using this
    · have := Box2.new ((w.alloc (.cells #[.bool na, .slice ao A.length ca] 46)).alloc (.cells #[.bool nb, .slice bo B.length cb] 46)) (.bool false) (.slice none 0 0)
      simpa using this
  rintro W0 ⟨hw0, hs0, x0, x1, x2⟩
  have hK : ∀ w', Below (w.heap.size + 2) W0 w' → Below (w.heap.size + 2) W0 w' ∧ w'.cell? ⟨w.heap.size, 0, none⟩ = some (.bool na) ∧ w'.cell? ⟨w.heap.size, 1, none⟩ = some (.slice ao A.length ca) ∧ w'.cell? ⟨w.heap.size + 1, 0, none⟩ = some (.bool nb) ∧ w'.cell? ⟨w.heap.size + 1, 1, none⟩ = some (.slice bo B.length cb) := fun w' h =>
    ⟨h, (x0.below h (by omega)).c0, (x0.below h (by omega)).c1, (x1.below h (by omega)).c0, (x1.below h (by omega)).c1⟩
  have HK := hide hK
  have HA := hide (hA.below hw0)
  have HB := hide (hB.below hw0)
  have X2 := hide x2
  have HW0 := hide hw0
  clear hK hA hB x0 x1 x2 hw0
  go_region_held3 (fun w' => Below (w.heap.size + 2) W0 w' ∧ w'.cell? ⟨w.heap.size, 0, none⟩ = some (.bool na) ∧ w'.cell? ⟨w.heap.size, 1, none⟩ = some (.slice ao A.length ca) ∧ w'.cell? ⟨w.heap.size + 1, 0, none⟩ = some (.bool nb) ∧ w'.cell? ⟨w.heap.size + 1, 1, none⟩ = some (.slice bo B.length cb))
    (first | exact unhide HK _ (Below.refl _ _).drew | exact unhide HK _ (by assumption) | exact unhide HK _ ((hB2.setCell (by simp) _).setCell (by simp) _))
    (first | (go_at_call 68; refine (refNeg_any nb bo cb B _ ((unhide HB).below ((Below.refl _ _).drew)) lb).mono ?_; rintro e w1 ⟨v, rfl, ⟨n1, a1, c1, L1, rfl, i1⟩, hb1⟩; have hB1 : Below (w.heap.size + 2) W0 w1 := ((Below.refl _ _).drew).trans (hb1.mono (by simp [hs0])); have X3 := hide ((unhide X2).drew.below hb1 (by simp [hs0])); have G1 := hide i1; have HA1 := hide ((unhide HA).below (((Below.refl _ _).drew).trans hb1)); have L4 : L1.length ≤ B.length := i1.2.2.2.2.2; have s1 := hb1.size; clear i1 hb1) | (go_at_call 107; refine (refAdd_any na n1 ao a1 ca c1 A L1 _ (unhide HA1) (unhide G1).1 la (by omega)).mono ?_; rintro e w2 ⟨v, rfl, ⟨n2, a2, c2, L2, rfl, i2⟩, hb2⟩; have hB2 : Below (w.heap.size + 2) W0 w2 := hB1.trans (hb2.mono (by simp at s1; omega)); have X4 := (unhide X3).below hb2 (by simp at s1; omega); have y0 := X4.c0; have y1 := X4.c1; have f0 := X4.free 0; have f1 := X4.free 1; have I1 := hide i2; clear i2 hb2 X4))
  have hz : sval na A + sval n1 L1 = sval na A - sval nb B := by
    have g := unhide G1
    rw [sval_IsNum g.2.2.2.1 g.2.2.2.2.1]; omega
  have HI := hide (hz ▸ unhide I1)
  clear hz
  go_wp2
  refine bodyPost_ret (v := .agg #[.bool n2, .slice a2 L2.length c2]) (by simp [results, Tryd.results95, go_sem, y0, y1]) rfl ⟨.agg #[.bool n2, .slice a2 L2.length c2], rfl, ?_, ?_⟩
  · exact (IsNumM.stored (unhide HI) (by simp at s1; simp; omega) (by simp at s1; simp; omega) (by simp at s1; omega) _ _).more (by omega)
  · exact (((unhide HW0).trans (hB2.mono (by omega))).setCell (by simp; omega) _).setCell (by simp; omega) _

end Go.Proofs.YtpaikdlhkdgkpaaDoor

/- Contract of bits.Len32. -/
namespace Go.Proofs.YtpaikdlhkdgkpaaDoor
open Go.RowKit

set_option maxHeartbeats 4000000 in
set_option maxRecDepth 100000 in
theorem len32_any (x : Int) (w : World) (h0 : 0 ≤ x) (h1 : x ≤ 4294967295) :
    Calls Tryd.prog 108 #[.int .u32 x] w fun e w' => e = .returned (.int .i64 (Lib.bitLen x.toNat)) ∧ w = w' := by
  rcases (show x < 256 ∨ (256 ≤ x ∧ x < 65536) ∨ (65536 ≤ x ∧ x < 16777216) ∨ 16777216 ≤ x by omega) with h | ⟨ha, hb⟩ | ⟨ha, hb⟩ | h
  · have hi := fun w => Lib.run_index_len8tab (P := Tryd.prog) w 9 .u8 (x) Tryd.underlying9 (by omega) (by omega)
    have l1 := Lib.len8_eq ⟨(x).toNat, by omega⟩
    have l2 := Lib.bitLen_le8 ⟨(x).toNat, by omega⟩
    have hl0 : 0 ≤ Lib.len8 (x) := by simp only [Int.toNat_of_nonneg (show 0 ≤ x by omega)] at l1; rw [l1]; omega
    have hl8 : Lib.len8 (x) ≤ 8 := by simp only [Int.toNat_of_nonneg (show 0 ≤ x by omega)] at l1; rw [l1]; simp only at l2; omega
    have HE : Hid (Lib.len8 (x) = (Lib.bitLen (x).toNat : Int)) := by unfold Hid; simp only [Int.toNat_of_nonneg (show 0 ≤ x by omega)] at l1; exact l1
    clear l1 l2
    go_enter Tryd.func108, Tryd.ntmps108
    go_wp2
    go_ret
    refine ⟨ret_int ?_, rfl⟩
    rw [HE.out]
  · have hi := fun w => Lib.run_index_len8tab (P := Tryd.prog) w 9 .u8 (x / 256) Tryd.underlying9 (by omega) (by omega)
    have l1 := Lib.len8_eq ⟨(x / 256).toNat, by omega⟩
    have l2 := Lib.bitLen_le8 ⟨(x / 256).toNat, by omega⟩
    have hl0 : 0 ≤ Lib.len8 (x / 256) := by simp only [Int.toNat_of_nonneg (show 0 ≤ x / 256 by omega)] at l1; rw [l1]; omega
    have hl8 : Lib.len8 (x / 256) ≤ 8 := by simp only [Int.toNat_of_nonneg (show 0 ≤ x / 256 by omega)] at l1; rw [l1]; simp only at l2; omega
    have HE : Hid (Lib.len8 (x / 256) = (Lib.bitLen (x / 256).toNat : Int)) := by unfold Hid; simp only [Int.toNat_of_nonneg (show 0 ≤ x / 256 by omega)] at l1; exact l1
    clear l1 l2
    go_enter Tryd.func108, Tryd.ntmps108
    go_wp2
    go_ret
    refine ⟨ret_int ?_, rfl⟩
    rw [HE.out]
    have s := Lib.bitLen_shift8 x.toNat (by omega) (by omega)
    rw [show (x / 256).toNat = x.toNat / 256 by omega]
    omega
  · have hi := fun w => Lib.run_index_len8tab (P := Tryd.prog) w 9 .u8 (x / 65536) Tryd.underlying9 (by omega) (by omega)
    have l1 := Lib.len8_eq ⟨(x / 65536).toNat, by omega⟩
    have l2 := Lib.bitLen_le8 ⟨(x / 65536).toNat, by omega⟩
    have hl0 : 0 ≤ Lib.len8 (x / 65536) := by simp only [Int.toNat_of_nonneg (show 0 ≤ x / 65536 by omega)] at l1; rw [l1]; omega
    have hl8 : Lib.len8 (x / 65536) ≤ 8 := by simp only [Int.toNat_of_nonneg (show 0 ≤ x / 65536 by omega)] at l1; rw [l1]; simp only at l2; omega
    have HE : Hid (Lib.len8 (x / 65536) = (Lib.bitLen (x / 65536).toNat : Int)) := by unfold Hid; simp only [Int.toNat_of_nonneg (show 0 ≤ x / 65536 by omega)] at l1; exact l1
    clear l1 l2
    go_enter Tryd.func108, Tryd.ntmps108
    go_wp2
    go_ret
    refine ⟨ret_int ?_, rfl⟩
    rw [HE.out]
    have s := Lib.bitLen_shift16 x.toNat (by omega) (by omega)
    rw [show (x / 65536).toNat = x.toNat / 65536 by omega]
    omega
  · have hi := fun w => Lib.run_index_len8tab (P := Tryd.prog) w 9 .u8 (x / 65536 / 256) Tryd.underlying9 (by omega) (by omega)
    have l1 := Lib.len8_eq ⟨(x / 65536 / 256).toNat, by omega⟩
    have l2 := Lib.bitLen_le8 ⟨(x / 65536 / 256).toNat, by omega⟩
    have hl0 : 0 ≤ Lib.len8 (x / 65536 / 256) := by simp only [Int.toNat_of_nonneg (show 0 ≤ x / 65536 / 256 by omega)] at l1; rw [l1]; omega
    have hl8 : Lib.len8 (x / 65536 / 256) ≤ 8 := by simp only [Int.toNat_of_nonneg (show 0 ≤ x / 65536 / 256 by omega)] at l1; rw [l1]; simp only at l2; omega
    have HE : Hid (Lib.len8 (x / 65536 / 256) = (Lib.bitLen (x / 65536 / 256).toNat : Int)) := by unfold Hid; simp only [Int.toNat_of_nonneg (show 0 ≤ x / 65536 / 256 by omega)] at l1; exact l1
    clear l1 l2
    go_enter Tryd.func108, Tryd.ntmps108
    go_wp2
    go_ret
    refine ⟨ret_int ?_, rfl⟩
    rw [HE.out]
    have s := Lib.bitLen_shift24 x.toNat (by omega) (by omega)
    rw [show (x / 65536 / 256).toNat = x.toNat / 16777216 by omega]
    omega

end Go.Proofs.YtpaikdlhkdgkpaaDoor

/- Contract of form. -/
namespace Go.Proofs.YtpaikdlhkdgkpaaDoor
open Go.RowKit

end Go.Proofs.YtpaikdlhkdgkpaaDoor

