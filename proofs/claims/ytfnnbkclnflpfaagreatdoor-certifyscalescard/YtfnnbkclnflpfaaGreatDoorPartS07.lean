/- Part 7 of the texts. -/
import Derived.Test.YtfnnbkclnflpfaaGreatDoorPartS06
import Derived.Test.YtfnnbkclnflpfaaGreatDoorPartS05
import Derived.Test.YtfnnbkclnflpfaaGreatDoorPartS02
import Derived.Lib.BitFns
import Derived.Test.YtfnnbkclnflpfaaGreatDoorPartS03
/- Contracts of Add, Sub. -/
namespace Go.Proofs.YtfnnbkclnflpfaaGreatDoor
open Go.RowKit

/-- What an operation answers: ok: are its numbers right; z: what it comes to. -/
def opErr (ok : Bool) (z : Int) : Int := if ok then errOf z else 1
def opNum (ok : Bool) (z : Int) : Int := if ok then numOf z else 0

theorem opErr_true (z : Int) : opErr true z = errOf z := by unfold opErr; rw [if_pos rfl]
theorem opNum_true (z : Int) : opNum true z = numOf z := by unfold opNum; rw [if_pos rfl]
theorem opErr_false (z : Int) : opErr false z = 1 := by unfold opErr; rw [if_neg (by decide)]
theorem opNum_false (z : Int) : opNum false z = 0 := by unfold opNum; rw [if_neg (by decide)]

theorem right_canon {neg : Bool} {L : List Nat} (h : rightB neg L = true) : L.length ≤ 512 ∧ Canon L ∧ (neg = true → L ≠ []) := by
  simp only [rightB, Bool.and_eq_true, decide_eq_true_eq, Bool.not_eq_true', Bool.and_eq_false_iff, decide_eq_false_iff_not, Bool.or_eq_true] at h
  obtain ⟨⟨h1, h2⟩, h3⟩ := h
  refine ⟨h1, ?_, ?_⟩
  · rcases h3 with h3 | h3
    · exact .inl (List.length_eq_zero_iff.1 h3)
    · exact .inr h3
  · rintro hn rfl
    rcases h2 with h2 | h2
    · simp at h2
    · rw [hn] at h2; cases h2

theorem sval_not (nb : Bool) (B : List Nat) : sval (!nb) B = - sval nb B := by unfold sval; cases nb <;> simp

set_option maxHeartbeats 400000 in
theorem add_any (na nb : Bool) (ao bo : Option Addr) (ca cb : Nat) (A B : List Nat) (w : World) (hA : LimbsAt w ao ca A) (hB : LimbsAt w bo cb B) (la : A.length ≤ 35184372088830) (lb : B.length ≤ 35184372088830) :
    Calls Tryz.prog 166 #[.agg #[.bool na, .slice ao A.length ca], .agg #[.bool nb, .slice bo B.length cb]] w fun e w' => ∃ v, e = .returned (.tuple #[v, .int .i64 (opErr (rightB na A && rightB nb B) (sval na A + sval nb B))]) ∧ IsNum w.heap.size w' v (opNum (rightB na A && rightB nb B) (sval na A + sval nb B)) ∧ Below w.heap.size w w' := by
  have hC : (rightB na A && rightB nb B) = true → Canon A ∧ Canon B := fun h => by
    simp only [Bool.and_eq_true] at h; exact ⟨(right_canon h.1).2.1, (right_canon h.2).2.1⟩
  have HC := hide hC
  have H2 := hide (show chk2 na A nb B = if (rightB na A && rightB nb B) then 0 else 1 from rfl)
  clear hC
  generalize hok : (rightB na A && rightB nb B) = ok at *
  clear hok
  go_enter Tryz.func166, Tryz.ntmps166
  go_wp2_with fail
  have hb0 : Below w.heap.size w (((w.alloc (.cells #[.bool na, .slice ao A.length ca] 27)).alloc (.cells #[.bool nb, .slice bo B.length cb] 27)).alloc (.cells #[.bool false, .slice none 0 0] 27)) :=
    (((Below.refl _ _).alloc (Nat.le_refl _) _).alloc (by simp) _).alloc (by simp; omega) _
  refine (checkBoth_any na nb ao bo ca cb A B _ (hA.below hb0) (hB.below hb0) la lb).mono ?_
  rintro e w1 ⟨rfl, hb1⟩
  have hs1 : w.heap.size + 3 ≤ w1.heap.size := by have := hb1.size; simpa using this
  have hb2 : Below w.heap.size w w1 := hb0.trans (hb1.mono (by simp; omega))
  have p0 : w1.cell? ⟨w.heap.size, 0, none⟩ = some (.bool na) := by rw [hb1.cell (p := ⟨w.heap.size, 0, none⟩) (by simp; omega)]; simp [go_sem]
  have p1 : w1.cell? ⟨w.heap.size, 1, none⟩ = some (.slice ao A.length ca) := by rw [hb1.cell (p := ⟨w.heap.size, 1, none⟩) (by simp; omega)]; simp [go_sem]
  have q0 : w1.cell? ⟨w.heap.size + 1, 0, none⟩ = some (.bool nb) := by rw [hb1.cell (p := ⟨w.heap.size + 1, 0, none⟩) (by simp)]; simp [go_sem]
  have q1 : w1.cell? ⟨w.heap.size + 1, 1, none⟩ = some (.slice bo B.length cb) := by rw [hb1.cell (p := ⟨w.heap.size + 1, 1, none⟩) (by simp)]; simp [go_sem]
  have r2 : Box2 w1 (w.heap.size + 2) (.bool false) (.slice none 0 0) := by
    have := Box2.new ((w.alloc (.cells #[.bool na, .slice ao A.length ca] 27)).alloc (.cells #[.bool nb, .slice bo B.length cb] 27)) (.bool false) (.slice none 0 0)
    exact Box2.below (by simpa using this) hb1 (by simp)
  rw [unhide H2]
  clear hb1 H2 hb0
  cases ok
  · simp only [Bool.false_eq_true, if_false]
    have y0 := r2.c0; have y1 := r2.c1; have f0 := r2.free 0; have f1 := r2.free 1
    go_wp2
    refine bodyPost_ret (v := .tuple #[.agg #[.bool false, .slice none 0 0], .int .i64 1]) (by simp [results, Tryz.results166, go_sem, y0, y1]) rfl ⟨.agg #[.bool false, .slice none 0 0], by rw [opErr_false], by rw [opNum_false]; exact IsNum.zero _ _ _ _, ?_⟩
    exact (hb2.setCell (by simp; omega) _).setCell (by simp; omega) _
  · obtain ⟨cA, cB⟩ := unhide HC rfl
    have CA := hide cA
    have CB := hide cB
    clear cA cB
    simp only [if_true]
    go_wp2_with fail
    refine (addSigned_any na nb ao bo ca cb A B _ (hA.below hb2) (hB.below hb2) la lb (unhide CA) (unhide CB)).mono ?_
    rintro e w2 ⟨v, rfl, ⟨n2, a2, c2, L2, rfl, i1⟩, hb3⟩
    have r3 := r2.below hb3 (by omega)
    have y0 := r3.c0; have y1 := r3.c1; have f0 := r3.free 0; have f1 := r3.free 1
    have I1 := hide i1
    have hb4 := hb2.trans (hb3.mono hb2.size)
    clear i1
    go_wp2
    refine bodyPost_ret (v := .tuple #[.agg #[.bool n2, .slice a2 L2.length c2], .int .i64 (errOf (sval na A + sval nb B))]) (by simp [results, Tryz.results166, go_sem, y0, y1]) rfl ⟨.agg #[.bool n2, .slice a2 L2.length c2], by rw [opErr_true], ?_, ?_⟩
    · rw [opNum_true]; exact IsNum.stored (unhide I1) (by simp; omega) (by simp; omega) (by omega) _ _
    · exact (hb4.setCell (by simp; omega) _).setCell (by simp; omega) _

end Go.Proofs.YtfnnbkclnflpfaaGreatDoor

/- Contract of Sub. -/
namespace Go.Proofs.YtfnnbkclnflpfaaGreatDoor
open Go.RowKit

set_option maxHeartbeats 400000 in
theorem sub_any (na nb : Bool) (ao bo : Option Addr) (ca cb : Nat) (A B : List Nat) (w : World) (hA : LimbsAt w ao ca A) (hB : LimbsAt w bo cb B) (la : A.length ≤ 35184372088830) (lb : B.length ≤ 35184372088830) :
    Calls Tryz.prog 183 #[.agg #[.bool na, .slice ao A.length ca], .agg #[.bool nb, .slice bo B.length cb]] w fun e w' => ∃ v, e = .returned (.tuple #[v, .int .i64 (opErr (rightB na A && rightB nb B) (sval na A - sval nb B))]) ∧ IsNum w.heap.size w' v (opNum (rightB na A && rightB nb B) (sval na A - sval nb B)) ∧ Below w.heap.size w w' := by
  have hC : (rightB na A && rightB nb B) = true → Canon A ∧ Canon B := fun h => by
    simp only [Bool.and_eq_true] at h; exact ⟨(right_canon h.1).2.1, (right_canon h.2).2.1⟩
  have HC := hide hC
  have H2 := hide (show chk2 na A nb B = if (rightB na A && rightB nb B) then 0 else 1 from rfl)
  clear hC
  generalize hok : (rightB na A && rightB nb B) = ok at *
  clear hok
  go_enter Tryz.func183, Tryz.ntmps183
  go_wp2_with fail
  have hb0 : Below w.heap.size w (((w.alloc (.cells #[.bool na, .slice ao A.length ca] 27)).alloc (.cells #[.bool nb, .slice bo B.length cb] 27)).alloc (.cells #[.bool false, .slice none 0 0] 27)) :=
    (((Below.refl _ _).alloc (Nat.le_refl _) _).alloc (by simp) _).alloc (by simp; omega) _
  refine (checkBoth_any na nb ao bo ca cb A B _ (hA.below hb0) (hB.below hb0) la lb).mono ?_
  rintro e w1 ⟨rfl, hb1⟩
  have hs1 : w.heap.size + 3 ≤ w1.heap.size := by have := hb1.size; simpa using this
  have hb2 : Below w.heap.size w w1 := hb0.trans (hb1.mono (by simp; omega))
  have p0 : w1.cell? ⟨w.heap.size, 0, none⟩ = some (.bool na) := by rw [hb1.cell (p := ⟨w.heap.size, 0, none⟩) (by simp; omega)]; simp [go_sem]
  have p1 : w1.cell? ⟨w.heap.size, 1, none⟩ = some (.slice ao A.length ca) := by rw [hb1.cell (p := ⟨w.heap.size, 1, none⟩) (by simp; omega)]; simp [go_sem]
  have q0 : w1.cell? ⟨w.heap.size + 1, 0, none⟩ = some (.bool nb) := by rw [hb1.cell (p := ⟨w.heap.size + 1, 0, none⟩) (by simp)]; simp [go_sem]
  have q1 : w1.cell? ⟨w.heap.size + 1, 1, none⟩ = some (.slice bo B.length cb) := by rw [hb1.cell (p := ⟨w.heap.size + 1, 1, none⟩) (by simp)]; simp [go_sem]
  have r2 : Box2 w1 (w.heap.size + 2) (.bool false) (.slice none 0 0) := by
    have := Box2.new ((w.alloc (.cells #[.bool na, .slice ao A.length ca] 27)).alloc (.cells #[.bool nb, .slice bo B.length cb] 27)) (.bool false) (.slice none 0 0)
    exact Box2.below (by simpa using this) hb1 (by simp)
  have q2 : Box2 w1 (w.heap.size + 1) (.bool nb) (.slice bo B.length cb) := by
    have := (Box2.new (w.alloc (.cells #[.bool na, .slice ao A.length ca] 27)) (.bool nb) (.slice bo B.length cb)).old (.cells #[.bool false, .slice none 0 0] 27)
    exact Box2.below (by simpa using this) hb1 (by simp)
  rw [unhide H2]
  clear hb1 H2 hb0
  cases ok
  · simp only [Bool.false_eq_true, if_false]
    have y0 := r2.c0; have y1 := r2.c1; have f0 := r2.free 0; have f1 := r2.free 1
    go_wp2
    refine bodyPost_ret (v := .tuple #[.agg #[.bool false, .slice none 0 0], .int .i64 1]) (by simp [results, Tryz.results183, go_sem, y0, y1]) rfl ⟨.agg #[.bool false, .slice none 0 0], by rw [opErr_false], by rw [opNum_false]; exact IsNum.zero _ _ _ _, ?_⟩
    exact (hb2.setCell (by simp; omega) _).setCell (by simp; omega) _
  · obtain ⟨cA, cB⟩ := unhide HC rfl
    have CA := hide cA
    have CB := hide cB
    clear cA cB
    simp only [if_true]
    have fq := q2.free 0
    have hb2' : Below w.heap.size w (w1.setCell ⟨w.heap.size + 1, 0, none⟩ (.bool !nb)) := hb2.setCell (by simp) _
    have r2' : Box2 (w1.setCell ⟨w.heap.size + 1, 0, none⟩ (.bool !nb)) (w.heap.size + 2) (.bool false) (.slice none 0 0) := by
      unfold Box2; rw [Below.heap_setCell _ _ _ _ (by simp)]; exact r2
    go_wp2_with fail
    refine (addSigned_any na (!nb) ao bo ca cb A B _ (hA.below hb2') (hB.below hb2') la lb (unhide CA) (unhide CB)).mono ?_
    rw [show sval na A + sval (!nb) B = sval na A - sval nb B by rw [sval_not]; omega]
    rintro e w2 ⟨v, rfl, ⟨n2, a2, c2, L2, rfl, i1⟩, hb3⟩
    have r3 := r2'.below hb3 (by simp; omega)
    have hb4 := hb2'.trans (hb3.mono hb2'.size)
    have y0 := r3.c0; have y1 := r3.c1; have f0 := r3.free 0; have f1 := r3.free 1
    have I1 := hide i1
    clear i1
    go_wp2
    refine bodyPost_ret (v := .tuple #[.agg #[.bool n2, .slice a2 L2.length c2], .int .i64 (errOf (sval na A - sval nb B))]) (by simp [results, Tryz.results183, go_sem, y0, y1]) rfl ⟨.agg #[.bool n2, .slice a2 L2.length c2], by rw [opErr_true], ?_, ?_⟩
    · rw [opNum_true]; exact IsNum.stored (unhide I1) (by simp; omega) (by simp; omega) (by simp; omega) _ _
    · exact (hb4.setCell (by simp; omega) _).setCell (by simp; omega) _

end Go.Proofs.YtfnnbkclnflpfaaGreatDoor

/- Contracts of the reference's Neg, Sub, Compare. -/
namespace Go.Proofs.YtfnnbkclnflpfaaGreatDoor
open Go.RowKit
attribute [local go_sem ↓] Go.wp_at_zero Go.wp_at_succ

theorem LimbsAt.box {w : World} {ao : Option Addr} {cap g : Nat} {L : List Nat} (h : LimbsAt w ao cap L) {x : Bool} {a : Option Addr} {n c : Nat} (hx : Box2 w g (.bool x) (.slice a n c)) (u u' : Value) :
    LimbsAt ((w.setCell ⟨g, 0, none⟩ u).setCell ⟨g, 1, none⟩ u') ao cap L := by
  refine ⟨h.1, h.2.1, ?_⟩
  rcases h.2.2 with h0 | ⟨b, off, h1, h2, h3⟩
  · exact .inl h0
  · by_cases he : L = []
    · exact .inl he
    · have hp : 0 < L.length := List.length_pos_iff.2 he
      have hne : b ≠ g := by
        rintro rfl
        have h4 := h3 0 hp
        rw [cell_of_row w b (off + 0) _ _ _ hx] at h4
        rcases (show off = 0 ∨ off = 1 ∨ 2 ≤ off by omega) with e | e | e
        · subst e; simp at h4
        · subst e; simp at h4
        · rw [Array.getElem?_eq_none (by simp; omega)] at h4; simp at h4
      refine .inr ⟨b, off, h1, by simpa [World.setCell] using h2, fun i hi => ?_⟩
      rw [cell_setCell_other _ _ _ _ (by simpa using hne), cell_setCell_other _ _ _ _ (by simpa using hne)]
      exact h3 i hi

set_option maxHeartbeats 400000 in
theorem refNeg_any (nb : Bool) (bo : Option Addr) (cb : Nat) (B : List Nat) (w : World) (hB : LimbsAt w bo cb B) (lb : B.length ≤ 35184372088830) :
    Calls Tryz.prog 98 #[.agg #[.bool nb, .slice bo B.length cb]] w fun e w' => ∃ v, e = .returned v ∧ IsNumM B.length 0 w' v (- sval nb B) ∧ Below w.heap.size w w' := by
  have HZ := hide (sval_not nb B)
  go_enter Tryz.func98, Tryz.ntmps98
  go_wp2_with fail
  have hb0 : Below w.heap.size w ((w.alloc (.cells #[.bool nb, .slice bo B.length cb] 27)).alloc (.cells #[.bool false, .slice none 0 0] 27)) := ((Below.refl _ _).alloc (Nat.le_refl _) _).alloc (by simp) _
  refine (made_any 0 (!nb) bo cb B _ (hB.below hb0) (NewAt.zero hB) (by omega)).mono ?_
  rw [unhide HZ]
  rintro e w1 ⟨v, rfl, ⟨n2, a2, c2, L2, rfl, i1⟩, hb1⟩
  have r1 : Box2 w1 (w.heap.size + 1) (.bool false) (.slice none 0 0) := by
    have := Box2.new (w.alloc (.cells #[.bool nb, .slice bo B.length cb] 27)) (.bool false) (.slice none 0 0)
    exact Box2.below (by simpa using this) hb1 (by simp)
  have y0 := r1.c0; have y1 := r1.c1; have f0 := r1.free 0; have f1 := r1.free 1
  have I1 := hide i1
  have R1 := hide r1
  have HB1 := hide (hb0.trans (hb1.mono (by simp; omega)))
  clear i1 hb1 hb0 r1
  go_wp2
  refine bodyPost_ret (v := .agg #[.bool n2, .slice a2 L2.length c2]) (by simp [results, Tryz.results98, go_sem, y0, y1]) rfl ⟨.agg #[.bool n2, .slice a2 L2.length c2], rfl, ?_, ?_⟩
  · exact ⟨n2, a2, c2, L2, rfl, (unhide I1).1.box (unhide R1) _ _, (unhide I1).2⟩
  · exact ((unhide HB1).setCell (by simp) _).setCell (by simp) _

end Go.Proofs.YtfnnbkclnflpfaaGreatDoor

/- Contracts of Len, Compare, and the reference's Len, Compare; of form. -/
namespace Go.Proofs.YtfnnbkclnflpfaaGreatDoor
open Go.RowKit

theorem bitLen_fuel : ∀ (f x : Nat), x < 2 ^ f → Lib.bitLenAux (f + 1) x = Lib.bitLenAux f x
  | 0, x, h => by simp at h; subst h; rfl
  | f + 1, x, h => by
    have ih := bitLen_fuel f (x / 2) (by rw [Nat.pow_succ] at h; omega)
    have e1 : Lib.bitLenAux (f + 1 + 1) x = if x = 0 then 0 else 1 + Lib.bitLenAux (f + 1) (x / 2) := rfl
    have e2 : Lib.bitLenAux (f + 1) x = if x = 0 then 0 else 1 + Lib.bitLenAux f (x / 2) := rfl
    rw [e1, e2, ih]

theorem bitLen_half (t : Nat) (h0 : 0 < t) (h : t < 4294967296) : Lib.bitLen t = 1 + Lib.bitLen (t / 2) := by
  have e1 : Lib.bitLen t = 1 + Lib.bitLenAux 63 (t / 2) := by
    unfold Lib.bitLen
    rw [Lib.bitLenAux, if_neg (by omega)]
  rw [e1]
  unfold Lib.bitLen
  rw [← bitLen_fuel 63 (t / 2) (by omega)]
theorem bitLen_zero : Lib.bitLen 0 = 0 := rfl
theorem bitLen_le (t : Nat) : Lib.bitLen t ≤ 64 := by
  have : ∀ f x, Lib.bitLenAux f x ≤ f := by
    intro f
    induction f with
    | zero => intro x; simp [Lib.bitLenAux]
    | succ f ih => intro x; rw [Lib.bitLenAux]; split; omega; have := ih (x / 2); omega
  exact this 64 t

/-- How many bits limbs have, the last being the topmost. -/
def lenL (L : List Nat) : Int := if L.length = 0 then 0 else 32 * ((L.length : Int) - 1) + (Lib.bitLen (L[L.length - 1]?.getD 0) : Int)

set_option maxHeartbeats 400000 in
theorem refLen_any (neg : Bool) (ao : Option Addr) (cap : Nat) (L : List Nat) (w : World) (h : LimbsAt w ao cap L) (hl : L.length ≤ 35184372088830) :
    Calls Tryz.prog 144 #[.agg #[.bool neg, .slice ao L.length cap]] w fun e w' => e = .returned (.int .i64 (lenL L)) ∧ Below w.heap.size w w' := by
  by_cases h0 : L = []
  · subst h0
    go_enter Tryz.func144, Tryz.ntmps144
    go_wp2
    go_ret
    exact ⟨ret_int (by simp [lenL]), (Below.refl _ _).alloc (Nat.le_refl _) _⟩
  obtain ⟨b, off, rfl, hb, hc⟩ := h.ne (List.length_pos_iff.2 h0)
  have hp : 0 < L.length := List.length_pos_iff.2 h0
  have hc1 := hc (L.length - 1) (by omega)
  have hx := h.lt (L.length - 1)
  have HE : Hid (lenL L = 32 * ((L.length : Int) - 1) + (Lib.bitLen (L[L.length - 1]?.getD 0) : Int)) := by unfold Hid lenL; rw [if_neg (by omega)]
  generalize lenL L = r at *
  generalize hn : L.length = n at *
  generalize L[n - 1]?.getD 0 = x at *
  clear hn h hc h0
  have hbx := bitLen_le x
  have hne : ((n : Int) == 0) = false := by simp; omega
  go_enter Tryz.func144, Tryz.ntmps144
  go_wp2
  go_loop [3, 4] (fun m t => ∃ (k y : Nat), m = .int .i64 (32 * ((n : Int) - 1) + (k : Int)) ∧ t = .int .u32 (y : Int) ∧ y < 4294967296 ∧ k ≤ 64 ∧ Hid (k + Lib.bitLen y = Lib.bitLen x)) (fun _ t => (intOf t).toNat)
  case atStart => exact ⟨0, x, int_eq (by omega), rfl, hx, by omega, by unfold Hid; omega⟩
  case round =>
    obtain ⟨k, y, rfl, rfl, hy, hk, hv⟩ := hrel
    by_cases hy0 : y = 0
    · subst hy0
      have hv' := hv.out
      rw [bitLen_zero] at hv'
      have HV := hide hv'
      clear hv' hv
      go_wp2
      go_ret
      exact ⟨ret_int (by rw [HE.out]; have := unhide HV; omega), (Below.refl _ _).alloc (Nat.le_refl _) _⟩
    · have hh := bitLen_half y (by omega) hy
      have hv' := hv.out
      have HV := hide (show k + 1 + Lib.bitLen (y / 2) = Lib.bitLen x by omega)
      have hk' : k + 1 ≤ 64 := by omega
      clear hh hv' hv
      go_wp2
      go_round
      case rel => exact ⟨k + 1, y / 2, int_eq (by omega), int_eq (by omega), by omega, hk', unhide HV⟩
      case measure => simp [intOf]; omega

end Go.Proofs.YtfnnbkclnflpfaaGreatDoor

/- Contract of Shift. -/
namespace Go.Proofs.YtfnnbkclnflpfaaGreatDoor
open Go.RowKit
attribute [local go_sem ↓] Go.wp_at_zero Go.wp_at_succ

/-- A size with a sign. -/
def sg (neg : Bool) (v : Nat) : Int := if neg then -(v : Int) else (v : Int)
theorem sval_sg (neg : Bool) (L : List Nat) : sval neg L = sg neg (val L) := rfl
/-- A number times 2^n, without what is behind the point. -/
def shV (neg : Bool) (L : List Nat) (n : Int) : Int := sg neg (if 0 ≤ n then val L * 2 ^ n.toNat else val L / 2 ^ (-n).toNat)
def shOk (neg : Bool) (L : List Nat) (n : Int) : Bool := rightB neg L && decide (-16384 ≤ n ∧ n ≤ 16384)
def shE (neg : Bool) (L : List Nat) (n : Int) : Int := if shOk neg L n then errOf (shV neg L n) else if rightB neg L then 2 else 1
def shN (neg : Bool) (L : List Nat) (n : Int) : Int := if shOk neg L n then numOf (shV neg L n) else 0

theorem shV_up (neg : Bool) (A L : List Nat) (l p : Nat) (n : Int) (hn : n = 32 * (l : Int) + (p : Int)) (h : val L = 4294967296 ^ l * 2 ^ p * val A) : sval neg L = shV neg A n := by
  rw [sval_sg, h, two_pow_32]
  unfold shV
  rw [if_pos (by omega), show n.toNat = 32 * l + p by omega, Nat.mul_comm]
theorem shV_down (neg : Bool) (A L : List Nat) (l p : Nat) (n : Int) (h0 : n < 0) (hn : -n = 32 * (l : Int) + (p : Int)) (h : val L = val A / (4294967296 ^ l * 2 ^ p)) : sval neg L = shV neg A n := by
  rw [sval_sg, h, two_pow_32]
  unfold shV
  rw [if_neg (by omega), show (-n).toNat = 32 * l + p by omega]

set_option maxHeartbeats 2000000 in
theorem shift_any (na : Bool) (ao : Option Addr) (ca : Nat) (A : List Nat) (n : Int) (w : World) (hA : LimbsAt w ao ca A) (la : A.length ≤ 35184372088830) (bn : -9223372036854775808 ≤ n ∧ n ≤ 9223372036854775807) :
    Calls Tryz.prog 110 #[.agg #[.bool na, .slice ao A.length ca], .int .i64 n] w fun e w' => ∃ v, e = .returned (.tuple #[v, .int .i64 (shE na A n)]) ∧ IsNum w.heap.size w' v (shN na A n) ∧ Below w.heap.size w w' := by
  have hC1 : rightB na A = false → chkE na A = 1 ∧ shE na A n = 1 ∧ shN na A n = 0 := fun h => by simp [chkE, shE, shN, shOk, h]
  have hC2 : rightB na A = true → ¬ (-16384 ≤ n ∧ n ≤ 16384) → chkE na A = 0 ∧ shE na A n = 2 ∧ shN na A n = 0 := fun h h' => by simp only [chkE, shE, shN, shOk, h, decide_eq_false h']; simp
  have hC3 : rightB na A = true → (-16384 ≤ n ∧ n ≤ 16384) → chkE na A = 0 ∧ A.length ≤ 512 ∧ shE na A n = errOf (shV na A n) ∧ shN na A n = numOf (shV na A n) := fun h h' => by
    refine ⟨by simp [chkE, h], (right_canon h).1, ?_, ?_⟩
    · unfold shE shOk; rw [h, decide_eq_true h', Bool.and_self, if_pos rfl]
    · unfold shN shOk; rw [h, decide_eq_true h', Bool.and_self, if_pos rfl]
  have hUp := fun (L : List Nat) (l p : Nat) => shV_up na A L l p n
  have hDn := fun (L : List Nat) (l p : Nat) => shV_down na A L l p n
  have HC1 := hide hC1; have HC2 := hide hC2; have HC3 := hide hC3; have HUp := hide hUp; have HDn := hide hDn
  have hck := fun w' h' => check_any na ao ca A w' h' la
  have HCK := hide hck
  clear hC1 hC2 hC3 hUp hDn hck
  generalize shV na A n = z at *
  generalize shE na A n = er at *
  generalize shN na A n = nu at *
  generalize chkE na A = ck at *
  generalize rightB na A = rb at *
  go_enter Tryz.func110, Tryz.ntmps110
  go_wp2_with fail
  have hb0 : Below w.heap.size w ((w.alloc (.cells #[.bool na, .slice ao A.length ca] 27)).alloc (.cells #[.bool false, .slice none 0 0] 27)) := ((Below.refl _ _).alloc (Nat.le_refl _) _).alloc (by simp) _
  refine (unhide HCK _ (hA.below hb0)).mono ?_
  rintro e w1 ⟨rfl, hb1⟩
  have hs1 : w.heap.size + 2 ≤ w1.heap.size := by have := hb1.size; simpa using this
  have hb2 : Below w.heap.size w w1 := hb0.trans (hb1.mono (by simp; omega))
  have x0 : Box2 w1 w.heap.size (.bool na) (.slice ao A.length ca) := ((Box2.new _ _ _).old _).below hb1 (by simp; omega)
  have r2 : Box2 w1 (w.heap.size + 1) (.bool false) (.slice none 0 0) := by
    have := Box2.new (w.alloc (.cells #[.bool na, .slice ao A.length ca] 27)) (.bool false) (.slice none 0 0)
    exact Box2.below (by simpa using this) hb1 (by simp)
  have p0 := x0.c0; have p1 := x0.c1
  clear hb1 hb0 HCK
  cases rb
  · obtain ⟨c1, c2, c3⟩ := unhide HC1 rfl
    have HT := hide (And.intro c2 c3)
    rw [c1]
    have y0 := r2.c0; have y1 := r2.c1; have f0 := r2.free 0; have f1 := r2.free 1
    clear HC1 HC2 HC3 HUp HDn c1 c2 c3
    go_wp2
    refine bodyPost_ret (v := .tuple #[.agg #[.bool false, .slice none 0 0], .int .i64 1]) (by simp [results, Tryz.results110, go_sem, y0, y1]) rfl ⟨.agg #[.bool false, .slice none 0 0], by rw [(unhide HT).1], by rw [(unhide HT).2]; exact IsNum.zero _ _ _ _, ?_⟩
    exact (hb2.setCell (by simp) _).setCell (by simp) _
  by_cases hin : -16384 ≤ n ∧ n ≤ 16384
  case neg =>
    obtain ⟨c1, c2, c3⟩ := unhide HC2 rfl hin
    have HT := hide (And.intro c2 c3)
    rw [c1]
    have y0 := r2.c0; have y1 := r2.c1; have f0 := r2.free 0; have f1 := r2.free 1
    clear HC1 HC2 HC3 HUp HDn c1 c2 c3
    rcases (show n < -16384 ∨ (¬ n < -16384 ∧ 16384 < n) by omega) with hx | ⟨hx, hx'⟩
    all_goals
      go_wp2
      refine bodyPost_ret (v := .tuple #[.agg #[.bool false, .slice none 0 0], .int .i64 2]) (by simp [results, Tryz.results110, go_sem, y0, y1]) rfl ⟨.agg #[.bool false, .slice none 0 0], by rw [(unhide HT).1], by rw [(unhide HT).2]; exact IsNum.zero _ _ _ _, ?_⟩
      exact (hb2.setCell (by simp) _).setCell (by simp) _
  obtain ⟨c1, c4, c2, c3⟩ := unhide HC3 rfl hin
  have HT := hide (And.intro c2 c3)
  rw [c1]
  obtain ⟨hn1, hn2⟩ := hin
  clear HC1 HC2 HC3 c1 c2 c3
  by_cases hneg : n < 0
  · obtain ⟨l, hl⟩ : ∃ l : Nat, (l : Int) = (-n) / 32 := ⟨((-n) / 32).toNat, by omega⟩
    obtain ⟨p, hp⟩ : ∃ p : Nat, (p : Int) = (-n) % 32 := ⟨((-n) % 32).toNat, by omega⟩
    have q1 : -n = 32 * (l : Int) + (p : Int) := by omega
    have HSV := hide (fun L h => unhide HDn L l p hneg q1 h)
    have q2 : p ≤ 31 := by omega
    have q3 : l ≤ 512 := by omega
    have q4 : n = -(32 * (l : Int) + (p : Int)) := by omega
    have Q4 := hide q4
    have hwn : IntKind.i64.wrap (-n) = -n := by
      simp only [IntKind.wrap, IntKind.signed, IntKind.bits]
      simp
      omega
    clear HUp HDn hl hp q1 q4
    go_wp2
    refine at_world (fun W => W = w1) rfl ?_
    rintro W0 e0
    subst e0
    have hK : ∀ w', Below (w.heap.size + 1) W0 w' → Below (w.heap.size + 1) W0 w' ∧ w'.cell? ⟨w.heap.size, 0, none⟩ = some (.bool na) ∧ w'.cell? ⟨w.heap.size, 1, none⟩ = some (.slice ao A.length ca) := fun w' h =>
      ⟨h, (x0.below h (by omega)).c0, (x0.below h (by omega)).c1⟩
    have HK := hide hK
    have HA := hide (hA.below hb2)
    have X2 := hide r2
    have HW0 := hide hb2
    clear hK hA x0 r2 hb2 p0 p1
    go_region_held3 (fun w' => Below (w.heap.size + 1) W0 w' ∧ w'.cell? ⟨w.heap.size, 0, none⟩ = some (.bool na) ∧ w'.cell? ⟨w.heap.size, 1, none⟩ = some (.slice ao A.length ca))
      (first | exact unhide HK _ (Below.refl _ _).drew | exact unhide HK _ (by assumption) | exact unhide HK _ ((hB2.setCell (by simp) _).setCell (by simp) _))
      (first | (go_at_call 154; refine (shiftDown_any ao ca A l p _ _ ((unhide HA).below ((Below.refl _ _).drew)) (by omega) (by have := unhide Q4; omega) (by omega) (by omega)).mono ?_; rintro e w3 ⟨ao', cap', L', rfl, g1, g2, g3, g4, hb1⟩; have hB1 : Below (w.heap.size + 1) W0 w3 := ((Below.refl _ _).drew).trans (hb1.mono (by simp; omega)); have X3 := hide ((unhide X2).drew.below hb1 (by simp; omega)); have G1 := hide g1; have G2 := hide g2; have G4 := hide g4; have L4 : L'.length ≤ 35184372088832 := (by omega); have s1 := hb1.size; clear g1 g2 g4 g3 hb1) | (go_at_call 153; refine (fit_any _ na _ _ _ _ (unhide G1) (unhide G2) L4).mono ?_; rintro e w4 ⟨v, rfl, ⟨n2, a2, c2, L2, rfl, i1⟩, hb2⟩; have hB2 : Below (w.heap.size + 1) W0 w4 := hB1.trans (hb2.mono (by simp at s1; omega)); have X4 := (unhide X3).below hb2 (by simp at s1; omega); have y0 := X4.c0; have y1 := X4.c1; have f0 := X4.free 0; have f1 := X4.free 1; have I1 := hide i1; clear i1 hb2 X4))
    have hz := unhide HSV L' (unhide G4)
    have HI := hide (hz ▸ unhide I1)
    have HE := hide (show errOf (sval na L') = errOf z by rw [hz])
    clear hz
    go_wp2
    refine bodyPost_ret (v := .tuple #[.agg #[.bool n2, .slice a2 L2.length c2], .int .i64 (errOf (sval na L'))]) (by simp [results, Tryz.results110, go_sem, y0, y1]) rfl ⟨.agg #[.bool n2, .slice a2 L2.length c2], ?_, ?_, ?_⟩
    · rw [(unhide HT).1, unhide HE]
    · rw [(unhide HT).2]; exact IsNum.stored (unhide HI) (by simp; omega) (by simp; omega) (by simp; omega) _ _
    · exact (((unhide HW0).trans (hB2.mono (by omega))).setCell (by simp) _).setCell (by simp) _
  · obtain ⟨l, hl⟩ : ∃ l : Nat, (l : Int) = n / 32 := ⟨(n / 32).toNat, by omega⟩
    obtain ⟨p, hp⟩ : ∃ p : Nat, (p : Int) = n % 32 := ⟨(n % 32).toNat, by omega⟩
    have q1 : n = 32 * (l : Int) + (p : Int) := by omega
    have HSV := hide (fun L h => unhide HUp L l p q1 h)
    have q2 : p ≤ 31 := by omega
    have q3 : l ≤ 512 := by omega
    have Q4 := hide q1
    clear HUp HDn hl hp q1
    go_wp2
    refine at_world (fun W => W = w1) rfl ?_
    rintro W0 e0
    subst e0
    have hK : ∀ w', Below (w.heap.size + 1) W0 w' → Below (w.heap.size + 1) W0 w' ∧ w'.cell? ⟨w.heap.size, 0, none⟩ = some (.bool na) ∧ w'.cell? ⟨w.heap.size, 1, none⟩ = some (.slice ao A.length ca) := fun w' h =>
      ⟨h, (x0.below h (by omega)).c0, (x0.below h (by omega)).c1⟩
    have HK := hide hK
    have HA := hide (hA.below hb2)
    have X2 := hide r2
    have HW0 := hide hb2
    clear hK hA x0 r2 hb2 p0 p1
    go_region_held3 (fun w' => Below (w.heap.size + 1) W0 w' ∧ w'.cell? ⟨w.heap.size, 0, none⟩ = some (.bool na) ∧ w'.cell? ⟨w.heap.size, 1, none⟩ = some (.slice ao A.length ca))
      (first | exact unhide HK _ (Below.refl _ _).drew | exact unhide HK _ (by assumption) | exact unhide HK _ ((hB2.setCell (by simp) _).setCell (by simp) _))
      (first | (go_at_call 155; refine (shiftUp_any ao ca A l p _ _ ((unhide HA).below ((Below.refl _ _).drew)) (by omega) (by have := unhide Q4; omega) (by omega) (by omega)).mono ?_; rintro e w3 ⟨ao', cap', L', rfl, g1, g2, g3, g4, hb1⟩; have hB1 : Below (w.heap.size + 1) W0 w3 := ((Below.refl _ _).drew).trans (hb1.mono (by simp; omega)); have X3 := hide ((unhide X2).drew.below hb1 (by simp; omega)); have G1 := hide g1; have G2 := hide g2; have G4 := hide g4; have L4 : L'.length ≤ 35184372088832 := (by omega); have s1 := hb1.size; clear g1 g2 g4 g3 hb1) | (go_at_call 153; refine (fit_any _ na _ _ _ _ (unhide G1) (unhide G2) L4).mono ?_; rintro e w4 ⟨v, rfl, ⟨n2, a2, c2, L2, rfl, i1⟩, hb2⟩; have hB2 : Below (w.heap.size + 1) W0 w4 := hB1.trans (hb2.mono (by simp at s1; omega)); have X4 := (unhide X3).below hb2 (by simp at s1; omega); have y0 := X4.c0; have y1 := X4.c1; have f0 := X4.free 0; have f1 := X4.free 1; have I1 := hide i1; clear i1 hb2 X4))
    have hz := unhide HSV L' (unhide G4)
    have HI := hide (hz ▸ unhide I1)
    have HE := hide (show errOf (sval na L') = errOf z by rw [hz])
    clear hz
    go_wp2
    refine bodyPost_ret (v := .tuple #[.agg #[.bool n2, .slice a2 L2.length c2], .int .i64 (errOf (sval na L'))]) (by simp [results, Tryz.results110, go_sem, y0, y1]) rfl ⟨.agg #[.bool n2, .slice a2 L2.length c2], ?_, ?_, ?_⟩
    · rw [(unhide HT).1, unhide HE]
    · rw [(unhide HT).2]; exact IsNum.stored (unhide HI) (by simp; omega) (by simp; omega) (by simp; omega) _ _
    · exact (((unhide HW0).trans (hB2.mono (by omega))).setCell (by simp) _).setCell (by simp) _

end Go.Proofs.YtfnnbkclnflpfaaGreatDoor

