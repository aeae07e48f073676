/- Contract of Sub. -/
import Derived.Test.YtiebegjgaflfiaaWB
namespace Go.Proofs.Ytiebegjgaflfiaa
open Go.RowKit

set_option maxHeartbeats 400000 in
theorem sub_any (na nb : Bool) (ao bo : Option Addr) (ca cb : Nat) (A B : List Nat) (w : World) (hA : LimbsAt w ao ca A) (hB : LimbsAt w bo cb B) (la : A.length ≤ 35184372088830) (lb : B.length ≤ 35184372088830) :
    Calls Try.prog 14 #[.agg #[.bool na, .slice ao A.length ca], .agg #[.bool nb, .slice bo B.length cb]] w fun e w' => ∃ v, e = .returned (.tuple #[v, .int .i64 (opErr (rightB na A && rightB nb B) (sval na A - sval nb B))]) ∧ IsNum w.heap.size w' v (opNum (rightB na A && rightB nb B) (sval na A - sval nb B)) ∧ Below w.heap.size w w' := by
  have hC : (rightB na A && rightB nb B) = true → Canon A ∧ Canon B := fun h => by
    simp only [Bool.and_eq_true] at h; exact ⟨(right_canon h.1).2.1, (right_canon h.2).2.1⟩
  have HC := hide hC
  have H2 := hide (show chk2 na A nb B = if (rightB na A && rightB nb B) then 0 else 1 from rfl)
  clear hC
  generalize hok : (rightB na A && rightB nb B) = ok at *
  clear hok
  go_enter Try.func14, Try.ntmps14
  go_wp2_with fail
  have hb0 : Below w.heap.size w (((w.alloc (.cells #[.bool na, .slice ao A.length ca] 24)).alloc (.cells #[.bool nb, .slice bo B.length cb] 24)).alloc (.cells #[.bool false, .slice none 0 0] 24)) :=
    (((Below.refl _ _).alloc (Nat.le_refl _) _).alloc (by simp) _).alloc (by simp; omega) _
  refine (checkBoth_any na nb ao bo ca cb A B _ (hA.below hb0) (hB.below hb0) la lb).mono ?_
  rintro e w1 ⟨rfl, hb1⟩
  have hs1 : w.heap.size + 3 ≤ w1.heap.size := by have := hb1.size; simpa using this
  have hb2 : Below w.heap.size w w1 := hb0.trans (hb1.mono (by simp; omega))
  have p0 : w1.cell? ⟨w.heap.size, 0, none⟩ = some (.bool na) := by rw [hb1.cell (p := ⟨w.heap.size, 0, none⟩) (by simp; omega)]; simp [go_sem]
  have p1 : w1.cell? ⟨w.heap.size, 1, none⟩ = some (.slice ao A.length ca) := by rw [hb1.cell (p := ⟨w.heap.size, 1, none⟩) (by simp; omega)]; simp [go_sem]
  have q0 : w1.cell? ⟨w.heap.size + 1, 0, none⟩ = some (.bool nb) := by rw [hb1.cell (p := ⟨w.heap.size + 1, 0, none⟩) (by simp)]; simp [go_sem]
  have q1 : w1.cell? ⟨w.heap.size + 1, 1, none⟩ = some (.slice bo B.length cb) := by rw [hb1.cell (p := ⟨w.heap.size + 1, 1, none⟩) (by simp)]; simp [go_sem]
  have r2 : Box2 w1 (w.heap.size + 2) (.bool false) (.slice none 0 0) := by
    have := Box2.new ((w.alloc (.cells #[.bool na, .slice ao A.length ca] 24)).alloc (.cells #[.bool nb, .slice bo B.length cb] 24)) (.bool false) (.slice none 0 0)
    exact Box2.below (by simpa using this) hb1 (by simp)
  have q2 : Box2 w1 (w.heap.size + 1) (.bool nb) (.slice bo B.length cb) := by
    have := (Box2.new (w.alloc (.cells #[.bool na, .slice ao A.length ca] 24)) (.bool nb) (.slice bo B.length cb)).old (.cells #[.bool false, .slice none 0 0] 24)
    exact Box2.below (by simpa using this) hb1 (by simp)
  rw [unhide H2]
  clear hb1 H2 hb0
  cases ok
  · simp only [Bool.false_eq_true, if_false]
    have y0 := r2.c0; have y1 := r2.c1; have f0 := r2.free 0; have f1 := r2.free 1
    go_wp2
    refine bodyPost_ret (v := .tuple #[.agg #[.bool false, .slice none 0 0], .int .i64 1]) (by simp [results, Try.results14, go_sem, y0, y1]) rfl ⟨.agg #[.bool false, .slice none 0 0], by rw [opErr_false], by rw [opNum_false]; exact IsNum.zero _ _ _ _, ?_⟩
    exact (hb2.setCell (by simp; omega) _).setCell (by simp; omega) _
  · obtain ⟨cA, cB⟩ := unhide HC rfl
    have CA := hide cA
    have CB := hide cB
    clear cA cB
    simp only [if_true]
    have fq := q2.free 0
    have hb2' : Below w.heap.size w (w1.setCell ⟨w.heap.size + 1, 0, none⟩ (.bool !nb)) := hb2.setCell (by simp) _
    have r2' : Box2 (w1.setCell ⟨w.heap.size + 1, 0, none⟩ (.bool !nb)) (w.heap.size + 2) (.bool false) (.slice none 0 0) := by
      unfold Box2; rw [Below.heap_setCell _ _ _ _ (by simp)]; exact r2
    go_wp2_with fail
    refine (addSigned_any na (!nb) ao bo ca cb A B _ (hA.below hb2') (hB.below hb2') la lb (unhide CA) (unhide CB)).mono ?_
    rw [show sval na A + sval (!nb) B = sval na A - sval nb B by rw [sval_not]; omega]
    rintro e w2 ⟨v, rfl, ⟨n2, a2, c2, L2, rfl, i1⟩, hb3⟩
    have r3 := r2'.below hb3 (by simp; omega)
    have hb4 := hb2'.trans (hb3.mono hb2'.size)
    have y0 := r3.c0; have y1 := r3.c1; have f0 := r3.free 0; have f1 := r3.free 1
    have I1 := hide i1
    clear i1
    go_wp2
    refine bodyPost_ret (v := .tuple #[.agg #[.bool n2, .slice a2 L2.length c2], .int .i64 (errOf (sval na A - sval nb B))]) (by simp [results, Try.results14, go_sem, y0, y1]) rfl ⟨.agg #[.bool n2, .slice a2 L2.length c2], by rw [opErr_true], ?_, ?_⟩
    · rw [opNum_true]; exact IsNum.stored (unhide I1) (by simp; omega) (by simp; omega) (by simp; omega) _ _
    · exact (hb4.setCell (by simp; omega) _).setCell (by simp; omega) _


end Go.Proofs.Ytiebegjgaflfiaa
