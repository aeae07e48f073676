/- Contract of form. -/
import Derived.Test.YtiebegjgaflfiaaW9
namespace Go.Proofs.Ytiebegjgaflfiaa
open Go.RowKit

set_option maxHeartbeats 400000 in
theorem form_any (na nb : Bool) (ao bo : Option Addr) (ca cb : Nat) (A B : List Nat) (w : World) (hA : LimbsAt w ao ca A) (hB : LimbsAt w bo cb B) (la : A.length ≤ 35184372088830) (lb : B.length ≤ 35184372088830) :
    Calls Try.prog 19 #[.agg #[.bool na, .slice ao A.length ca], .agg #[.bool nb, .slice bo B.length cb]] w fun e w' => e = .returned (.int .i64 (chk2 na A nb B)) ∧ Below w.heap.size w w' := by
  have hE : (rightB na A = false → chk2 na A nb B = 1) ∧ (rightB na A = true → rightB nb B = false → chk2 na A nb B = 1) ∧ (rightB na A = true → rightB nb B = true → chk2 na A nb B = 0) := by
    refine ⟨fun h => ?_, fun h h' => ?_, fun h h' => ?_⟩ <;> simp [chk2, *]
  have HE := hide hE
  clear hE
  generalize chk2 na A nb B = r at *
  go_enter Try.func19, Try.ntmps19
  go_wp2_with fail
  refine (right_any na ao ca A _ (hA.below (((Below.refl _ _).alloc (Nat.le_refl _) _).alloc (by simp) _)) la).mono ?_
  rintro e w1 ⟨rfl, hb1⟩
  have hb2 : Below w.heap.size w w1 := (((Below.refl _ _).alloc (Nat.le_refl _) _).alloc (by simp) _).trans (hb1.mono (by simp; omega))
  have hc0 : w1.cell? ⟨w.heap.size + 1, 0, none⟩ = some (.bool nb) := by rw [hb1.cell (p := ⟨w.heap.size + 1, 0, none⟩) (by simp)]; simp [go_sem]
  have hc1 : w1.cell? ⟨w.heap.size + 1, 1, none⟩ = some (.slice bo B.length cb) := by rw [hb1.cell (p := ⟨w.heap.size + 1, 1, none⟩) (by simp)]; simp [go_sem]
  clear hb1
  cases hr : rightB na A
  · have H0 := hide ((unhide HE).1 hr)
    clear hr HE
    go_wp2
    go_ret
    exact ⟨ret_int (unhide H0).symm, hb2⟩
  · have H1 := hide ((unhide HE).2.1 hr)
    have H2 := hide ((unhide HE).2.2 hr)
    clear hr HE
    go_wp2_with fail
    refine (right_any nb bo cb B _ (hB.below hb2) lb).mono ?_
    rintro e w2 ⟨rfl, hb3⟩
    have hb4 := hb2.trans (hb3.mono hb2.size)
    clear hb3
    cases hr2 : rightB nb B
    · have H0 := hide (unhide H1 hr2)
      clear hr2 H1 H2
      go_wp2
      go_ret
      exact ⟨ret_int (unhide H0).symm, hb4⟩
    · have H0 := hide (unhide H2 hr2)
      clear hr2 H1 H2
      go_wp2
      go_ret
      exact ⟨ret_int (unhide H0).symm, hb4⟩

end Go.Proofs.Ytiebegjgaflfiaa
