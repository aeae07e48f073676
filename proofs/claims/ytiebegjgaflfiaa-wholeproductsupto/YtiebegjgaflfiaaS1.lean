/- Contract of told: where the answer is the document's, it says so. -/
import Derived.Test.YtiebegjgaflfiaaWE
import Derived.Test.YtiebegjgaflfiaaR1
namespace Go.Proofs.Ytiebegjgaflfiaa
open Go.RowKit

set_option maxHeartbeats 400000 in
theorem told_any {B B' : Nat} {w : World} {v u : Value} {x z er f : Int} (hv : IsNum B w v x) (hu : IsNum B' w u z) (h1 : f ≠ 0 → er = f ∧ x = 0) (h2 : f = 0 → er = errOf z ∧ x = numOf z) :
    Calls Try.prog 17 #[v, .int .i64 er, u, .int .i64 f] w fun e w' => e = .returned (.bool true) ∧ Below w.heap.size w w' := by
  have HV := hide hv
  have HU := hide hu
  obtain ⟨na, ao, ca, A, rfl, a1⟩ := hv
  obtain ⟨nb, bo, cb, C, rfl, b1, b2, b3, b4, b5, b6⟩ := hu
  have hT := val_lt_TOP C b1.2.1 b3
  rw [b5] at hT
  have hb0 : Below w.heap.size w ((w.alloc (.cells #[.bool na, .slice ao A.length ca] 24)).alloc (.cells #[.bool nb, .slice bo C.length cb] 24)) := ((Below.refl _ _).alloc (Nat.le_refl _) _).alloc (by simp) _
  have HB0 := hide hb0
  clear b1 b2 b3 b4 b5 a1 hb0
  by_cases hf : f = 0
  · obtain ⟨e1, e2⟩ := h2 hf
    subst hf
    by_cases hz : z.natAbs < TOP
    · have hl := hT.1 hz
      rw [errOf_small _ hz] at e1
      rw [numOf_small _ hz] at e2
      subst e1; subst e2
      have S := hide (fun w' (hb : Below w.heap.size w w') => same_num ((unhide HV).below hb) ((unhide HU).below hb))
      simp only [decide_true] at S
      clear hT h1 h2 HV HU hz
      go_enter Try.func17, Try.ntmps17
      go_wp2_with (go_at_call 15; refine (unhide S _ (unhide HB0)).mono ?_; rintro e w1 ⟨rfl, hb1⟩)
      go_ret
      exact ⟨rfl, (unhide HB0).trans (hb1.mono (unhide HB0).size)⟩
    · have hl : ¬ C.length ≤ 512 := fun h => hz (hT.2 h)
      have e1' : er = 2 := by rw [e1]; unfold errOf; rw [if_neg hz]
      have e2' : x = 0 := by rw [e2]; unfold numOf; rw [if_neg hz]
      clear e1 e2
      subst e1'; subst e2'
      have S := hide (fun w' (hb : Below w.heap.size w w') => same_num ((unhide HV).below hb) (IsNum.zero 0 w' none 0))
      simp only [decide_true] at S
      clear hT h1 h2 HV HU hz
      go_enter Try.func17, Try.ntmps17
      go_wp2_with (go_at_call 15; refine (unhide S _ (unhide HB0)).mono ?_; rintro e w1 ⟨rfl, hb1⟩)
      go_ret
      exact ⟨rfl, (unhide HB0).trans (hb1.mono (unhide HB0).size)⟩
  · obtain ⟨e1, e2⟩ := h1 hf
    subst e1; subst e2
    have hf0 : (er == 0) = false := by simpa using hf
    have hf1 : (er != 0) = true := by simpa using hf
    have S := hide (fun w' (hb : Below w.heap.size w w') => same_num ((unhide HV).below hb) (IsNum.zero 0 w' none 0))
    simp only [decide_true] at S
    clear hT h1 h2 HV HU hf
    go_enter Try.func17, Try.ntmps17
    go_wp2_with (go_at_call 15; refine (unhide S _ (unhide HB0)).mono ?_; rintro e w1 ⟨rfl, hb1⟩)
    go_ret
    exact ⟨rfl, (unhide HB0).trans (hb1.mono (unhide HB0).size)⟩

end Go.Proofs.Ytiebegjgaflfiaa
