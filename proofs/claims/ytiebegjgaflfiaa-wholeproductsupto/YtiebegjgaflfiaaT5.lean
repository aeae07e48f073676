/- The reference's Shift of any right number; light. -/
import Derived.Test.YtiebegjgaflfiaaT4
import Derived.Test.YtiebegjgaflfiaaRight
import Derived.Test.YtiebegjgaflfiaaForm
namespace Go.Proofs.Ytiebegjgaflfiaa
open Go.RowKit
attribute [local go_sem ↓] Go.wp_at_zero Go.wp_at_succ

set_option maxHeartbeats 4000000 in
theorem refShift_none (ao : Option Addr) (ca : Nat) (n : Int) (w : World) :
    Calls Try.prog 25 #[.agg #[.bool false, .slice ao 0 ca], .int .i64 n] w fun e w' => ∃ v, e = .returned v ∧ IsNum 0 w' v 0 ∧ Below w.heap.size w w' := by
  rcases (show (32 ≤ n ∧ 0 < n ∧ ¬ n ≤ -32 ∧ ¬ n < 0) ∨ (¬ 32 ≤ n ∧ 0 < n ∧ ¬ n ≤ -32 ∧ ¬ n < 0) ∨ (¬ 32 ≤ n ∧ ¬ 0 < n ∧ ¬ n ≤ -32 ∧ ¬ n < 0) ∨ (¬ 32 ≤ n ∧ ¬ 0 < n ∧ ¬ n ≤ -32 ∧ n < 0) ∨ (¬ 32 ≤ n ∧ ¬ 0 < n ∧ n ≤ -32 ∧ n < 0) by omega) with ⟨h1, h2, h3, h4⟩ | ⟨h1, h2, h3, h4⟩ | ⟨h1, h2, h3, h4⟩ | ⟨h1, h2, h3, h4⟩ | ⟨h1, h2, h3, h4⟩
  all_goals
    go_enter Try.func25, Try.ntmps25
    go_wp2
    go_loopw [1] (fun i wr => i = .int .i64 n ∧ wr = (w.alloc (.cells #[.bool false, .slice ao 0 ca] 24)).alloc (.cells #[.bool false, .slice none 0 0] 24)) (fun _ _ => 0)
    case atStart => exact ⟨rfl, rfl⟩
    case round =>
      obtain ⟨rfl, rfl⟩ := hrel
      go_wp2
      go_loopw [1] (fun i wr => i = .int .i64 n ∧ wr = (w.alloc (.cells #[.bool false, .slice ao 0 ca] 24)).alloc (.cells #[.bool false, .slice none 0 0] 24)) (fun _ _ => 0)
      case atStart => exact ⟨rfl, rfl⟩
      case round =>
        obtain ⟨rfl, rfl⟩ := hrel
        go_wp2
        go_loopw [1] (fun i wr => i = .int .i64 n ∧ wr = (w.alloc (.cells #[.bool false, .slice ao 0 ca] 24)).alloc (.cells #[.bool false, .slice none 0 0] 24)) (fun _ _ => 0)
        case atStart => exact ⟨rfl, rfl⟩
        case round =>
          obtain ⟨rfl, rfl⟩ := hrel
          go_wp2
          go_loopw [1] (fun i wr => i = .int .i64 n ∧ wr = (w.alloc (.cells #[.bool false, .slice ao 0 ca] 24)).alloc (.cells #[.bool false, .slice none 0 0] 24)) (fun _ _ => 0)
          case atStart => exact ⟨rfl, rfl⟩
          case round =>
            obtain ⟨rfl, rfl⟩ := hrel
            go_wp2
            refine bodyPost_ret (v := .agg #[.bool false, .slice ao 0 ca]) (by simp [results, Try.results25, go_sem]) rfl ⟨.agg #[.bool false, .slice ao 0 ca], rfl, IsNum.zero _ _ _ _, ?_⟩
            exact ((Below.refl _ _).alloc (Nat.le_refl _) _).alloc (by simp) _

theorem refShift_any (na : Bool) (ao : Option Addr) (ca : Nat) (A : List Nat) (n : Int) (w : World) (hA : LimbsAt w ao ca A) (hr : rightB na A = true) (hn : -16384 ≤ n ∧ n ≤ 16384) :
    Calls Try.prog 25 #[.agg #[.bool na, .slice ao A.length ca], .int .i64 n] w fun e w' => ∃ v, e = .returned v ∧ IsNum 0 w' v (shV na A n) ∧ Below w.heap.size w w' := by
  have hc := right_canon hr
  by_cases h0 : A = []
  · subst h0
    have : na = false := by cases na <;> simp_all
    subst this
    have e : shV false [] n = 0 := by rw [shV_shF]; simp [val, shF_zero, sg]
    rw [e]
    exact refShift_none ao ca n w
  · exact refShift_some na ao ca A n w hA h0 hc.2.1 (by omega) hn

/-- Can numbers be gone through here? -/
def lt1 (n : Bool) (L : List Nat) : Bool := decide (L.length ≤ 40) || !rightB n L

set_option maxHeartbeats 1000000 in
theorem light_any (na nb : Bool) (ao bo : Option Addr) (ca cb : Nat) (A B : List Nat) (w : World) (hA : LimbsAt w ao ca A) (hB : LimbsAt w bo cb B) (la : A.length ≤ 35184372088830) (lb : B.length ≤ 35184372088830) :
    Calls Try.prog 21 #[.agg #[.bool na, .slice ao A.length ca], .agg #[.bool nb, .slice bo B.length cb]] w fun e w' => e = .returned (.bool (lt1 na A && lt1 nb B)) ∧ Below w.heap.size w w' := by
  have CA := hide (fun w' h => right_any na ao ca A w' h la)
  have CB := hide (fun w' h => right_any nb bo cb B w' h lb)
  have KA := hide (show (A.length ≤ 40 → lt1 na A = true) ∧ (¬ A.length ≤ 40 → lt1 na A = !rightB na A) by unfold lt1; constructor <;> intro h <;> simp [h])
  have KB := hide (show (B.length ≤ 40 → lt1 nb B = true) ∧ (¬ B.length ≤ 40 → lt1 nb B = !rightB nb B) by unfold lt1; constructor <;> intro h <;> simp [h])
  generalize lt1 na A = u at *
  generalize lt1 nb B = v at *
  generalize rightB na A = ra at *
  generalize rightB nb B = rb at *
  have hb0 : Below w.heap.size w ((w.alloc (.cells #[.bool na, .slice ao A.length ca] 24)).alloc (.cells #[.bool nb, .slice bo B.length cb] 24)) := ((Below.refl _ _).alloc (Nat.le_refl _) _).alloc (by simp) _
  have x0 : Box2 ((w.alloc (.cells #[.bool na, .slice ao A.length ca] 24)).alloc (.cells #[.bool nb, .slice bo B.length cb] 24)) (w.heap.size + 1) (.bool nb) (.slice bo B.length cb) := by
    have := Box2.new (w.alloc (.cells #[.bool na, .slice ao A.length ca] 24)) (.bool nb) (.slice bo B.length cb)
    simpa using this
  have HB0 := hide hb0; have X0 := hide x0
  clear hb0 x0
  by_cases ha : A.length ≤ 40
  · have hu := (unhide KA).1 ha
    subst hu
    by_cases hb : B.length ≤ 40
    · have hv := (unhide KB).1 hb
      subst hv
      clear KA KB CA CB
      go_enter Try.func21, Try.ntmps21
      go_wp2
      go_ret
      exact ⟨rfl, unhide HB0⟩
    · have hv := (unhide KB).2 hb
      subst hv
      clear KA KB CA
      go_enter Try.func21, Try.ntmps21
      go_wp2_with fail
      refine (unhide CB _ (hB.below (unhide HB0))).mono ?_
      rintro e w1 ⟨rfl, hb1⟩
      cases rb
      all_goals
        go_wp2
        go_ret
        exact ⟨by first | rfl | exact ret_bool (by simp; omega) | exact ret_bool (by simp), (unhide HB0).trans (hb1.mono (unhide HB0).size)⟩
  · have hu := (unhide KA).2 ha
    subst hu
    cases ra
    · by_cases hb : B.length ≤ 40
      · have hv := (unhide KB).1 hb
        subst hv
        clear KA KB CB
        go_enter Try.func21, Try.ntmps21
        go_wp2_with fail
        refine (unhide CA _ (hA.below (unhide HB0))).mono ?_
        rintro e w1 ⟨rfl, hb1⟩
        have p1 := ((unhide X0).below hb1 (unhide X0).lt).c1
        go_wp2
        go_ret
        exact ⟨rfl, (unhide HB0).trans (hb1.mono (unhide HB0).size)⟩
      · have hv := (unhide KB).2 hb
        subst hv
        clear KA KB
        go_enter Try.func21, Try.ntmps21
        go_wp2_with fail
        refine (unhide CA _ (hA.below (unhide HB0))).mono ?_
        rintro e w1 ⟨rfl, hb1⟩
        have p0 := ((unhide X0).below hb1 (unhide X0).lt).c0
        have p1 := ((unhide X0).below hb1 (unhide X0).lt).c1
        have HB1 := hide ((unhide HB0).trans (hb1.mono (unhide HB0).size))
        clear hb1
        go_wp2_with fail
        refine (unhide CB _ (hB.below (unhide HB1))).mono ?_
        rintro e w2 ⟨rfl, hb2⟩
        cases rb
        all_goals
          go_wp2
          go_ret
          exact ⟨by first | rfl | exact ret_bool (by simp; omega) | exact ret_bool (by simp), (unhide HB1).trans (hb2.mono (unhide HB1).size)⟩
    · clear KA KB CB
      go_enter Try.func21, Try.ntmps21
      go_wp2_with fail
      refine (unhide CA _ (hA.below (unhide HB0))).mono ?_
      rintro e w1 ⟨rfl, hb1⟩
      go_wp2
      go_ret
      exact ⟨rfl, (unhide HB0).trans (hb1.mono (unhide HB0).size)⟩

end Go.Proofs.Ytiebegjgaflfiaa
