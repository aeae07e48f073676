/- Contracts of Of, checkBoth. -/
import Derived.Test.YtiebegjgaflfiaaW6
import Derived.Test.YtiebegjgaflfiaaReps2
namespace Go.Proofs.Ytiebegjgaflfiaa
open Go.RowKit
attribute [local go_sem ↓] Go.wp_at_zero Go.wp_at_succ

/-- What checkBoth says. -/
def chk2 (na : Bool) (A : List Nat) (nb : Bool) (B : List Nat) : Int := if rightB na A && rightB nb B then 0 else 1

theorem chkE_val (neg : Bool) (L : List Nat) : chkE neg L = 0 ∨ chkE neg L = 1 := by unfold chkE; split <;> simp

set_option maxHeartbeats 400000 in
theorem checkBoth_any (na nb : Bool) (ao bo : Option Addr) (ca cb : Nat) (A B : List Nat) (w : World) (hA : LimbsAt w ao ca A) (hB : LimbsAt w bo cb B) (la : A.length ≤ 35184372088830) (lb : B.length ≤ 35184372088830) :
    Calls Try.prog 33 #[.agg #[.bool na, .slice ao A.length ca], .agg #[.bool nb, .slice bo B.length cb]] w fun e w' => e = .returned (.int .i64 (chk2 na A nb B)) ∧ Below w.heap.size w w' := by
  have hE : (rightB na A = false → chk2 na A nb B = 1) ∧ (rightB na A = true → chk2 na A nb B = chkE nb B) := by
    constructor <;> intro h <;> simp [chk2, chkE, h]
  have HE := hide hE
  clear hE
  generalize chk2 na A nb B = r at *
  go_enter Try.func33, Try.ntmps33
  go_wp2_with fail
  refine (check_any na ao ca A _ (hA.below (((Below.refl _ _).alloc (Nat.le_refl _) _).alloc (by simp) _)) la).mono ?_
  rintro e w1 ⟨rfl, hb1⟩
  have hb2 : Below w.heap.size w w1 := (((Below.refl _ _).alloc (Nat.le_refl _) _).alloc (by simp) _).trans (hb1.mono (by simp; omega))
  have hc0 : w1.cell? ⟨w.heap.size + 1, 0, none⟩ = some (.bool nb) := by rw [hb1.cell (p := ⟨w.heap.size + 1, 0, none⟩) (by simp)]; simp [go_sem]
  have hc1 : w1.cell? ⟨w.heap.size + 1, 1, none⟩ = some (.slice bo B.length cb) := by rw [hb1.cell (p := ⟨w.heap.size + 1, 1, none⟩) (by simp)]; simp [go_sem]
  clear hb1
  cases hr : rightB na A
  · have H0 := hide ((unhide HE).1 hr)
    have hc : chkE na A = 1 := by simp [chkE, hr]
    rw [hc]
    clear hc hr HE
    go_wp2
    go_ret
    exact ⟨ret_int (unhide H0).symm, hb2⟩
  · have H0 := hide ((unhide HE).2 hr)
    have hc : chkE na A = 0 := by simp [chkE, hr]
    rw [hc]
    clear hc hr HE
    go_wp2_with fail
    refine (check_any nb bo cb B _ (hB.below hb2) lb).mono ?_
    rintro e w2 ⟨rfl, hb3⟩
    go_wp2
    go_ret
    exact ⟨ret_int (unhide H0).symm, hb2.trans (hb3.mono hb2.size)⟩

end Go.Proofs.Ytiebegjgaflfiaa
