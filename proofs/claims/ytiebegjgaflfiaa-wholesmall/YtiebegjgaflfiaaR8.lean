/- Contract of the reference's Compare. -/
import Derived.Test.YtiebegjgaflfiaaR7
namespace Go.Proofs.Ytiebegjgaflfiaa
open Go.RowKit

theorem cmpI_sub (x y : Int) : cmpI x y = if x - y < 0 then -1 else if x - y = 0 then 0 else 1 := by
  unfold cmpI; split <;> split <;> (try split) <;> (try split) <;> omega

set_option maxHeartbeats 400000 in
theorem refCompare_any (na nb : Bool) (ao bo : Option Addr) (ca cb : Nat) (A B : List Nat) (w : World) (hA : LimbsAt w ao ca A) (hB : LimbsAt w bo cb B) (la : A.length ≤ 35184372088830) (lb : B.length ≤ 35184372088830) :
    Calls Try.prog 27 #[.agg #[.bool na, .slice ao A.length ca], .agg #[.bool nb, .slice bo B.length cb]] w fun e w' => e = .returned (.int .i64 (cmpI (sval na A) (sval nb B))) ∧ Below w.heap.size w w' := by
  have hE := cmpI_sub (sval na A) (sval nb B)
  generalize cmpI (sval na A) (sval nb B) = r at *
  have HE := hide hE
  clear hE
  go_enter Try.func27, Try.ntmps27
  go_wp2_with fail
  have hb0 : Below w.heap.size w ((w.alloc (.cells #[.bool na, .slice ao A.length ca] 24)).alloc (.cells #[.bool nb, .slice bo B.length cb] 24)) := ((Below.refl _ _).alloc (Nat.le_refl _) _).alloc (by simp) _
  refine (refSub_any na nb ao bo ca cb A B _ (hA.below hb0) (hB.below hb0) la lb).mono ?_
  rintro e w1 ⟨v, rfl, ⟨n2, a2, c2, L2, rfl, i1, i2, i3, i4, i5, i6⟩, hb1⟩
  have hb2 : Below w.heap.size w w1 := hb0.trans (hb1.mono (by simp; omega))
  have hz := val_zero_of_canon L2 i3
  generalize sval na A - sval nb B = z at *
  have hE := unhide HE
  by_cases hz0 : z < 0
  · have e2 : n2 = true := by rw [i4]; simp [hz0]
    rw [if_pos hz0] at hE
    have H := hide hE
    subst e2
    clear hE HE hz i1 i2 i3 i4 i5 hb1 hb0 hA hB
    go_wp2
    go_ret
    exact ⟨ret_int (unhide H).symm, hb2.alloc hb2.size _⟩
  · have e2 : n2 = false := by rw [i4]; simp; omega
    rw [if_neg hz0] at hE
    subst e2
    by_cases hz1 : z = 0
    · have e3 : L2.length = 0 := by rw [hz.1 (by omega)]; rfl
      rw [if_pos hz1] at hE
      have H := hide hE
      clear hE HE hz i1 i2 i3 i4 i5 hb1 hb0 hz1 hA hB
      go_wp2
      go_ret
      exact ⟨ret_int (unhide H).symm, hb2.alloc hb2.size _⟩
    · have e3 : 0 < L2.length := by
        rcases Nat.eq_zero_or_pos L2.length with e | e
        · have := hz.2 (List.length_eq_zero_iff.1 e); omega
        · exact e
      rw [if_neg hz1] at hE
      have H := hide hE
      clear hE HE hz i1 i2 i3 i4 i5 hb1 hb0 hz1 hA hB
      have hge : (1 : Int) ≤ (L2.length : Int) := by omega
      go_wp2
      all_goals
        go_ret
        exact ⟨ret_int (by have := unhide H; omega), hb2.alloc hb2.size _⟩

end Go.Proofs.Ytiebegjgaflfiaa
