/- Part 16 of the texts. -/
import Derived.Test.YtfnnbkclnflpfaaGreatDoorPartQ15
import Derived.Deep.Cut
import Derived.Test.YtfnnbkclnflpfaaGreatDoorPartQ14
import Ieee.Arith
/- Contract of the reference's Value, any bits; how many digits a number's limbs have. -/
namespace Go.Proofs.YtfnnbkclnflpfaaGreatDoor
open Go.RowKit

theorem rvalue_any (b : Nat) (w : World) (h : b < 18446744073709551616) :
    Calls Tryz.prog 53 #[.int .u64 b] w fun r w' => ∃ u, r = .returned u ∧ IsDy w' u (fD b) (fX b) ∧ Below w.heap.size w w' := by
  have CF := fun w' => rfrac_any b w' h
  have CP := fun w' => rpower_any b w' h
  have CN := fun w' => rneg4_any b w' h
  have hf := fF_lt b
  have hp := fP_lt b
  have hE := fE_in b
  have hfd : fD b = oM (fM b) := rfl
  have hfx : fX b = oE (fM b) (fE b) := rfl
  have hM : fM b = sg (fS b) (fA b) := rfl
  rw [hfd, hfx]
  by_cases h0 : fP b = 0
  · have hE0 : fE b = -1074 := by unfold fE; rw [if_pos h0]
    have hA0 : fA b = fF b := by unfold fA; rw [if_pos h0]
    rw [h0] at CP
    have hw : IntKind.i64.wrap (fF b : Int) = (fF b : Int) := by simp only [IntKind.wrap_i64]; omega
    cases hs : fS b with
    | false =>
      rw [hs] at CN hM
      have hm : (fF b : Int) = fM b := by rw [hM, hA0]; rfl
      exact rvalue_zo b (fF b) (fF b : Int) (fM b) (fE b) _ _ w hw CF CP CN (fun w' => refOf_any _ w' (by omega) (by omega)) (fun w' v hv => rof_small (fE b) hv (by decide) (by omega)) hE0 hm
    | true =>
      rw [hs] at CN hM
      have hm : (fF b : Int) = - fM b := by rw [hM, hA0]; simp [sg]
      refine rvalue_zn b (fF b) (fF b : Int) (fF b : Int) (fE b) _ _ w hw CF CP CN (fun w' => refOf_any _ w' (by omega) (by omega)) (fun w' v hv => ?_) hE0 rfl
      have : -(fF b : Int) = fM b := by omega
      rw [this] at hv
      exact rof_small (fE b) hv (by decide) (by omega)
  · have hE0 : fE b = (fP b : Int) - 1075 := by unfold fE; rw [if_neg h0]
    have hA0 : fA b = fF b + 4503599627370496 := by unfold fA; rw [if_neg h0]
    have hw : IntKind.i64.wrap (fF b : Int) = (fF b : Int) := by simp only [IntKind.wrap_i64]; omega
    have w1 : IntKind.u64.wrap ((fF b : Int) + 4503599627370496) = (fA b : Int) := by simp only [IntKind.wrap_u64]; omega
    have w2 : IntKind.i64.wrap (fA b : Int) = (fA b : Int) := by simp only [IntKind.wrap_i64]; omega
    have w3 : IntKind.i64.wrap ((fP b : Int) - 1075) = fE b := by simp only [IntKind.wrap_i64]; omega
    have hl := fA_lt b
    cases hs : fS b with
    | false =>
      rw [hs] at CN hM
      have hm : (fA b : Int) = fM b := by rw [hM]; rfl
      refine rvalue_po b (fP b) (fF b) (fF b : Int) (fA b : Int) (fA b : Int) (fE b) _ _ w (by omega) hw CF CP CN (fun w' => refOf_any _ w' (by omega) (by omega)) (fun w' v hv => ?_) w1 w2 w3 (fun w' => refOf_any _ w' (by omega) (by omega))
      rw [hm] at hv
      exact rof_small (fE b) hv (by decide) (by omega)
    | true =>
      rw [hs] at CN hM
      have hm : -(fA b : Int) = fM b := by rw [hM]; simp [sg]
      refine rvalue_pn b (fP b) (fF b) (fF b : Int) (fA b : Int) (fA b : Int) (fE b) _ _ w (by omega) hw CF CP CN (fun w' => refOf_any _ w' (by omega) (by omega)) (fun w' v hv => ?_) w1 w2 w3 (fun w' => refOf_any _ w' (by omega) (by omega))
      rw [hm] at hv
      exact rof_small (fE b) hv (by decide) (by omega)

end Go.Proofs.YtfnnbkclnflpfaaGreatDoor

/- Contracts of soft's roundSize, Round, any number. -/
namespace Go.Proofs.YtfnnbkclnflpfaaGreatDoor
open Go.RowKit
/-- A rung with its sign. -/
def wrd (neg : Bool) (r : Nat) : Nat := if neg = true then r + 9223372036854775808 else r
theorem wrd_true (r : Nat) : wrd true r = r + 9223372036854775808 := if_pos rfl
theorem wrd_false (r : Nat) : wrd false r = r := if_neg Bool.false_ne_true
end Go.Proofs.YtfnnbkclnflpfaaGreatDoor

/- What a finite number's value is rounded to; the laws SoftKinds, SoftBack, walked. -/
namespace Go.Proofs.YtfnnbkclnflpfaaGreatDoor
open Go.RowKit
theorem oM_abs (z : Int) (h : z ≠ 0) : z.natAbs = (oM z).natAbs * 2 ^ tz z.natAbs := by
  have h1 := (oddOf z h).1
  have h2 := congrArg Int.natAbs h1
  rw [Int.natAbs_mul, Int.natAbs_pow] at h2
  exact h2

theorem oM_sign (z : Int) : decide (oM z < 0) = decide (z < 0) := by
  have h := sgnI_oM z
  unfold sgnI at h
  by_cases h1 : oM z < 0
  · rw [if_pos h1] at h
    by_cases h2 : z < 0
    · rw [decide_eq_true h1, decide_eq_true h2]
    · rw [if_neg h2] at h
      split at h <;> omega
  · rw [if_neg h1] at h
    by_cases h2 : z < 0
    · rw [if_pos h2] at h
      split at h <;> omega
    · rw [decide_eq_false h1, decide_eq_false h2]

end Go.Proofs.YtfnnbkclnflpfaaGreatDoor

/- No number is nearer than the rounded one: plain mathematics. -/
namespace Go.Proofs.YtfnnbkclnflpfaaGreatDoor
theorem fS_wrd (n : Bool) (s : Nat) (h : s < 9223372036854775808) : fS (wrd n s) = n := by
  unfold fS
  cases n
  · rw [wrd_false]; exact decide_eq_false (by omega)
  · rw [wrd_true]; exact decide_eq_true (by omega)
theorem fP_wrd (n : Bool) (s : Nat) (h : s < 9223372036854775808) : fP (wrd n s) = s / 4503599627370496 := by
  unfold fP
  cases n
  · rw [wrd_false]; omega
  · rw [wrd_true]; omega
theorem fF_wrd (n : Bool) (s : Nat) (_h : s < 9223372036854775808) : fF (wrd n s) = s % 4503599627370496 := by
  unfold fF
  cases n
  · rw [wrd_false]
  · rw [wrd_true]; omega

/-- What a finite number is worth, at a level. -/
theorem fM_wrd (n : Bool) (s : Nat) (h : s < 9218868437227405312) : ∃ j : Nat, fE (wrd n s) = -1074 + (j : Int) ∧ fM (wrd n s) * 2 ^ j = sg n (rv s) := by
  have e1 := fP_wrd n s (by omega)
  have e2 := fF_wrd n s (by omega)
  have e3 := fS_wrd n s (by omega)
  unfold fM fE fA rv
  rw [e1, e2, e3]
  by_cases c1 : s < 4503599627370496
  · rw [if_pos (by omega), if_pos (by omega), if_pos c1]
    refine ⟨0, by simp, ?_⟩
    rw [Nat.mod_eq_of_lt c1]
    simp
  · rw [if_neg (by omega), if_neg (by omega), if_neg c1]
    refine ⟨s / 4503599627370496 - 1, by omega, ?_⟩
    rw [Nat.add_comm 4503599627370496]
    generalize s % 4503599627370496 + 4503599627370496 = m
    generalize s / 4503599627370496 - 1 = j
    unfold sg
    cases n
    · simp
    · simp [Int.neg_mul]

end Go.Proofs.YtfnnbkclnflpfaaGreatDoor

/- How numbers of binary64 stand to one another: by what their rungs are worth. -/
namespace Go.Proofs.YtfnnbkclnflpfaaGreatDoor
open Go.RowKit

/-- What a rung with its sign is worth (Inf as the next number would be). -/
def pv (n : Bool) (r : Nat) : Int := if n = true then -(rv r : Int) else (rv r : Int)

theorem rv_lt {r s : Nat} (h : r < s) : rv r < rv s := Nat.lt_of_lt_of_le (rv_succ r) (rv_mono h)

end Go.Proofs.YtfnnbkclnflpfaaGreatDoor

