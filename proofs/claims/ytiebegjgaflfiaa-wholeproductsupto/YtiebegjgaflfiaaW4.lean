/- Contracts of what orders: compareLimbs, More. -/
import Derived.Test.YtiebegjgaflfiaaW3
namespace Go.Proofs.Ytiebegjgaflfiaa
open Go.RowKit

/-- What compareLimbs says. -/
def cmpL (A B : List Nat) : Int := if A.length = B.length then cmpI (val A) (val B) else cmpI A.length B.length

theorem cmpI_lt {a b : Int} (h : a < b) : cmpI a b = -1 := by simp [cmpI, h]
theorem cmpI_gt {a b : Int} (h : b < a) : cmpI a b = 1 := by simp only [cmpI]; rw [if_neg (by omega), if_pos h]
theorem cmpI_eq {a b : Int} (h : a = b) : cmpI a b = 0 := by simp [cmpI, h]

theorem cmpI_top (A B : List Nat) (hA : Fits A) (hB : Fits B) (t : Nat) (heq : ∀ i, t < i → A[i]?.getD 0 = B[i]?.getD 0) (hne : A[t]?.getD 0 ≠ B[t]?.getD 0) :
    cmpI ((A[t]?.getD 0 : Nat) : Int) ((B[t]?.getD 0 : Nat) : Int) = cmpI (val A) (val B) := by
  rcases Nat.lt_or_gt_of_ne hne with h | h
  · have := lt_of_top A B hA t heq h
    rw [cmpI_lt (by omega), cmpI_lt (by omega)]
  · have := lt_of_top B A hB t (fun i hi => (heq i hi).symm) h
    rw [cmpI_gt (by omega), cmpI_gt (by omega)]

set_option maxHeartbeats 400000 in
theorem compareLimbs_any (ao bo : Option Addr) (ca cb : Nat) (A B : List Nat) (w : World) (hA : LimbsAt w ao ca A) (hB : LimbsAt w bo cb B) (la : A.length ≤ 35184372088832) (lb : B.length ≤ 35184372088832) :
    Calls Try.prog 47 #[.slice ao A.length ca, .slice bo B.length cb] w fun e w' => e = .returned (.int .i64 (cmpL A B)) ∧ ∃ m, w.drewN m = w' := by
  by_cases hl : A.length ≠ B.length
  · have hne : ((A.length : Int) != (B.length : Int)) = true := by rw [bne_iff_ne]; omega
    have HE := hide (show cmpL A B = cmpI A.length B.length by simp [cmpL, hl])
    go_enter Try.func47, Try.ntmps47
    go_wp2_with (go_at_call 54; refine (cmpi_any _ _ _).mono ?_; rintro e w' ⟨rfl, rfl⟩)
    go_ret
    exact ⟨ret_int (unhide HE).symm, 0, rfl⟩
  have hl : A.length = B.length := by omega
  by_cases h0 : A.length = 0
  · have eA : A = [] := List.length_eq_zero_iff.1 h0
    have eB : B = [] := List.length_eq_zero_iff.1 (by omega)
    subst eA; subst eB
    go_enter Try.func47, Try.ntmps47
    go_wp2
    refine wp_loop_rounds 1 ?_
    rw [rounds_succ]
    go_wp2
    go_ret
    exact ⟨ret_int (by simp [cmpL, cmpI]), 0, rfl⟩
  obtain ⟨b1, o1, rfl, hb1, hc1⟩ := hA.ne (by omega)
  obtain ⟨b2, o2, rfl, hb2, hc2⟩ := hB.ne (by omega)
  have hTop : ∀ t : Nat, (∀ i : Nat, t < i → A[i]?.getD 0 = B[i]?.getD 0) → A[t]?.getD 0 ≠ B[t]?.getD 0 → cmpI ((A[t]?.getD 0 : Nat) : Int) ((B[t]?.getD 0 : Nat) : Int) = cmpL A B := by
    intro t h1 h2
    rw [cmpI_top A B hA.2.1 hB.2.1 t h1 h2]; simp [cmpL, hl]
  have hEq : (∀ i : Nat, A[i]?.getD 0 = B[i]?.getD 0) → (0 : Int) = cmpL A B := by
    intro h
    have := val_ext A B h
    simp [cmpL, hl, this, cmpI]
  have HT := hide hTop
  have HQ := hide hEq
  have hAbove : ∀ i : Nat, A.length ≤ i → A[i]?.getD 0 = B[i]?.getD 0 := fun i hi => by
    rw [List.getElem?_eq_none (by omega), List.getElem?_eq_none (by omega)]
  have HA := hide hAbove
  clear hTop hEq hAbove hA hB
  rw [← hl]
  generalize hb : cmpL A B = s at *
  clear hb
  generalize hm : A.length = n at *
  have hm' : B.length = n := hl.symm
  clear hl
  go_enter Try.func47, Try.ntmps47
  go_wp2
  go_loopw [19] (fun i wr => ∃ k : Nat, k ≤ n ∧ i = .int .i64 k ∧ Hid (∀ j, n - k ≤ j → A[j]?.getD 0 = B[j]?.getD 0) ∧ Hid (∃ m, wr = w.drewN m))
    (fun i _ => n - (intOf i).toNat)
  case atStart => exact ⟨0, Nat.zero_le _, rfl, fun j hj => unhide HA j (by omega), 0, rfl⟩
  case round =>
    obtain ⟨k, hk, rfl, hq, hw⟩ := hrel
    have hwc : ∀ a, wr.cell? a = w.cell? a := by obtain ⟨m, rfl⟩ := hw.out; intro a; rfl
    clear HA
    by_cases hlt : k < n
    · have c1 := hc1 (n - 1 - k) (by omega)
      have c2 := hc2 (n - 1 - k) (by omega)
      rw [← hwc] at c1 c2
      clear hc1 hc2 hm hm' hwc
      have hi0 : (0 : Int) ≤ (n : Int) - 1 - (k : Int) := by omega
      have hi1 : (n : Int) - 1 - (k : Int) < (n : Int) := by omega
      by_cases hx : A[n - 1 - k]?.getD 0 = B[n - 1 - k]?.getD 0
      · have hq' : Hid (∀ j, n - (k + 1) ≤ j → A[j]?.getD 0 = B[j]?.getD 0) := fun j hj => by
          by_cases h : n - k ≤ j
          · exact hq.out j h
          · rw [show j = n - 1 - k by omega]; exact hx
        rw [hx] at c1
        clear hx hq HT HQ
        generalize B[n - 1 - k]?.getD 0 = x at *
        go_wp2
        go_quiet (fail)
        go_wp2
        go_roundw
        case rel => exact ⟨k + 1, by omega, by go_num, hq', by obtain ⟨m, rfl⟩ := hw.out; exact ⟨m + nq, by simp⟩⟩
        case measure => simp [intOf]; omega
      · have HS := hide (unhide HT (n - 1 - k) (fun i hi => hq.out i (by omega)) hx)
        have hx1 : (((A[n - 1 - k]?.getD 0 : Nat) : Int) != ((B[n - 1 - k]?.getD 0 : Nat) : Int)) = true := by rw [bne_iff_ne]; omega
        clear HT HQ hq hx
        generalize B[n - 1 - k]?.getD 0 = x at *
        generalize A[n - 1 - k]?.getD 0 = y at *
        go_wp2
        go_quiet (fail)
        obtain ⟨w2, hw2⟩ : ∃ w2, w2 = wr.drewN nq := ⟨_, rfl⟩
        have c3 : w2.cell? ⟨b1, o1 + (n - 1 - k), none⟩ = some (.int .u32 (y : Int)) := by rw [hw2]; exact c1
        have c4 : w2.cell? ⟨b2, o2 + (n - 1 - k), none⟩ = some (.int .u32 (x : Int)) := by rw [hw2]; exact c2
        rw [← hw2]
        have HW2 : Hid (∃ q, w2 = wr.drewN q) := ⟨nq, hw2⟩
        clear hw2 c1 c2
        go_wp2
        go_quiet ((go_at_call 55; exact quiet_eq (cmpu_any _ _ _)))
        go_wp2
        go_ret
        obtain ⟨m, rfl⟩ := hw.out
        obtain ⟨q, hq2⟩ := HW2.out
        exact ⟨ret_int (unhide HS), m + q + nq, by rw [hq2]; simp⟩
    · have HS := hide (unhide HQ (fun i => hq.out i (by omega)))
      clear HT HQ hc1 hc2 hwc
      go_wp2
      go_ret
      obtain ⟨m, rfl⟩ := hw.out
      exact ⟨ret_int (unhide HS), m, rfl⟩

end Go.Proofs.Ytiebegjgaflfiaa
