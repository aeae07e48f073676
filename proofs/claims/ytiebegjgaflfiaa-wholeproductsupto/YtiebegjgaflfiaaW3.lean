/- Contracts of what compares: Same, compareLimbs, More. -/
import Derived.Test.YtiebegjgaflfiaaW2
namespace Go.Proofs.Ytiebegjgaflfiaa
open Go.RowKit

theorem LimbsAt.ne {w : World} {ao : Option Addr} {cap : Nat} {L : List Nat} (h : LimbsAt w ao cap L) (h0 : 0 < L.length) : ∃ b off, ao = some ⟨b, off, none⟩ ∧ b < w.heap.size ∧ ∀ i, i < L.length → w.cell? ⟨b, off + i, none⟩ = some (.int .u32 ((L[i]?.getD 0 : Nat) : Int)) := by
  rcases h.2.2 with e | h
  · subst e; simp at h0
  · exact h

/-- Same says whether signs and limbs are the same. -/
def sameB (na : Bool) (A : List Nat) (nb : Bool) (B : List Nat) : Bool := decide (na = nb ∧ A = B)

theorem sameB_no {na nb : Bool} {A B : List Nat} (k : Nat) (h : A[k]?.getD 0 ≠ B[k]?.getD 0) : sameB na A nb B = false := by
  simp only [sameB, decide_eq_false_iff_not]
  rintro ⟨_, rfl⟩
  exact h rfl

theorem list_ext_getD (A B : List Nat) (hl : A.length = B.length) (h : ∀ j, j < A.length → A[j]?.getD 0 = B[j]?.getD 0) : A = B := by
  refine List.ext_getElem hl fun i h1 h2 => ?_
  have := h i h1
  rw [List.getElem?_eq_getElem h1, List.getElem?_eq_getElem h2] at this
  exact this

set_option maxHeartbeats 400000 in
theorem same_any (na nb : Bool) (ao bo : Option Addr) (ca cb : Nat) (A B : List Nat) (w : World) (hA : LimbsAt w ao ca A) (hB : LimbsAt w bo cb B) (la : A.length ≤ 35184372088832) (lb : B.length ≤ 35184372088832) :
    Calls Try.prog 15 #[.agg #[.bool na, .slice ao A.length ca], .agg #[.bool nb, .slice bo B.length cb]] w fun e w' => e = .returned (.bool (sameB na A nb B)) ∧ Below w.heap.size w w' := by
  by_cases hn : na ≠ nb
  · have HE := hide (show sameB na A nb B = false by simp [sameB, hn])
    generalize sameB na A nb B = s at *
    have hne : (na != nb) = true := by rw [bne_iff_ne]; exact hn
    go_enter Try.func15, Try.ntmps15
    go_wp2
    go_ret
    exact ⟨ret_bool (unhide HE).symm, ((Below.refl _ _).alloc (Nat.le_refl _) _).alloc (by simp) _⟩
  have hn : na = nb := Decidable.byContradiction hn
  by_cases hl : A.length ≠ B.length
  · have HE := hide (show sameB na A nb B = false by simp [sameB]; rintro _ rfl; exact hl rfl)
    generalize sameB na A nb B = s at *
    subst hn
    have hne : ((A.length : Int) != (B.length : Int)) = true := by rw [bne_iff_ne]; omega
    go_enter Try.func15, Try.ntmps15
    go_wp2
    go_ret
    exact ⟨ret_bool (unhide HE).symm, ((Below.refl _ _).alloc (Nat.le_refl _) _).alloc (by simp) _⟩
  have hl : A.length = B.length := by omega
  subst hn
  by_cases h0 : A.length = 0
  · have eA : A = [] := List.length_eq_zero_iff.1 h0
    have eB : B = [] := List.length_eq_zero_iff.1 (by omega)
    subst eA; subst eB
    go_enter Try.func15, Try.ntmps15
    go_wp2
    refine wp_loop_rounds 1 ?_
    rw [rounds_succ]
    go_wp2
    go_ret
    exact ⟨ret_bool (by simp [sameB]), ((Below.refl _ _).alloc (Nat.le_refl _) _).alloc (by simp) _⟩
  obtain ⟨b1, o1, rfl, hb1, hc1⟩ := hA.ne (by omega)
  obtain ⟨b2, o2, rfl, hb2, hc2⟩ := hB.ne (by omega)
  have hE : ∀ k, k = A.length → (∀ j, j < k → A[j]?.getD 0 = B[j]?.getD 0) → sameB na A na B = true := by
    rintro k rfl h
    simp [sameB, list_ext_getD A B hl h]
  have HE := hide hE
  have hN : ∀ k, A[k]?.getD 0 ≠ B[k]?.getD 0 → sameB na A na B = false := fun k h => sameB_no k h
  have HN := hide hN
  have hl' := hl.symm
  clear hE hN hA hB
  rw [← hl]
  generalize hb : sameB na A na B = s at *
  clear hb
  generalize hm : A.length = n at *
  have hm' : B.length = n := hl.symm
  clear hl hl'
  go_enter Try.func15, Try.ntmps15
  go_wp2
  go_loopw [5] (fun i wr => ∃ k : Nat, k ≤ n ∧ i = .int .i64 k ∧ Hid (∀ j, j < k → A[j]?.getD 0 = B[j]?.getD 0) ∧ Below w.heap.size w wr ∧ wr.cell? ⟨w.heap.size, 1, none⟩ = some (.slice (some ⟨b1, o1, none⟩) n ca) ∧ wr.cell? ⟨w.heap.size + 1, 1, none⟩ = some (.slice (some ⟨b2, o2, none⟩) n cb))
    (fun i _ => n - (intOf i).toNat)
  case atStart =>
    refine ⟨0, Nat.zero_le _, rfl, fun j hj => absurd hj (by omega), ((Below.refl _ _).alloc (Nat.le_refl _) _).alloc (by simp) _, ?_, ?_⟩
    · simp [go_sem]
    · simp [go_sem]
  case round =>
    obtain ⟨k, hk, rfl, hq, hbel, f1, f2⟩ := hrel
    by_cases hlt : k < n
    · have c1 : wr.cell? ⟨b1, o1 + k, none⟩ = some (.int .u32 ((A[k]?.getD 0 : Nat) : Int)) := by rw [hbel.cell (p := ⟨b1, o1 + k, none⟩) hb1]; exact hc1 k hlt
      have c2 : wr.cell? ⟨b2, o2 + k, none⟩ = some (.int .u32 ((B[k]?.getD 0 : Nat) : Int)) := by rw [hbel.cell (p := ⟨b2, o2 + k, none⟩) hb2]; exact hc2 k (by omega)
      clear hc1 hc2 HE hm hm'
      have hlt' : (k : Int) < (n : Int) := by omega
      by_cases hx : A[k]?.getD 0 = B[k]?.getD 0
      · have hq' : Hid (∀ j, j < k + 1 → A[j]?.getD 0 = B[j]?.getD 0) := fun j hj => by
          rcases Nat.lt_succ_iff_lt_or_eq.1 hj with h | h
          · exact hq.out j h
          · rw [h]; exact hx
        rw [hx] at c1
        clear hx hq HN
        generalize B[k]?.getD 0 = x at *
        go_wp2
        go_quiet (fail)
        go_wp2
        go_roundw
        case rel => exact ⟨k + 1, by omega, by go_num, hq', below_drewN hbel _, by simpa using f1, by simpa using f2⟩
        case measure => simp [intOf]; omega
      · have HS := hide (unhide HN k hx)
        have hx1 : (((A[k]?.getD 0 : Nat) : Int) != ((B[k]?.getD 0 : Nat) : Int)) = true := by rw [bne_iff_ne]; omega
        clear HN hq hx
        generalize B[k]?.getD 0 = x at *
        generalize A[k]?.getD 0 = y at *
        go_wp2
        go_quiet (fail)
        go_wp2
        go_ret
        exact ⟨ret_bool (unhide HS).symm, below_drewN hbel _⟩
    · have HS := hide (unhide HE k (by omega) hq.out)
      clear HE HN hc1 hc2
      go_wp2
      go_ret
      exact ⟨ret_bool (unhide HS).symm, hbel⟩

end Go.Proofs.Ytiebegjgaflfiaa
