import Derived.Test.YtiebegjgaflfiaaProg
import Derived.Test.YtiebegjgaflfiaaBase
import Derived.Outline
import Derived.BigQuiet
import Derived.Deep.QuietTactic
namespace Go.Proofs.Ytiebegjgaflfiaa
open Go.RowKit

def rightB (neg : Bool) (L : List Nat) : Bool := decide (L.length ≤ 512) && !(decide (L.length = 0) && neg) && (decide (L.length = 0) || !decide (L[L.length - 1]?.getD 0 = 0))
/-- What Check says. -/
def chkE (neg : Bool) (L : List Nat) : Int := if rightB neg L then 0 else 1

set_option maxHeartbeats 400000 in
theorem check_any (neg : Bool) (ao : Option Addr) (cap : Nat) (L : List Nat) (w : World) (h : LimbsAt w ao cap L) (hl : L.length ≤ 35184372088830) :
    Calls Try.prog 9 #[.agg #[.bool neg, .slice ao L.length cap]] w fun e w' => e = .returned (.int .i64 (chkE neg L)) ∧ Below w.heap.size w w' := by
  rcases h.2.2 with h0 | ⟨b, off, rfl, hb, hc⟩
  · subst h0
    cases neg
    all_goals
      go_enter Try.func9, Try.ntmps9
      go_wp2
      go_ret
      exact ⟨ret_int (by simp [chkE, rightB]), (Below.refl _ _).alloc (Nat.le_refl _) _⟩
  · by_cases h0 : L = []
    · subst h0
      cases neg
      all_goals
        go_enter Try.func9, Try.ntmps9
        go_wp2
        go_ret
        exact ⟨ret_int (by simp [chkE, rightB]), (Below.refl _ _).alloc (Nat.le_refl _) _⟩
    · have hp : 0 < L.length := List.length_pos_iff.2 h0
      have hc1 := hc (L.length - 1) (by omega)
      have hx := h.2.1
      clear h h0 hc
      have HE : Hid (chkE neg L = if L.length ≤ 512 ∧ (L[L.length - 1]?.getD 0) ≠ 0 then 0 else 1) := by
        have e0 : L ≠ [] := by intro e; simp [e] at hp
        unfold Hid; simp [chkE, rightB, e0]
      generalize hn : L.length = n at *
      generalize L[n - 1]?.getD 0 = x at *
      generalize chkE neg L = ce at *
      clear hn hx
      have hne : ((n : Int) == 0) = false := by simp; omega
      have hgt : (0 : Int) < (n : Int) := by omega
      by_cases h5 : n ≤ 512
      · by_cases hx0 : x = 0
        · subst hx0
          go_enter Try.func9, Try.ntmps9
          go_wp2
          go_ret
          exact ⟨ret_int (by rw [HE.out]; simp), (Below.refl _ _).alloc (Nat.le_refl _) _⟩
        · have hx1 : ((x : Int) == 0) = false := by simp; omega
          go_enter Try.func9, Try.ntmps9
          go_wp2
          go_ret
          exact ⟨ret_int (by rw [HE.out]; simp [h5, hx0]), (Below.refl _ _).alloc (Nat.le_refl _) _⟩
      · go_enter Try.func9, Try.ntmps9
        go_wp2
        go_ret
        exact ⟨ret_int (by rw [HE.out]; simp [h5]), (Below.refl _ _).alloc (Nat.le_refl _) _⟩

set_option maxHeartbeats 400000 in
theorem right_any (neg : Bool) (ao : Option Addr) (cap : Nat) (L : List Nat) (w : World) (h : LimbsAt w ao cap L) (hl : L.length ≤ 35184372088830) :
    Calls Try.prog 10 #[.agg #[.bool neg, .slice ao L.length cap]] w fun e w' => e = .returned (.bool (rightB neg L)) ∧ Below w.heap.size w w' := by
  by_cases h0 : L = []
  · subst h0
    cases neg
    all_goals
      go_enter Try.func10, Try.ntmps10
      go_wp2
      go_ret
      exact ⟨ret_bool (by simp [rightB]), (Below.refl _ _).alloc (Nat.le_refl _) _⟩
  rcases h.2.2 with h1 | ⟨b, off, rfl, hb, hc⟩
  · exact absurd h1 h0
  have hp : 0 < L.length := List.length_pos_iff.2 h0
  have hc1 := hc (L.length - 1) (by omega)
  clear h hc
  have HE : Hid (rightB neg L = (decide (L.length ≤ 512) && !decide (L[L.length - 1]?.getD 0 = 0))) := by
    unfold Hid; simp [rightB, h0]
  clear h0
  generalize hn : L.length = n at *
  generalize L[n - 1]?.getD 0 = x at *
  generalize rightB neg L = ce at *
  clear hn
  have hne : ((n : Int) == 0) = false := by simp; omega
  have hgt : (0 : Int) < (n : Int) := by omega
  by_cases h5 : n ≤ 512
  · by_cases hx0 : x = 0
    · subst hx0
      go_enter Try.func10, Try.ntmps10
      go_wp2
      go_ret
      exact ⟨ret_bool (by rw [HE.out]; simp), (Below.refl _ _).alloc (Nat.le_refl _) _⟩
    · have hx1 : ((x : Int) == 0) = false := by simp; omega
      go_enter Try.func10, Try.ntmps10
      go_wp2
      go_ret
      exact ⟨ret_bool (by rw [HE.out]; simp [h5, hx0]), (Below.refl _ _).alloc (Nat.le_refl _) _⟩
  · go_enter Try.func10, Try.ntmps10
    go_wp2
    go_ret
    exact ⟨ret_bool (by rw [HE.out]; simp [h5]), (Below.refl _ _).alloc (Nat.le_refl _) _⟩

set_option maxHeartbeats 400000 in
theorem limbAt_any (ao : Option Addr) (cap : Nat) (L : List Nat) (i : Int) (k : Nat) (w : World) (h : LimbsAt w ao cap L) (hl : L.length ≤ 35184372088830) (hk : i = (k : Int)) :
    Calls Try.prog 53 #[.slice ao L.length cap, .int .i64 i] w fun e w' => e = .returned (.int .u64 ((L[k]?.getD 0 : Nat) : Int)) ∧ w = w' := by
  subst hk
  by_cases hlt : k < L.length
  · rcases h.2.2 with h0 | ⟨b, off, rfl, hb, hc⟩
    · subst h0; simp at hlt
    · have hc1 := hc k hlt
      have hx : L[k]?.getD 0 < 4294967296 := by rw [List.getElem?_eq_getElem hlt]; exact h.2.1 _ (List.getElem_mem hlt)
      clear h hc
      generalize L[k]?.getD 0 = x at *
      generalize L.length = n at *
      go_enter Try.func53, Try.ntmps53
      go_wp2
      go_ret
      exact ⟨rfl, rfl⟩
  · have hx : L[k]?.getD 0 = 0 := by rw [List.getElem?_eq_none (by omega)]; rfl
    rw [hx]
    clear h hx
    generalize L.length = n at *
    go_enter Try.func53, Try.ntmps53
    go_wp2
    go_ret
    exact ⟨rfl, rfl⟩

/-- -1, 0, 1. -/
def cmpI (a b : Int) : Int := if a < b then -1 else if b < a then 1 else 0

set_option maxHeartbeats 400000 in
theorem isNaNi_any (a : Int) (w : World) : Calls Try.prog 56 #[.int .i64 a] w fun e w' => e = .returned (.bool false) ∧ w = w' := by
  go_enter Try.func56, Try.ntmps56
  go_wp2
  go_ret
  exact ⟨rfl, rfl⟩

set_option maxHeartbeats 400000 in
theorem isNaNu_any (a : Int) (w : World) : Calls Try.prog 57 #[.int .u32 a] w fun e w' => e = .returned (.bool false) ∧ w = w' := by
  go_enter Try.func57, Try.ntmps57
  go_wp2
  go_ret
  exact ⟨rfl, rfl⟩

set_option maxHeartbeats 400000 in
theorem cmpi_any (a b : Int) (w : World) : Calls Try.prog 54 #[.int .i64 a, .int .i64 b] w fun e w' => e = .returned (.int .i64 (cmpI a b)) ∧ w = w' := by
  have HE : Hid (cmpI a b = if a < b then -1 else if b < a then 1 else 0) := rfl
  generalize cmpI a b = c at *
  rcases (show a < b ∨ b < a ∨ a = b by omega) with h | h | h
  · go_enter Try.func54, Try.ntmps54
    go_wp2_with (go_at_call 56; refine (isNaNi_any _ _).mono ?_; rintro e w' ⟨rfl, rfl⟩)
    go_ret
    exact ⟨ret_int (by rw [HE.out]; simp [h]), rfl⟩
  · have h' : ¬ a < b := by omega
    go_enter Try.func54, Try.ntmps54
    go_wp2_with (go_at_call 56; refine (isNaNi_any _ _).mono ?_; rintro e w' ⟨rfl, rfl⟩)
    go_ret
    exact ⟨ret_int (by rw [HE.out]; simp [h, h']), rfl⟩
  · subst h
    go_enter Try.func54, Try.ntmps54
    go_wp2_with (go_at_call 56; refine (isNaNi_any _ _).mono ?_; rintro e w' ⟨rfl, rfl⟩)
    go_ret
    exact ⟨ret_int (by rw [HE.out]; simp), rfl⟩

set_option maxHeartbeats 400000 in
theorem cmpu_any (a b : Int) (w : World) : Calls Try.prog 55 #[.int .u32 a, .int .u32 b] w fun e w' => e = .returned (.int .i64 (cmpI a b)) ∧ w = w' := by
  have HE : Hid (cmpI a b = if a < b then -1 else if b < a then 1 else 0) := rfl
  generalize cmpI a b = c at *
  rcases (show a < b ∨ b < a ∨ a = b by omega) with h | h | h
  · go_enter Try.func55, Try.ntmps55
    go_wp2_with (go_at_call 57; refine (isNaNu_any _ _).mono ?_; rintro e w' ⟨rfl, rfl⟩)
    go_ret
    exact ⟨ret_int (by rw [HE.out]; simp [h]), rfl⟩
  · have h' : ¬ a < b := by omega
    go_enter Try.func55, Try.ntmps55
    go_wp2_with (go_at_call 57; refine (isNaNu_any _ _).mono ?_; rintro e w' ⟨rfl, rfl⟩)
    go_ret
    exact ⟨ret_int (by rw [HE.out]; simp [h, h']), rfl⟩
  · subst h
    go_enter Try.func55, Try.ntmps55
    go_wp2_with (go_at_call 57; refine (isNaNu_any _ _).mono ?_; rintro e w' ⟨rfl, rfl⟩)
    go_ret
    exact ⟨ret_int (by rw [HE.out]; simp), rfl⟩
end Go.Proofs.Ytiebegjgaflfiaa
