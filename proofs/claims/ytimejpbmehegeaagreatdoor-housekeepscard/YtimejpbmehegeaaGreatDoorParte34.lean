/- Part 34 of the texts. -/
import Derived.Test.YtimejpbmehegeaaGreatDoorParte33
import Derived.Test.YtimejpbmehegeaaGreatDoorParte05
import Derived.Maps.AppendAt
import Derived.Test.YtimejpbmehegeaaGreatDoorParte09
import Derived.Lib.BitFns
import Derived.Test.YtimejpbmehegeaaGreatDoorParte08
import Derived.Test.YtimejpbmehegeaaGreatDoorParte07
import Derived.Test.YtimejpbmehegeaaGreatDoorParte10
import Derived.Test.YtimejpbmehegeaaGreatDoorParte01
/- The reference of layer 10: Right, At, Zeros, Row, With. -/
namespace Go.Proofs.YtimejpbmehegeaaGreatDoor
open Go.RowKit
attribute [local go_sem ↓] Go.wp_at_zero Go.wp_at_succ

set_option maxRecDepth 20000 in
set_option maxHeartbeats 4000000 in
theorem rright_any (r c : Int) (ao : Option Addr) (n cap : Nat) (w : World) :
    Calls Tryz.prog 15 #[.agg #[.int .i64 r, .int .i64 c, .slice ao n cap]] w fun e w' => e = .returned (.bool (okB r c n)) ∧ Below w.heap.size w w' := by
  have hb0 := hide (below_alloc9 w (.cells #[.int .i64 r, .int .i64 c, .slice ao n cap] 36))
  rcases (show (r < 0 ∧ okB r c n = false) ∨ (0 ≤ r ∧ 6 < r ∧ okB r c n = false) ∨ (0 ≤ r ∧ r ≤ 6 ∧ c < 0 ∧ okB r c n = false) ∨ (0 ≤ r ∧ r ≤ 6 ∧ 0 ≤ c ∧ 6 < c ∧ okB r c n = false) ∨ (0 ≤ r ∧ r ≤ 6 ∧ 0 ≤ c ∧ c ≤ 6) by
    unfold okB
    by_cases h : 0 ≤ r ∧ r ≤ 6 ∧ 0 ≤ c ∧ c ≤ 6
    · omega
    · rw [decide_eq_false (fun g => h g.1)]; simp; omega) with ⟨h1, e⟩ | ⟨h1, h2, e⟩ | ⟨h1, h2, h3, e⟩ | ⟨h1, h2, h3, h4, e⟩ | ⟨h1, h2, h3, h4⟩
  · rw [e]
    clear e
    go_enter Tryz.func15, Tryz.ntmps15
    go_wp2
    go_ret
    exact ⟨rfl, unhide hb0⟩
  · rw [e]
    clear e
    go_enter Tryz.func15, Tryz.ntmps15
    go_wp2
    go_ret
    exact ⟨rfl, unhide hb0⟩
  · rw [e]
    clear e
    go_enter Tryz.func15, Tryz.ntmps15
    go_wp2
    go_ret
    exact ⟨rfl, unhide hb0⟩
  · rw [e]
    clear e
    go_enter Tryz.func15, Tryz.ntmps15
    go_wp2
    go_ret
    exact ⟨rfl, unhide hb0⟩
  · have hm : ∃ m : Nat, r * c = (m : Int) ∧ m ≤ 36 := by
      obtain ⟨a, rfl⟩ := Int.eq_ofNat_of_zero_le h1
      obtain ⟨b, rfl⟩ := Int.eq_ofNat_of_zero_le h3
      refine ⟨a * b, by simp, ?_⟩
      have : a * b ≤ 6 * 6 := Nat.mul_le_mul (by omega) (by omega)
      omega
    obtain ⟨m, hm, h36⟩ := hm
    have e2 : okB r c n = decide ((n : Int) = (m : Int)) := decide_eq_decide.2 (by rw [hm]; exact ⟨fun h => h.2, fun h => ⟨⟨h1, h2, h3, h4⟩, h⟩⟩)
    rw [e2]
    clear e2
    go_enter Tryz.func15, Tryz.ntmps15
    go_wp2
    go_ret
    refine ⟨?_, unhide hb0⟩
    first | rfl | simp

end Go.Proofs.YtimejpbmehegeaaGreatDoor

/- The reference of layer 10: With, Copy, Same. -/
namespace Go.Proofs.YtimejpbmehegeaaGreatDoor
open Go.RowKit
attribute [local go_sem ↓] Go.wp_at_zero Go.wp_at_succ

/-- A number of a list of one's own written over. -/
theorem OwnB.at {base : Nat} {w : World} {ao : Option Addr} {n cap : Nat} {S : List Nat} (h : OwnB base w (.slice ao n cap) S) {j : Nat} (hj : j < S.length) :
    ∃ g, ao = some ⟨g, 0, none⟩ ∧ base ≤ g ∧ g < w.heap.size ∧ w.cell? ⟨g, j, none⟩ = some (.int .u64 (S.getD j 0 : Nat)) ∧ w.frozen? ⟨g, j, none⟩ = false ∧
      ∀ x, x < 18446744073709551616 → OwnB base (w.setCell ⟨g, j, none⟩ (.int .u64 (x : Nat))) (.slice ao n cap) (S.set j x) := by
  obtain ⟨⟨h1, h2⟩, h3⟩ := h
  rcases h2 with ⟨_, h0⟩ | ⟨g, cap', cur, hv, hg, hh, hc, hm, hs, ht⟩
  · omega
  · simp only [Value.slice.injEq] at hv
    obtain ⟨rfl, rfl, rfl⟩ := hv
    have q : (S.map bitV)[j]? = some (.int .u64 ((S[j] : Nat) : Int)) := by
      rw [List.getElem?_map, List.getElem?_eq_getElem hj]; rfl
    rw [← ht, List.getElem?_take, if_pos (by omega)] at q
    refine ⟨g, rfl, hg, (Array.getElem?_eq_some_iff.1 hh).1, ?_, frozen_of_row w g j _ _ hh, fun x hx => ⟨⟨by simp, .inr ⟨g, cap, cur.setIfInBounds j (.int .u64 (x : Nat)), ?_, hg, heap_setCell_same w g j _ _ _ hh, by simpa using hc, hm, by simpa using hs, ?_⟩⟩, ?_⟩⟩
    · rw [cell_of_row w g j _ _ _ hh]
      have e : S.getD j 0 = S[j] := by rw [List.getD_eq_getElem?_getD, List.getElem?_eq_getElem hj]; rfl
      rw [e]
      simpa using q
    · simp
    · rw [Array.toList_setIfInBounds, List.take_set, List.length_set, ht, List.map_set]
      rfl
    · intro y hy
      rcases List.mem_or_eq_of_mem_set hy with e | e
      · exact h3 y e
      · rw [e]; exact hx

end Go.Proofs.YtimejpbmehegeaaGreatDoor

/- Rows of numbers, as they lie in memory. -/
namespace Go.Proofs.YtimejpbmehegeaaGreatDoor
open Go.RowKit

/-- A number in memory: its sign, where its limbs lie, the limbs. -/
structure Nm where
  neg : Bool
  ao : Option Addr
  cap : Nat
  L : List Nat

/-- A row in memory: where its numbers lie, the numbers. -/
structure Rw where
  ao : Option Addr
  cap : Nat
  R : List Nm

def Nm.nil : Nm := ⟨false, none, 0, []⟩
def Rw.nil : Rw := ⟨none, 0, []⟩
def nmAt (R : List Nm) (k : Nat) : Nm := R[k]?.getD Nm.nil
def rwAt (M : List Rw) (i : Nat) : Rw := M[i]?.getD Rw.nil
def Nm.v (x : Nm) : Value := .agg #[.bool x.neg, .slice x.ao x.L.length x.cap]
def Rw.v (r : Rw) : Value := .slice r.ao r.R.length r.cap

end Go.Proofs.YtimejpbmehegeaaGreatDoor

/- Rows of numbers, and rows of rows, that a call itself makes by appending. -/
namespace Go.Proofs.YtimejpbmehegeaaGreatDoor
open Go.RowKit
def numCells (R : List Nm) : List Value := R.flatMap (fun x => [.bool x.neg, .slice x.ao x.L.length x.cap])

theorem length_numCells (R : List Nm) : (numCells R).length = R.length * 2 := by
  induction R with
  | nil => rfl
  | cons x R ih => simp only [numCells, List.flatMap_cons, List.length_append, List.length_cons, List.length_nil] at ih ⊢; rw [show (List.flatMap (fun x => [Value.bool x.neg, Value.slice x.ao x.L.length x.cap]) R).length = R.length * 2 from ih]; omega
theorem numCells_get : ∀ (R : List Nm) (k : Nat), k < R.length → (numCells R)[k * 2]? = some (.bool (nmAt R k).neg) ∧ (numCells R)[k * 2 + 1]? = some (.slice (nmAt R k).ao (nmAt R k).L.length (nmAt R k).cap)
  | x :: R, 0, _ => by simp [numCells, nmAt]
  | x :: R, k + 1, h => by
    have := numCells_get R k (by simpa using h)
    have e : numCells (x :: R) = .bool x.neg :: .slice x.ao x.L.length x.cap :: numCells R := rfl
    rw [e, show (k + 1) * 2 = k * 2 + 1 + 1 by omega]
    simpa [nmAt] using this

end Go.Proofs.YtimejpbmehegeaaGreatDoor

/- Contract of exact's determinant. -/
namespace Go.Proofs.YtimejpbmehegeaaGreatDoor
open Go.RowKit
attribute [local go_sem ↓] Go.wp_at_zero Go.wp_at_succ

/-- A bool or a slice. -/
def isBS : Value → Bool
  | .bool _ => true
  | .slice _ _ _ => true
  | _ => false

end Go.Proofs.YtimejpbmehegeaaGreatDoor

