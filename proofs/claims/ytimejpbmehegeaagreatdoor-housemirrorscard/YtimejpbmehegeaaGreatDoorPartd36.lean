/- Part 36 of the texts. -/
import Derived.Test.YtimejpbmehegeaaGreatDoorPartd09
import Derived.Lib.BitFns
import Derived.Test.YtimejpbmehegeaaGreatDoorPartd35
import Derived.Test.YtimejpbmehegeaaGreatDoorPartd08
import Derived.Test.YtimejpbmehegeaaGreatDoorPartd07
import Derived.Test.YtimejpbmehegeaaGreatDoorPartd10
import Derived.Test.YtimejpbmehegeaaGreatDoorPartd01
import Derived.Test.YtimejpbmehegeaaGreatDoorPartd31
import Derived.Test.YtimejpbmehegeaaGreatDoorPartd32
import Derived.Test.YtimejpbmehegeaaGreatDoorPartd33
import Derived.Test.YtimejpbmehegeaaGreatDoorPartd16
import Derived.Test.YtimejpbmehegeaaGreatDoorPartd30
import Derived.OwnWalk
import Derived.Test.YtimejpbmehegeaaGreatDoorPartd11
/- Frames: what a call leaves alone, but for one block; what a number's box is to others. -/
namespace Go.Proofs.YtimejpbmehegeaaGreatDoor
open Go.RowKit
theorem Box2.otherx {w : World} {b g : Nat} {x y : Value} (h : Box2 w b x y) (hne : b ≠ g) (u u' : Value) : Box2 ((w.setCell ⟨g, 0, none⟩ u).setCell ⟨g, 1, none⟩ u') b x y := by
  unfold Box2
  rw [Below.heap_setCell _ _ _ _ (show b ≠ (⟨g, 1, none⟩ : Addr).block from hne), Below.heap_setCell _ _ _ _ (show b ≠ (⟨g, 0, none⟩ : Addr).block from hne)]
  exact h

end Go.Proofs.YtimejpbmehegeaaGreatDoor

/- Contract of exact's determinant. -/
namespace Go.Proofs.YtimejpbmehegeaaGreatDoor
open Go.RowKit
attribute [local go_sem ↓] Go.wp_at_zero Go.wp_at_succ

/-- A bool or a slice. -/
def isBS : Value → Bool
  | .bool _ => true
  | .slice _ _ _ => true
  | _ => false

end Go.Proofs.YtimejpbmehegeaaGreatDoor

/- A row of numbers in a block of the call's own, number by number overwritten (for ExactSums). -/
namespace Go.Proofs.YtimejpbmehegeaaGreatDoor
open Go.RowKit

theorem numCells_set : ∀ (S : List Nm) (k : Nat) (x : Nm), numCells (S.set k x) = ((numCells S).set (k * 2) (.bool x.neg)).set (k * 2 + 1) (.slice x.ao x.L.length x.cap)
  | [], k, x => by simp [numCells]
  | y :: S, 0, x => rfl
  | y :: S, k + 1, x => by
    have ih := numCells_set S k x
    have e : ∀ z T, numCells (z :: T) = .bool z.neg :: .slice z.ao z.L.length z.cap :: numCells T := fun _ _ => rfl
    rw [List.set_cons_succ, e, e, ih, show (k + 1) * 2 = k * 2 + 1 + 1 by omega]
    rfl

theorem numCells_isBS (S : List Nm) : ∀ (j : Nat) (v : Value), (numCells S)[j]? = some v → isBS v = true := by
  intro j v h
  have hm := List.mem_of_getElem? h
  unfold numCells at hm
  obtain ⟨x, _, hx⟩ := List.mem_flatMap.1 hm
  simp at hx
  rcases hx with rfl | rfl <;> rfl

/-- Block g holds just the numbers S. -/
def SumAt (w : World) (g : Nat) (S : List Nm) : Prop := w.heap[g]? = some (.cells (numCells S).toArray 52 (0, 0))

theorem SumAt.free {w : World} {g : Nat} {S : List Nm} (h : SumAt w g S) (j : Nat) : w.frozen? ⟨g, j, none⟩ = false := frozen_of_row w g j _ _ h
theorem SumAt.lt {w : World} {g : Nat} {S : List Nm} (h : SumAt w g S) : g < w.heap.size := (Array.getElem?_eq_some_iff.1 h).1
theorem SumAt.below {w w' : World} {g B : Nat} {S : List Nm} (h : SumAt w g S) (hb : Below B w w') (hg : g < B) : SumAt w' g S := (hb.block g hg).trans h
theorem SumAt.cells {w : World} {g : Nat} {S : List Nm} (h : SumAt w g S) {k : Nat} (hk : k < S.length) :
    w.cell? ⟨g, k * 2, none⟩ = some (.bool (nmAt S k).neg) ∧ w.cell? ⟨g, k * 2 + 1, none⟩ = some (.slice (nmAt S k).ao (nmAt S k).L.length (nmAt S k).cap) := by
  rw [cell_of_row w g _ _ _ _ h, cell_of_row w g _ _ _ _ h]
  simpa using numCells_get S k hk
theorem SumAt.set {w : World} {g : Nat} {S : List Nm} (h : SumAt w g S) (k : Nat) (x : Nm) : SumAt ((w.setCell ⟨g, k * 2, none⟩ (.bool x.neg)).setCell ⟨g, k * 2 + 1, none⟩ (.slice x.ao x.L.length x.cap)) g (S.set k x) := by
  unfold SumAt
  rw [heap_setCell_same _ g _ _ _ _ (heap_setCell_same w g _ _ _ _ h), numCells_set]
  simp
/-- Numbers stay: their limbs are no bools and no slices. -/
theorem LimbsAt.sum {w : World} {ao : Option Addr} {cap g : Nat} {L : List Nat} {S : List Nm} (h : LimbsAt w ao cap L) (ha : SumAt w g S) (i j : Nat) (u u' : Value) : LimbsAt ((w.setCell ⟨g, i, none⟩ u).setCell ⟨g, j, none⟩ u') ao cap L := by
  refine ⟨h.1, h.2.1, ?_⟩
  rcases h.2.2 with h0 | ⟨c, off, h1, h2, h3⟩
  · exact .inl h0
  · by_cases hL : L = []
    · exact .inl hL
    have hc : c ≠ g := by
      rintro rfl
      have h4 := h3 0 (List.length_pos_iff.2 hL)
      rw [cell_of_row w c _ _ _ _ ha] at h4
      have := numCells_isBS S (off + 0) _ (by simpa using h4)
      simp [isBS] at this
    refine .inr ⟨c, off, h1, by simpa [World.setCell] using h2, fun i' hi' => ?_⟩
    rw [cell_setCell_other _ _ _ _ (show c ≠ g from hc), cell_setCell_other _ _ _ _ (show c ≠ g from hc)]
    exact h3 i' hi'

/-- Out of the law on 'make'. -/
theorem SumAt.made {w : World} {base g n : Nat} (h : w.ownsRow base 52 2 (.slice (some ⟨g, 0, none⟩) n n) n (madeCells (Value.agg #[.bool false, .slice none 0 0]).cells (n * 2)).toList) : SumAt w g (List.replicate n Nm.nil) := by
  rcases h.2 with ⟨h', _⟩ | ⟨g', cap', cur, h', _, hg, _, _, hs, htake⟩
  · simp at h'
  · simp only [Value.slice.injEq, Option.some.injEq, Addr.mk.injEq, and_true, true_and] at h'
    obtain ⟨rfl, rfl⟩ := h'
    unfold SumAt
    rw [hg]
    rw [List.take_of_length_le (by simp [hs])] at htake
    have : cur = (numCells (List.replicate n Nm.nil)).toArray := by
      apply Array.toList_inj.1
      rw [htake]
      have hl : (numCells (List.replicate n Nm.nil)).length = n * 2 := by rw [length_numCells]; simp
      refine List.ext_getElem? fun i => ?_
      rcases Nat.lt_or_ge i (n * 2) with hi | hi
      · have hk : i / 2 < (List.replicate n Nm.nil).length := by simp; omega
        obtain ⟨q1, q2⟩ := numCells_get (List.replicate n Nm.nil) (i / 2) hk
        have e : nmAt (List.replicate n Nm.nil) (i / 2) = Nm.nil := by unfold nmAt; rw [List.getElem?_replicate]; split <;> rfl
        rw [e] at q1 q2
        rcases Nat.mod_two_eq_zero_or_one i with hm | hm
        · rw [show i / 2 * 2 = i by omega] at q1
          show _ = (numCells (List.replicate n Nm.nil))[i]?
          rw [q1]
          simp [madeCells, Value.cells, hm, hi, Nm.nil]
        · rw [show i / 2 * 2 + 1 = i by omega] at q2
          show _ = (numCells (List.replicate n Nm.nil))[i]?
          rw [q2]
          simp [madeCells, Value.cells, hm, hi, Nm.nil]
      · rw [List.getElem?_eq_none (by simpa [madeCells] using hi), List.getElem?_eq_none (by simpa [hl] using hi)]
    rw [this]
end Go.Proofs.YtimejpbmehegeaaGreatDoor

/- Package certify: Check, checkProduct. -/
namespace Go.Proofs.YtimejpbmehegeaaGreatDoor
open Go.RowKit
attribute [local go_sem ↓] Go.wp_at_zero Go.wp_at_succ

/-- What Check answers. -/
def ckE (r c : Int) (I : List Int) : Int := if okB r c I.length = true then (if fnK I I.length = true then 0 else 4) else 1

end Go.Proofs.YtimejpbmehegeaaGreatDoor

/- Contract of the reference's Det. -/
namespace Go.Proofs.YtimejpbmehegeaaGreatDoor
open Go.RowKit
attribute [local go_sem ↓] Go.wp_at_zero Go.wp_at_succ
theorem Box2.oth {w : World} {b g : Nat} {x y x' y' : Value} (_ : Box2 w g x' y') (h : Box2 w b x y) (hlt : b < g) (u u' : Value) : Box2 ((w.setCell ⟨g, 0, none⟩ u).setCell ⟨g, 1, none⟩ u') b x y := h.otherx (Nat.ne_of_lt hlt) u u'
end Go.Proofs.YtimejpbmehegeaaGreatDoor

