/- Part 35 of the texts. -/
import Derived.Test.YtimejpbmehegeaaGreatDoorParte34
import Derived.Test.YtimejpbmehegeaaGreatDoorParte30
import Derived.Test.YtimejpbmehegeaaGreatDoorParte31
import Derived.Test.YtimejpbmehegeaaGreatDoorParte32
import Derived.Deep.RegionLaw
import Derived.Test.YtimejpbmehegeaaGreatDoorParte16
import Derived.Test.YtimejpbmehegeaaGreatDoorParte29
import Derived.Test.YtimejpbmehegeaaGreatDoorParte18
import Derived.Test.YtimejpbmehegeaaGreatDoorParte19
import Derived.Deep.Cut
import Derived.BigQuiet
import Derived.Test.YtimejpbmehegeaaGreatDoorParte09
import Derived.Lib.BitFns
import Derived.Test.YtimejpbmehegeaaGreatDoorParte08
import Derived.Test.YtimejpbmehegeaaGreatDoorParte07
import Derived.Test.YtimejpbmehegeaaGreatDoorParte10
import Derived.Maps.Own
import Derived.Maps.OwnOps
import Derived.Maps.OwnSet
import Derived.DeepKeys4
import Derived.Test.YtimejpbmehegeaaGreatDoorParte11
import Derived.WalkSmall
import Derived.Test.YtimejpbmehegeaaGreatDoorParte01
import Derived.OwnWalk
import Derived.Test.YtimejpbmehegeaaGreatDoorParte33
import Derived.Test.YtimejpbmehegeaaGreatDoorParte23
/- A row of numbers in a block of the call's own, number by number overwritten (for ExactSums). -/
namespace Go.Proofs.YtimejpbmehegeaaGreatDoor
open Go.RowKit

theorem numCells_set : ∀ (S : List Nm) (k : Nat) (x : Nm), numCells (S.set k x) = ((numCells S).set (k * 2) (.bool x.neg)).set (k * 2 + 1) (.slice x.ao x.L.length x.cap)
  | [], k, x => by simp [numCells]
  | y :: S, 0, x => rfl
  | y :: S, k + 1, x => by
    have ih := numCells_set S k x
    have e : ∀ z T, numCells (z :: T) = .bool z.neg :: .slice z.ao z.L.length z.cap :: numCells T := fun _ _ => rfl
    rw [List.set_cons_succ, e, e, ih, show (k + 1) * 2 = k * 2 + 1 + 1 by omega]
    rfl

theorem numCells_isBS (S : List Nm) : ∀ (j : Nat) (v : Value), (numCells S)[j]? = some v → isBS v = true := by
  intro j v h
  have hm := List.mem_of_getElem? h
  unfold numCells at hm
  obtain ⟨x, _, hx⟩ := List.mem_flatMap.1 hm
  simp at hx
  rcases hx with rfl | rfl <;> rfl

/-- Block g holds just the numbers S. -/
def SumAt (w : World) (g : Nat) (S : List Nm) : Prop := w.heap[g]? = some (.cells (numCells S).toArray 52 (0, 0))

theorem SumAt.free {w : World} {g : Nat} {S : List Nm} (h : SumAt w g S) (j : Nat) : w.frozen? ⟨g, j, none⟩ = false := frozen_of_row w g j _ _ h
theorem SumAt.lt {w : World} {g : Nat} {S : List Nm} (h : SumAt w g S) : g < w.heap.size := (Array.getElem?_eq_some_iff.1 h).1
theorem SumAt.below {w w' : World} {g B : Nat} {S : List Nm} (h : SumAt w g S) (hb : Below B w w') (hg : g < B) : SumAt w' g S := (hb.block g hg).trans h
theorem SumAt.cells {w : World} {g : Nat} {S : List Nm} (h : SumAt w g S) {k : Nat} (hk : k < S.length) :
    w.cell? ⟨g, k * 2, none⟩ = some (.bool (nmAt S k).neg) ∧ w.cell? ⟨g, k * 2 + 1, none⟩ = some (.slice (nmAt S k).ao (nmAt S k).L.length (nmAt S k).cap) := by
  rw [cell_of_row w g _ _ _ _ h, cell_of_row w g _ _ _ _ h]
  simpa using numCells_get S k hk
theorem SumAt.set {w : World} {g : Nat} {S : List Nm} (h : SumAt w g S) (k : Nat) (x : Nm) : SumAt ((w.setCell ⟨g, k * 2, none⟩ (.bool x.neg)).setCell ⟨g, k * 2 + 1, none⟩ (.slice x.ao x.L.length x.cap)) g (S.set k x) := by
  unfold SumAt
  rw [heap_setCell_same _ g _ _ _ _ (heap_setCell_same w g _ _ _ _ h), numCells_set]
  simp
/-- Numbers stay: their limbs are no bools and no slices. -/
theorem LimbsAt.sum {w : World} {ao : Option Addr} {cap g : Nat} {L : List Nat} {S : List Nm} (h : LimbsAt w ao cap L) (ha : SumAt w g S) (i j : Nat) (u u' : Value) : LimbsAt ((w.setCell ⟨g, i, none⟩ u).setCell ⟨g, j, none⟩ u') ao cap L := by
  refine ⟨h.1, h.2.1, ?_⟩
  rcases h.2.2 with h0 | ⟨c, off, h1, h2, h3⟩
  · exact .inl h0
  · by_cases hL : L = []
    · exact .inl hL
    have hc : c ≠ g := by
      rintro rfl
      have h4 := h3 0 (List.length_pos_iff.2 hL)
      rw [cell_of_row w c _ _ _ _ ha] at h4
      have := numCells_isBS S (off + 0) _ (by simpa using h4)
      simp [isBS] at this
    refine .inr ⟨c, off, h1, by simpa [World.setCell] using h2, fun i' hi' => ?_⟩
    rw [cell_setCell_other _ _ _ _ (show c ≠ g from hc), cell_setCell_other _ _ _ _ (show c ≠ g from hc)]
    exact h3 i' hi'

/-- Out of the law on 'make'. -/
theorem SumAt.made {w : World} {base g n : Nat} (h : w.ownsRow base 52 2 (.slice (some ⟨g, 0, none⟩) n n) n (madeCells (Value.agg #[.bool false, .slice none 0 0]).cells (n * 2)).toList) : SumAt w g (List.replicate n Nm.nil) := by
  rcases h.2 with ⟨h', _⟩ | ⟨g', cap', cur, h', _, hg, _, _, hs, htake⟩
  · simp at h'
  · simp only [Value.slice.injEq, Option.some.injEq, Addr.mk.injEq, and_true, true_and] at h'
    obtain ⟨rfl, rfl⟩ := h'
    unfold SumAt
    rw [hg]
    rw [List.take_of_length_le (by simp [hs])] at htake
    have : cur = (numCells (List.replicate n Nm.nil)).toArray := by
      apply Array.toList_inj.1
      rw [htake]
      have hl : (numCells (List.replicate n Nm.nil)).length = n * 2 := by rw [length_numCells]; simp
      refine List.ext_getElem? fun i => ?_
      rcases Nat.lt_or_ge i (n * 2) with hi | hi
      · have hk : i / 2 < (List.replicate n Nm.nil).length := by simp; omega
        obtain ⟨q1, q2⟩ := numCells_get (List.replicate n Nm.nil) (i / 2) hk
        have e : nmAt (List.replicate n Nm.nil) (i / 2) = Nm.nil := by unfold nmAt; rw [List.getElem?_replicate]; split <;> rfl
        rw [e] at q1 q2
        rcases Nat.mod_two_eq_zero_or_one i with hm | hm
        · rw [show i / 2 * 2 = i by omega] at q1
          show _ = (numCells (List.replicate n Nm.nil))[i]?
          rw [q1]
          simp [madeCells, Value.cells, hm, hi, Nm.nil]
        · rw [show i / 2 * 2 + 1 = i by omega] at q2
          show _ = (numCells (List.replicate n Nm.nil))[i]?
          rw [q2]
          simp [madeCells, Value.cells, hm, hi, Nm.nil]
      · rw [List.getElem?_eq_none (by simpa [madeCells] using hi), List.getElem?_eq_none (by simpa [hl] using hi)]
    rw [this]
end Go.Proofs.YtimejpbmehegeaaGreatDoor

/- Package certify: Check, checkProduct. -/
namespace Go.Proofs.YtimejpbmehegeaaGreatDoor
open Go.RowKit
attribute [local go_sem ↓] Go.wp_at_zero Go.wp_at_succ

/-- What Check answers. -/
def ckE (r c : Int) (I : List Int) : Int := if okB r c I.length = true then (if fnK I I.length = true then 0 else 4) else 1

end Go.Proofs.YtimejpbmehegeaaGreatDoor

/- Package certify: Square, Residual by letters. -/
namespace Go.Proofs.YtimejpbmehegeaaGreatDoor
open Go.RowKit
attribute [local go_sem ↓] Go.wp_at_zero Go.wp_at_succ

/-- One matrix's box and the answer's. -/
theorem boxes1D (w : World) (r c : Int) (ao : Option Addr) (n cap : Nat) : BoxM ((w.alloc (.cells #[.int .i64 r, .int .i64 c, .slice ao n cap] 36)).alloc (.cells #[.bool false, .slice none 0 0, .int .i64 0] 54)) w.heap.size (.int .i64 r) (.int .i64 c) (.slice ao n cap) ∧ Box3 ((w.alloc (.cells #[.int .i64 r, .int .i64 c, .slice ao n cap] 36)).alloc (.cells #[.bool false, .slice none 0 0, .int .i64 0] 54)) (w.heap.size + 1) (.bool false) (.slice none 0 0) (.int .i64 0) ∧ Below w.heap.size w ((w.alloc (.cells #[.int .i64 r, .int .i64 c, .slice ao n cap] 36)).alloc (.cells #[.bool false, .slice none 0 0, .int .i64 0] 54)) := by
  have b0 := below_alloc9 w (.cells #[.int .i64 r, .int .i64 c, .slice ao n cap] 36)
  have s0 := size_alloc9 w (.cells #[.int .i64 r, .int .i64 c, .slice ao n cap] 36)
  have x0 := BoxM.new w (.int .i64 r) (.int .i64 c) (.slice ao n cap)
  generalize w.alloc (.cells #[.int .i64 r, .int .i64 c, .slice ao n cap] 36) = w0 at *
  have b1 := below_alloc9 w0 (.cells #[.bool false, .slice none 0 0, .int .i64 0] 54)
  have x1 := Box3.new w0 (.bool false) (.slice none 0 0) (.int .i64 0)
  rw [s0] at x1
  exact ⟨x0.all b1, x1, b0.trans (b1.mono b0.size)⟩

end Go.Proofs.YtimejpbmehegeaaGreatDoor

/- The mathematics of a row times a power of two, and of a turned matrix (ahead of CertifyRanks, CertifyScales). -/
namespace Go.Proofs.YtimejpbmehegeaaGreatDoor
theorem p2_int (n : Nat) : p2 (n : Int) = ((2 ^ n : Int) : Rat) := by
  unfold p2
  rw [Rat.zpow_natCast]
  simp
end Go.Proofs.YtimejpbmehegeaaGreatDoor

/- The turn of two numbers in the document's order; what it leaves, in exact numbers. Ahead of stage 12 (GivensOne, GivensRight, GivensKeeps). -/
namespace Go.Proofs.YtimejpbmehegeaaGreatDoor
theorem fQ_one12 : fQ 4607182418800017408 = 1 := by
  unfold fQ
  rw [fZ_one11, show ((2 ^ 1074 : Int) : Rat) = p2 (1074 : Nat) from (p2_int 1074).symm, ← p2_add]
  exact p2_0
theorem fQ_zero12 : fQ 0 = 0 := by
  unfold fQ
  rw [fZ_zero11]
  exact Rat.zero_mul _
theorem fin_one12 : fFin 4607182418800017408 = true := by decide +kernel
theorem fin_zero12 : fFin 0 = true := by decide +kernel
theorem ab_zero12 : ab 0 = 0 := by unfold ab; grind

end Go.Proofs.YtimejpbmehegeaaGreatDoor

