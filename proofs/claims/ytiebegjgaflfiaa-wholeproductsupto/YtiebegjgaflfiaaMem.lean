/- A row of limbs that the call itself made: its block, known whole. -/
import Derived.Test.YtiebegjgaflfiaaBase
import Derived.Test.YtiebegjgaflfiaaNum
namespace Go.Proofs.Ytiebegjgaflfiaa
open Go.RowKit

def limbV (x : Nat) : Value := .int .u32 (x : Int)

/-- Block g holds the limbs S, and nothing of it is frozen. -/
def RowAt (w : World) (g : Nat) (S : List Nat) : Prop := w.heap[g]? = some (.cells (S.map limbV).toArray 48 (0, 0))

theorem RowAt.cell {w : World} {g : Nat} {S : List Nat} (h : RowAt w g S) (j : Nat) (hj : j < S.length) : w.cell? ⟨g, j, none⟩ = some (.int .u32 ((S[j]?.getD 0 : Nat) : Int)) := by
  rw [cell_of_row w g j _ _ _ h]
  simp [limbV, hj]

theorem RowAt.free {w : World} {g : Nat} {S : List Nat} (h : RowAt w g S) (j : Nat) : w.frozen? ⟨g, j, none⟩ = false := frozen_of_row w g j _ _ h

theorem RowAt.set {w : World} {g : Nat} {S : List Nat} (h : RowAt w g S) (j x : Nat) : RowAt (w.setCell ⟨g, j, none⟩ (.int .u32 (x : Int))) g (S.set j x) := by
  unfold RowAt
  rw [heap_setCell_same w g j _ _ _ h]
  simp [List.map_set, limbV]

theorem RowAt.lt {w : World} {g : Nat} {S : List Nat} (h : RowAt w g S) : g < w.heap.size := (Array.getElem?_eq_some_iff.1 h).1

theorem RowAt.limbs {w : World} {g : Nat} {S : List Nat} (h : RowAt w g S) (hf : Fits S) (cap : Nat) (hc : S.length ≤ cap) : LimbsAt w (some ⟨g, 0, none⟩) cap S :=
  ⟨hc, hf, .inr ⟨g, 0, rfl, h.lt, fun i hi => by rw [Nat.zero_add]; exact h.cell i hi⟩⟩

theorem RowAt.below {w w' : World} {g : Nat} {S : List Nat} (h : RowAt w g S) {B : Nat} (hb : Below B w w') (hg : g < B) : RowAt w' g S := by
  unfold RowAt; rw [hb.block g hg]; exact h

theorem RowAt.drewN {w : World} {g : Nat} {S : List Nat} (h : RowAt w g S) (n : Nat) : RowAt (w.drewN n) g S := h

/-- Out of the law on 'make'. -/
theorem RowAt.made {w : World} {base g n : Nat} (h : w.ownsRow base 48 1 (.slice (some ⟨g, 0, none⟩) n n) n (madeCells (Value.int .u32 0).cells (n * 1)).toList) : RowAt w g (List.replicate n 0) := by
  rcases h.2 with ⟨h', _⟩ | ⟨g', cap', cur, h', _, hg, _, _, hs, htake⟩
  · simp at h'
  · simp only [Value.slice.injEq, Option.some.injEq, Addr.mk.injEq, and_true, true_and] at h'
    obtain ⟨rfl, rfl⟩ := h'
    unfold RowAt
    rw [hg]
    rw [List.take_of_length_le (by simp [hs])] at htake
    have : cur = ((List.replicate n 0).map limbV).toArray := by
      apply Array.toList_inj.1
      rw [htake]
      refine List.ext_getElem (by simp [madeCells]) fun i h1 h2 => ?_
      simp [madeCells, Value.cells, limbV, Nat.mod_one]
    rw [this]

end Go.Proofs.Ytiebegjgaflfiaa
