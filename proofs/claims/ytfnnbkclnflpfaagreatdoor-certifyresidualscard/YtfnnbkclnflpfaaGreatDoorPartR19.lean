/- Part 19 of the texts. -/
import Derived.Test.YtfnnbkclnflpfaaGreatDoorPartR17
import Derived.Test.YtfnnbkclnflpfaaGreatDoorPartR16
import Derived.Deep.RegionHeld3
import Derived.Test.YtfnnbkclnflpfaaGreatDoorPartR18
import Derived.Test.YtfnnbkclnflpfaaGreatDoorPartR01
import Derived.Test.YtfnnbkclnflpfaaGreatDoorPartR03
import Derived.Deep.OwnRows
/- Contracts of times.sizeOf of any number, divFinite. -/
namespace Go.Proofs.YtfnnbkclnflpfaaGreatDoor
open Go.RowKit

/-- The limbs of a dyadic number at hand. -/
theorem IsDy.limbs {w : World} {n : Bool} {a : Option Addr} {l c : Nat} {X m Y : Int} (h : IsDy w (.agg #[.bool n, .slice a l c, .int .i64 X]) m Y) (hm : m.natAbs < TOP) :
    ∃ L, l = L.length ∧ LimbsAt w a c L ∧ rightB false L = true ∧ val L = m.natAbs ∧ L.length ≤ 512 := by
  obtain ⟨n', a', c', L, e1, h1, h2, h3, h4, h5⟩ := h.right hm
  simp only [Value.agg.injEq, Array.mk.injEq, List.cons.injEq, Value.bool.injEq, Value.slice.injEq, and_true] at e1
  obtain ⟨rfl, ⟨rfl, e2, rfl⟩, _⟩ := e1
  have hr : rightB false L = true := by
    simp only [rightB, Bool.and_eq_true, decide_eq_true_eq, Bool.not_eq_true', Bool.and_eq_false_iff, decide_eq_false_iff_not, Bool.or_eq_true] at h2 ⊢
    exact ⟨⟨h2.1.1, Or.inr trivial⟩, h2.2⟩
  exact ⟨L, e2, h1, hr, by rw [← h3, natAbs_sval], h4⟩

end Go.Proofs.YtfnnbkclnflpfaaGreatDoor

/- A list of bits; the sum of all: contracts of sum's All and the reference's. -/
namespace Go.Proofs.YtfnnbkclnflpfaaGreatDoor
open Go.RowKit

/-- The bits I lie at ao. -/
def BitsAt (w : World) (ao : Option Addr) (cap : Nat) (I : List Int) : Prop :=
  I.length ≤ cap ∧ (∀ x ∈ I, 0 ≤ x ∧ x ≤ 18446744073709551615) ∧ (I = [] ∨ ∃ b off, ao = some ⟨b, off, none⟩ ∧ b < w.heap.size ∧ ∀ i, i < I.length → w.cell? ⟨b, off + i, none⟩ = some (.int .u64 (I[i]?.getD 0)))

theorem BitsAt.below {w w' : World} {ao : Option Addr} {cap : Nat} {I : List Int} (h : BitsAt w ao cap I) (hb : Below w.heap.size w w') : BitsAt w' ao cap I := by
  refine ⟨h.1, h.2.1, ?_⟩
  rcases h.2.2 with h | ⟨b, off, h1, h2, h3⟩
  · exact .inl h
  · refine .inr ⟨b, off, h1, Nat.lt_of_lt_of_le h2 hb.size, fun i hi => ?_⟩
    rw [hb.cell (p := ⟨b, off + i, none⟩) h2]
    exact h3 i hi
def atB (I : List Int) (j : Nat) : Nat := (I[j]?.getD 0).toNat
theorem BitsAt.wf {w : World} {ao : Option Addr} {cap : Nat} {I : List Int} (h : BitsAt w ao cap I) (j : Nat) : I[j]?.getD 0 = (atB I j : Int) ∧ atB I j < 18446744073709551616 := by
  unfold atB
  by_cases hi : j < I.length
  · have := h.2.1 _ (List.getElem_mem hi)
    rw [List.getElem?_eq_getElem hi]
    simp only [Option.getD_some]
    omega
  · rw [List.getElem?_eq_none (by omega)]; simp
theorem BitsAt.ne {w : World} {ao : Option Addr} {cap : Nat} {I : List Int} (h : BitsAt w ao cap I) (h0 : 0 < I.length) : ∃ b off, ao = some ⟨b, off, none⟩ ∧ b < w.heap.size ∧ ∀ i, i < I.length → w.cell? ⟨b, off + i, none⟩ = some (.int .u64 (atB I i : Int)) := by
  rcases h.2.2 with e | ⟨b, off, e1, e2, e3⟩
  · rw [e] at h0; simp at h0
  · exact ⟨b, off, e1, e2, fun i hi => by rw [e3 i hi, (h.wf i).1]⟩

end Go.Proofs.YtfnnbkclnflpfaaGreatDoor

/- Rounding errs by a part in 2^53: numbers as rational ones. Ahead of stage 9. -/
namespace Go.Proofs.YtfnnbkclnflpfaaGreatDoor
open Go.RowKit

/-- A power of two. -/
def p2 (e : Int) : Rat := (2 : Rat) ^ e
end Go.Proofs.YtfnnbkclnflpfaaGreatDoor

/- Package vector: gather and each, of any function value. -/
namespace Go.Proofs.YtfnnbkclnflpfaaGreatDoor
open Go.RowKit

/-- A row of bits in a block of its own. -/
def bitV (x : Nat) : Value := .int .u64 (x : Int)
def RowB (w : World) (g : Nat) (S : List Nat) : Prop := w.heap[g]? = some (.cells (S.map bitV).toArray 52 (0, 0))

theorem RowB.cell {w : World} {g : Nat} {S : List Nat} (h : RowB w g S) (j : Nat) (hj : j < S.length) : w.cell? ⟨g, j, none⟩ = some (.int .u64 ((S[j]?.getD 0 : Nat) : Int)) := by
  rw [cell_of_row w g j _ _ _ h]
  simp [bitV, hj]
theorem RowB.free {w : World} {g : Nat} {S : List Nat} (h : RowB w g S) (j : Nat) : w.frozen? ⟨g, j, none⟩ = false := frozen_of_row w g j _ _ h
theorem RowB.set {w : World} {g : Nat} {S : List Nat} (h : RowB w g S) (j x : Nat) : RowB (w.setCell ⟨g, j, none⟩ (.int .u64 (x : Int))) g (S.set j x) := by
  unfold RowB
  rw [heap_setCell_same w g j _ _ _ h]
  simp [bitV, List.map_set]
theorem RowB.lt {w : World} {g : Nat} {S : List Nat} (h : RowB w g S) : g < w.heap.size := (Array.getElem?_eq_some_iff.1 h).1
theorem RowB.below {w w' : World} {g : Nat} {S : List Nat} (h : RowB w g S) {B : Nat} (hb : Below B w w') (hg : g < B) : RowB w' g S := by
  unfold RowB; rw [hb.block g hg]; exact h
theorem RowB.made (w : World) (n : Nat) : RowB (w.alloc (.cells (madeCells #[.int .u64 0] n) 52)) w.heap.size (List.replicate n 0) := by
  unfold RowB
  rw [heap_alloc_new w _]
  have : madeCells #[Value.int .u64 0] n = ((List.replicate n 0).map bitV).toArray := by
    apply Array.toList_inj.1
    refine List.ext_getElem (by simp [madeCells]) fun i h1 h2 => ?_
    simp [madeCells, bitV, Nat.mod_one]
  rw [this]

end Go.Proofs.YtfnnbkclnflpfaaGreatDoor

/- Package vector: the functions that gather and each are handed, by letters. -/
namespace Go.Proofs.YtfnnbkclnflpfaaGreatDoor
open Go.RowKit
attribute [local go_sem ↓] Go.wp_at_zero Go.wp_at_succ

theorem cell_keep {w w' : World} {p : Addr} {v : Value} (h : w.cell? p = some v) (hb : Below w.heap.size w w') : w'.cell? p = some v := by
  rw [hb.cell (World.block_lt_of_cell? w _ h)]; exact h

end Go.Proofs.YtfnnbkclnflpfaaGreatDoor

