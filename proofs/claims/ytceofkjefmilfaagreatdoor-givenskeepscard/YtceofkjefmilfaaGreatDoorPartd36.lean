/- Part 36 of the texts. -/
import Derived.Test.YtceofkjefmilfaaGreatDoorPartd35
import Derived.Test.YtceofkjefmilfaaGreatDoorPartd33
import Derived.Test.YtceofkjefmilfaaGreatDoorPartd11
import Derived.WalkSmall
import Derived.Test.YtceofkjefmilfaaGreatDoorPartd34
import Derived.OwnWalk
import Derived.Test.YtceofkjefmilfaaGreatDoorPartd31
/- Contract of the closure in ledger.minor. -/
namespace Go.Proofs.YtceofkjefmilfaaGreatDoor
open Go.RowKit
attribute [local go_sem ↓] Go.wp_at_zero Go.wp_at_succ

/-- Block b holds these cells. -/
def CellsAt (w : World) (b : Nat) (cs : Array Value) (t : TypeId) : Prop := w.heap[b]? = some (.cells cs t (0, 0))
theorem CellsAt.cell {w : World} {b : Nat} {cs : Array Value} {t : TypeId} (h : CellsAt w b cs t) (j : Nat) : w.cell? ⟨b, j, none⟩ = cs[j]? := cell_of_row w b j _ _ _ h
theorem CellsAt.free {w : World} {b : Nat} {cs : Array Value} {t : TypeId} (h : CellsAt w b cs t) (j : Nat) : w.frozen? ⟨b, j, none⟩ = false := frozen_of_row w b j _ _ h
theorem CellsAt.lt {w : World} {b : Nat} {cs : Array Value} {t : TypeId} (h : CellsAt w b cs t) : b < w.heap.size := (Array.getElem?_eq_some_iff.1 h).1
theorem CellsAt.below {w w' : World} {b : Nat} {cs : Array Value} {t : TypeId} (h : CellsAt w b cs t) (hb : Below w.heap.size w w') : CellsAt w' b cs t := (hb.block b h.lt).trans h
theorem CellsAt.new (w : World) (cs : Array Value) (t : TypeId) : CellsAt (w.alloc (.cells cs t)) w.heap.size cs t := heap_alloc_new w _
end Go.Proofs.YtceofkjefmilfaaGreatDoor

/- Contract of ledger.minor. -/
namespace Go.Proofs.YtceofkjefmilfaaGreatDoor
open Go.RowKit
attribute [local go_sem ↓] Go.wp_at_zero Go.wp_at_succ

/-- The minor of a set of rows and a set of columns. -/
def GM (M : List Rw) (r c : Nat) : Int := detD ((elems r).map (valM M)) (elems c)
/-- What lay there at first lies there; what the map holds is right. -/
def LInv (w0 : World) (m : Nat) (M : List Rw) (w : World) : Prop := Below w0.heap.size w0 w ∧ LedAt w m (GM M)

theorem LInv.below {w0 w w' : World} {m : Nat} {M : List Rw} (h : LInv w0 m M w) (hb : Below w.heap.size w w') : LInv w0 m M w' := ⟨h.1.trans (hb.mono h.1.size), h.2.below hb⟩
end Go.Proofs.YtceofkjefmilfaaGreatDoor

/- Contract of ledger.widened. -/
namespace Go.Proofs.YtceofkjefmilfaaGreatDoor
open Go.RowKit
attribute [local go_sem ↓] Go.wp_at_zero Go.wp_at_succ
theorem CellsAt.put {w : World} {g : Nat} {x y : Value} {t : TypeId} (h : CellsAt w g #[x, y] t) (u u' : Value) : CellsAt ((w.setCell ⟨g, 0, none⟩ u).setCell ⟨g, 1, none⟩ u') g #[u, u'] t := by
  unfold CellsAt
  rw [heap_setCell_same _ g 1 _ _ _ (heap_setCell_same w g 0 _ _ _ h)]
  rfl
theorem CellsAt.other {w : World} {b g : Nat} {cs : Array Value} {t : TypeId} (h : CellsAt w b cs t) (hne : b ≠ g) (i j : Nat) (u u' : Value) : CellsAt ((w.setCell ⟨g, i, none⟩ u).setCell ⟨g, j, none⟩ u') b cs t := by
  unfold CellsAt
  rw [Below.heap_setCell _ _ _ _ (show b ≠ (⟨g, j, none⟩ : Addr).block from hne), Below.heap_setCell _ _ _ _ (show b ≠ (⟨g, i, none⟩ : Addr).block from hne)]
  exact h

end Go.Proofs.YtceofkjefmilfaaGreatDoor

/- Contract of the law's small. -/
namespace Go.Proofs.YtceofkjefmilfaaGreatDoor
open Go.RowKit
attribute [local go_sem ↓] Go.wp_at_zero Go.wp_at_succ
/-- A list of whole numbers in memory. -/
structure IR where
  ao : Option Addr
  cap : Nat
  I : List Int
def IR.nil : IR := ⟨none, 0, []⟩
def irAt (Ls : List IR) (i : Nat) : IR := Ls[i]?.getD IR.nil
def IMatAt (w : World) (ao : Option Addr) (cap : Nat) (Ls : List IR) : Prop :=
  Ls.length ≤ cap ∧ (∀ r ∈ Ls, IntsAt w r.ao r.cap r.I ∧ r.I.length ≤ 1000000) ∧ (Ls = [] ∨ ∃ b off, ao = some ⟨b, off, none⟩ ∧ b < w.heap.size ∧ ∀ i, i < Ls.length → w.cell? ⟨b, off + i, none⟩ = some (.slice (irAt Ls i).ao (irAt Ls i).I.length (irAt Ls i).cap))
theorem IMatAt.below {w w' : World} {ao : Option Addr} {cap : Nat} {Ls : List IR} (h : IMatAt w ao cap Ls) (hb : Below w.heap.size w w') : IMatAt w' ao cap Ls := by
  refine ⟨h.1, fun r hr => ⟨(h.2.1 r hr).1.below hb, (h.2.1 r hr).2⟩, ?_⟩
  rcases h.2.2 with e | ⟨b, off, h1, h2, h3⟩
  · exact .inl e
  · refine .inr ⟨b, off, h1, Nat.lt_of_lt_of_le h2 hb.size, fun i hi => ?_⟩
    rw [hb.cell (p := ⟨b, off + i, none⟩) h2]
    exact h3 i hi
theorem IMatAt.ne {w : World} {ao : Option Addr} {cap : Nat} {Ls : List IR} (h : IMatAt w ao cap Ls) (h0 : 0 < Ls.length) : ∃ b off, ao = some ⟨b, off, none⟩ ∧ b < w.heap.size ∧ ∀ i, i < Ls.length → w.cell? ⟨b, off + i, none⟩ = some (.slice (irAt Ls i).ao (irAt Ls i).I.length (irAt Ls i).cap) := by
  rcases h.2.2 with e | e
  · rw [e] at h0; simp at h0
  · exact e

end Go.Proofs.YtceofkjefmilfaaGreatDoor

/- Determinants by the first row, as the reference reckons them. -/
namespace Go.Proofs.YtceofkjefmilfaaGreatDoor
open Go.RowKit
/-- Places that are some of the first n. -/
def InI (n : Nat) (I : List Int) : Prop := ∀ x ∈ I, 0 ≤ x ∧ x < n
theorem InI.at {n : Nat} {I : List Int} (h : InI n I) {j : Nat} (hj : j < I.length) : ∃ q : Nat, atI I j = (q : Int) ∧ q < n ∧ (natI I)[j]?.getD 0 = q := by
  have h1 := h _ (List.getElem_mem hj)
  refine ⟨(I[j]).toNat, ?_, by omega, ?_⟩
  · unfold atI; rw [List.getElem?_eq_getElem hj]; simp; omega
  · unfold natI; rw [List.getElem?_map, List.getElem?_eq_getElem hj]; rfl
theorem IntsAt.nil (w : World) (ao : Option Addr) (cap : Nat) : IntsAt w ao cap [] := ⟨by simp, by simp, .inl rfl⟩

end Go.Proofs.YtceofkjefmilfaaGreatDoor

