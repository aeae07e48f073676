/- Part 35 of the texts. -/
import Derived.Test.YtceofkjefmilfaaGreatDoorPartb34
import Derived.Test.YtceofkjefmilfaaGreatDoorPartb33
import Derived.Test.YtceofkjefmilfaaGreatDoorPartb11
import Derived.WalkSmall
import Derived.OwnWalk
import Derived.Test.YtceofkjefmilfaaGreatDoorPartb31
import Derived.Test.YtceofkjefmilfaaGreatDoorPartb32
import Derived.Test.YtceofkjefmilfaaGreatDoorPartb18
import Derived.Test.YtceofkjefmilfaaGreatDoorPartb19
import Derived.Deep.Cut
import Derived.BigQuiet
import Derived.Deep.RegionLaw
import Derived.Test.YtceofkjefmilfaaGreatDoorPartb16
import Derived.Test.YtceofkjefmilfaaGreatDoorPartb29
/- Contract of the closure in ledger.minor. -/
namespace Go.Proofs.YtceofkjefmilfaaGreatDoor
open Go.RowKit
attribute [local go_sem ↓] Go.wp_at_zero Go.wp_at_succ

/-- Block b holds these cells. -/
def CellsAt (w : World) (b : Nat) (cs : Array Value) (t : TypeId) : Prop := w.heap[b]? = some (.cells cs t (0, 0))
theorem CellsAt.cell {w : World} {b : Nat} {cs : Array Value} {t : TypeId} (h : CellsAt w b cs t) (j : Nat) : w.cell? ⟨b, j, none⟩ = cs[j]? := cell_of_row w b j _ _ _ h
theorem CellsAt.lt {w : World} {b : Nat} {cs : Array Value} {t : TypeId} (h : CellsAt w b cs t) : b < w.heap.size := (Array.getElem?_eq_some_iff.1 h).1
theorem CellsAt.below {w w' : World} {b : Nat} {cs : Array Value} {t : TypeId} (h : CellsAt w b cs t) (hb : Below w.heap.size w w') : CellsAt w' b cs t := (hb.block b h.lt).trans h
end Go.Proofs.YtceofkjefmilfaaGreatDoor

/- Contract of ledger.minor. -/
namespace Go.Proofs.YtceofkjefmilfaaGreatDoor
open Go.RowKit
attribute [local go_sem ↓] Go.wp_at_zero Go.wp_at_succ

/-- The minor of a set of rows and a set of columns. -/
def GM (M : List Rw) (r c : Nat) : Int := detD ((elems r).map (valM M)) (elems c)
/-- What lay there at first lies there; what the map holds is right. -/
def LInv (w0 : World) (m : Nat) (M : List Rw) (w : World) : Prop := Below w0.heap.size w0 w ∧ LedAt w m (GM M)

theorem LInv.below {w0 w w' : World} {m : Nat} {M : List Rw} (h : LInv w0 m M w) (hb : Below w.heap.size w w') : LInv w0 m M w' := ⟨h.1.trans (hb.mono h.1.size), h.2.below hb⟩
end Go.Proofs.YtceofkjefmilfaaGreatDoor

/- Contract of the law's small. -/
namespace Go.Proofs.YtceofkjefmilfaaGreatDoor
open Go.RowKit
attribute [local go_sem ↓] Go.wp_at_zero Go.wp_at_succ
/-- A list of whole numbers in memory. -/
structure IR where
  ao : Option Addr
  cap : Nat
  I : List Int
def IR.nil : IR := ⟨none, 0, []⟩
def irAt (Ls : List IR) (i : Nat) : IR := Ls[i]?.getD IR.nil
def IMatAt (w : World) (ao : Option Addr) (cap : Nat) (Ls : List IR) : Prop :=
  Ls.length ≤ cap ∧ (∀ r ∈ Ls, IntsAt w r.ao r.cap r.I ∧ r.I.length ≤ 1000000) ∧ (Ls = [] ∨ ∃ b off, ao = some ⟨b, off, none⟩ ∧ b < w.heap.size ∧ ∀ i, i < Ls.length → w.cell? ⟨b, off + i, none⟩ = some (.slice (irAt Ls i).ao (irAt Ls i).I.length (irAt Ls i).cap))
theorem IMatAt.below {w w' : World} {ao : Option Addr} {cap : Nat} {Ls : List IR} (h : IMatAt w ao cap Ls) (hb : Below w.heap.size w w') : IMatAt w' ao cap Ls := by
  refine ⟨h.1, fun r hr => ⟨(h.2.1 r hr).1.below hb, (h.2.1 r hr).2⟩, ?_⟩
  rcases h.2.2 with e | ⟨b, off, h1, h2, h3⟩
  · exact .inl e
  · refine .inr ⟨b, off, h1, Nat.lt_of_lt_of_le h2 hb.size, fun i hi => ?_⟩
    rw [hb.cell (p := ⟨b, off + i, none⟩) h2]
    exact h3 i hi
theorem IMatAt.ne {w : World} {ao : Option Addr} {cap : Nat} {Ls : List IR} (h : IMatAt w ao cap Ls) (h0 : 0 < Ls.length) : ∃ b off, ao = some ⟨b, off, none⟩ ∧ b < w.heap.size ∧ ∀ i, i < Ls.length → w.cell? ⟨b, off + i, none⟩ = some (.slice (irAt Ls i).ao (irAt Ls i).I.length (irAt Ls i).cap) := by
  rcases h.2.2 with e | e
  · rw [e] at h0; simp at h0
  · exact e

end Go.Proofs.YtceofkjefmilfaaGreatDoor

/- Determinants by the first row, as the reference reckons them. -/
namespace Go.Proofs.YtceofkjefmilfaaGreatDoor
open Go.RowKit
/-- Places that are some of the first n. -/
def InI (n : Nat) (I : List Int) : Prop := ∀ x ∈ I, 0 ≤ x ∧ x < n
theorem InI.at {n : Nat} {I : List Int} (h : InI n I) {j : Nat} (hj : j < I.length) : ∃ q : Nat, atI I j = (q : Int) ∧ q < n ∧ (natI I)[j]?.getD 0 = q := by
  have h1 := h _ (List.getElem_mem hj)
  refine ⟨(I[j]).toNat, ?_, by omega, ?_⟩
  · unfold atI; rw [List.getElem?_eq_getElem hj]; simp; omega
  · unfold natI; rw [List.getElem?_map, List.getElem?_eq_getElem hj]; rfl
end Go.Proofs.YtceofkjefmilfaaGreatDoor

/- Package certify: Square, Residual by letters. -/
namespace Go.Proofs.YtceofkjefmilfaaGreatDoor
open Go.RowKit
attribute [local go_sem ↓] Go.wp_at_zero Go.wp_at_succ
/-- Three matrices' boxes and the answer's. -/
def Bx3D (w W : World) (r c p q s d : Int) (ao bo co : Option Addr) (na nb nc ca cb cc : Nat) : Prop :=
  BoxM W w.heap.size (.int .i64 r) (.int .i64 c) (.slice ao na ca) ∧ BoxM W (w.heap.size + 1) (.int .i64 p) (.int .i64 q) (.slice bo nb cb) ∧ BoxM W (w.heap.size + 1 + 1) (.int .i64 s) (.int .i64 d) (.slice co nc cc) ∧ Box3 W (w.heap.size + 1 + 1 + 1) (.bool false) (.slice none 0 0) (.int .i64 0) ∧ Below w.heap.size w W
theorem Bx3D.all {w W W' : World} {r c p q s d : Int} {ao bo co : Option Addr} {na nb nc ca cb cc : Nat} (h : Bx3D w W r c p q s d ao bo co na nb nc ca cb cc) (hb : Below W.heap.size W W') : Bx3D w W' r c p q s d ao bo co na nb nc ca cb cc :=
  ⟨h.1.all hb, h.2.1.all hb, h.2.2.1.all hb, h.2.2.2.1.all hb, h.2.2.2.2.trans (hb.mono h.2.2.2.2.size)⟩
end Go.Proofs.YtceofkjefmilfaaGreatDoor

