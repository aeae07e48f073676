/- Part 35 of the texts. -/
import Derived.Test.YtceofkjefmilfaaGreatDoorParta34
import Derived.Test.YtceofkjefmilfaaGreatDoorParta32
import Derived.Test.YtceofkjefmilfaaGreatDoorParta10
import Derived.WalkSmall
import Derived.Test.YtceofkjefmilfaaGreatDoorParta33
import Derived.OwnWalk
import Derived.Test.YtceofkjefmilfaaGreatDoorParta30
import Derived.Test.YtceofkjefmilfaaGreatDoorParta05
import Derived.Test.YtceofkjefmilfaaGreatDoorParta02
import Derived.Test.YtceofkjefmilfaaGreatDoorParta07
import Derived.Test.YtceofkjefmilfaaGreatDoorParta17
import Derived.Test.YtceofkjefmilfaaGreatDoorParta18
import Derived.Deep.Cut
import Derived.BigQuiet
import Derived.Test.YtceofkjefmilfaaGreatDoorParta31
import Derived.Deep.RegionLaw
import Derived.Test.YtceofkjefmilfaaGreatDoorParta16
import Derived.Test.YtceofkjefmilfaaGreatDoorParta28
import Derived.Test.YtceofkjefmilfaaGreatDoorParta08
/- Contract of ledger.widened. -/
namespace Go.Proofs.YtceofkjefmilfaaGreatDoor
open Go.RowKit
attribute [local go_sem ↓] Go.wp_at_zero Go.wp_at_succ
theorem CellsAt.put {w : World} {g : Nat} {x y : Value} {t : TypeId} (h : CellsAt w g #[x, y] t) (u u' : Value) : CellsAt ((w.setCell ⟨g, 0, none⟩ u).setCell ⟨g, 1, none⟩ u') g #[u, u'] t := by
  unfold CellsAt
  rw [heap_setCell_same _ g 1 _ _ _ (heap_setCell_same w g 0 _ _ _ h)]
  rfl
theorem CellsAt.other {w : World} {b g : Nat} {cs : Array Value} {t : TypeId} (h : CellsAt w b cs t) (hne : b ≠ g) (i j : Nat) (u u' : Value) : CellsAt ((w.setCell ⟨g, i, none⟩ u).setCell ⟨g, j, none⟩ u') b cs t := by
  unfold CellsAt
  rw [Below.heap_setCell _ _ _ _ (show b ≠ (⟨g, j, none⟩ : Addr).block from hne), Below.heap_setCell _ _ _ _ (show b ≠ (⟨g, i, none⟩ : Addr).block from hne)]
  exact h

end Go.Proofs.YtceofkjefmilfaaGreatDoor

/- Contract of the law's small. -/
namespace Go.Proofs.YtceofkjefmilfaaGreatDoor
open Go.RowKit
attribute [local go_sem ↓] Go.wp_at_zero Go.wp_at_succ
/-- A list of whole numbers in memory. -/
structure IR where
  ao : Option Addr
  cap : Nat
  I : List Int
def IR.nil : IR := ⟨none, 0, []⟩
def irAt (Ls : List IR) (i : Nat) : IR := Ls[i]?.getD IR.nil
def IMatAt (w : World) (ao : Option Addr) (cap : Nat) (Ls : List IR) : Prop :=
  Ls.length ≤ cap ∧ (∀ r ∈ Ls, IntsAt w r.ao r.cap r.I ∧ r.I.length ≤ 1000000) ∧ (Ls = [] ∨ ∃ b off, ao = some ⟨b, off, none⟩ ∧ b < w.heap.size ∧ ∀ i, i < Ls.length → w.cell? ⟨b, off + i, none⟩ = some (.slice (irAt Ls i).ao (irAt Ls i).I.length (irAt Ls i).cap))
theorem IMatAt.below {w w' : World} {ao : Option Addr} {cap : Nat} {Ls : List IR} (h : IMatAt w ao cap Ls) (hb : Below w.heap.size w w') : IMatAt w' ao cap Ls := by
  refine ⟨h.1, fun r hr => ⟨(h.2.1 r hr).1.below hb, (h.2.1 r hr).2⟩, ?_⟩
  rcases h.2.2 with e | ⟨b, off, h1, h2, h3⟩
  · exact .inl e
  · refine .inr ⟨b, off, h1, Nat.lt_of_lt_of_le h2 hb.size, fun i hi => ?_⟩
    rw [hb.cell (p := ⟨b, off + i, none⟩) h2]
    exact h3 i hi
theorem IMatAt.ne {w : World} {ao : Option Addr} {cap : Nat} {Ls : List IR} (h : IMatAt w ao cap Ls) (h0 : 0 < Ls.length) : ∃ b off, ao = some ⟨b, off, none⟩ ∧ b < w.heap.size ∧ ∀ i, i < Ls.length → w.cell? ⟨b, off + i, none⟩ = some (.slice (irAt Ls i).ao (irAt Ls i).I.length (irAt Ls i).cap) := by
  rcases h.2.2 with e | e
  · rw [e] at h0; simp at h0
  · exact e

end Go.Proofs.YtceofkjefmilfaaGreatDoor

/- Determinants by the first row, as the reference reckons them. -/
namespace Go.Proofs.YtceofkjefmilfaaGreatDoor
open Go.RowKit
/-- Places that are some of the first n. -/
def InI (n : Nat) (I : List Int) : Prop := ∀ x ∈ I, 0 ≤ x ∧ x < n
theorem InI.at {n : Nat} {I : List Int} (h : InI n I) {j : Nat} (hj : j < I.length) : ∃ q : Nat, atI I j = (q : Int) ∧ q < n ∧ (natI I)[j]?.getD 0 = q := by
  have h1 := h _ (List.getElem_mem hj)
  refine ⟨(I[j]).toNat, ?_, by omega, ?_⟩
  · unfold atI; rw [List.getElem?_eq_getElem hj]; simp; omega
  · unfold natI; rw [List.getElem?_map, List.getElem?_eq_getElem hj]; rfl
end Go.Proofs.YtceofkjefmilfaaGreatDoor

/- Package certify: Square, Residual by letters. -/
namespace Go.Proofs.YtceofkjefmilfaaGreatDoor
open Go.RowKit
attribute [local go_sem ↓] Go.wp_at_zero Go.wp_at_succ
/-- Three matrices' boxes and the answer's. -/
def Bx3D (w W : World) (r c p q s d : Int) (ao bo co : Option Addr) (na nb nc ca cb cc : Nat) : Prop :=
  BoxM W w.heap.size (.int .i64 r) (.int .i64 c) (.slice ao na ca) ∧ BoxM W (w.heap.size + 1) (.int .i64 p) (.int .i64 q) (.slice bo nb cb) ∧ BoxM W (w.heap.size + 1 + 1) (.int .i64 s) (.int .i64 d) (.slice co nc cc) ∧ Box3 W (w.heap.size + 1 + 1 + 1) (.bool false) (.slice none 0 0) (.int .i64 0) ∧ Below w.heap.size w W
theorem Bx3D.all {w W W' : World} {r c p q s d : Int} {ao bo co : Option Addr} {na nb nc ca cb cc : Nat} (h : Bx3D w W r c p q s d ao bo co na nb nc ca cb cc) (hb : Below W.heap.size W W') : Bx3D w W' r c p q s d ao bo co na nb nc ca cb cc :=
  ⟨h.1.all hb, h.2.1.all hb, h.2.2.1.all hb, h.2.2.2.1.all hb, h.2.2.2.2.trans (hb.mono h.2.2.2.2.size)⟩
end Go.Proofs.YtceofkjefmilfaaGreatDoor

/- The turn of two numbers in the document's order; what it leaves, in exact numbers. Ahead of stage 12 (GivensOne, GivensRight, GivensKeeps). -/
namespace Go.Proofs.YtceofkjefmilfaaGreatDoor

/-- The turn of f and g: c, s and r. -/
def gvC (f g : Nat) : Nat := if fK g = 0 then 4607182418800017408 else if fK f = 0 then 0 else dV (xV f (-gvK f g)) (gvN f g)
def gvS (f g : Nat) : Nat := if fK g = 0 then 0 else if fK f = 0 then 4607182418800017408 else dV (xV g (-gvK f g)) (gvN f g)
def gvR (f g : Nat) : Nat := if fK g = 0 then f else if fK f = 0 then g else xV (gvN f g) (gvK f g)

/-- Neither very great nor very small. -/
def TameO (x : Nat) : Prop := x < 18446744073709551616 ∧ fFin x = true ∧ (fK x = 0 ∨ (-400 ≤ eX x ∧ eX x < 400))
theorem TameO.of {x : Nat} (hx : x < 18446744073709551616) (h : tmB 400 x = true) : TameO x := by
  unfold tmB at h
  rw [Bool.and_eq_true, Bool.or_eq_true, decide_eq_true_eq, decide_eq_true_eq] at h
  exact ⟨hx, h.1, h.2⟩
theorem ab_zero12 : ab 0 = 0 := by unfold ab; grind

end Go.Proofs.YtceofkjefmilfaaGreatDoor

