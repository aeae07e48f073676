/- Small laws for a region that draws its order and holds calls that make memory. -/
import Derived.Test.YtiebegjgaflfiaaBase
import Derived.Deep.RegionHeld3
import Derived.Deep.DrawnRows
import Derived.Deep.RegionWith
import Derived.BigQuiet
import Derived.Outline
namespace Go.Proofs.Ytiebegjgaflfiaa
open Go.RowKit

/-- The world at hand under a name, with the facts that are wanted of it. -/
theorem at_world {P : Program} {c : Code} {Q : Exit → Act → World → Prop} {a : Act} {w : World} (F : World → Prop) (h : F w) (k : ∀ W, F W → Code.wp P c Q a W) : Code.wp P c Q a w := k w h

/-- Block b is a box of two cells, x and y. -/
def Box2 (w : World) (b : Nat) (x y : Value) : Prop := w.heap[b]? = some (.cells #[x, y] 24 (0, 0))
theorem Box2.c0 {w : World} {b : Nat} {x y : Value} (h : Box2 w b x y) : w.cell? ⟨b, 0, none⟩ = some x := by rw [cell_of_row w b 0 _ _ _ h]; rfl
theorem Box2.c1 {w : World} {b : Nat} {x y : Value} (h : Box2 w b x y) : w.cell? ⟨b, 1, none⟩ = some y := by rw [cell_of_row w b 1 _ _ _ h]; rfl
theorem Box2.free {w : World} {b : Nat} {x y : Value} (h : Box2 w b x y) (j : Nat) : w.frozen? ⟨b, j, none⟩ = false := frozen_of_row w b j _ _ h
theorem Box2.lt {w : World} {b : Nat} {x y : Value} (h : Box2 w b x y) : b < w.heap.size := (Array.getElem?_eq_some_iff.1 h).1
theorem Box2.below {w w' : World} {b : Nat} {x y : Value} (h : Box2 w b x y) {B : Nat} (hb : Below B w w') (hlt : b < B) : Box2 w' b x y := (hb.block b hlt).trans h
theorem Box2.new (w : World) (x y : Value) : Box2 (w.alloc (.cells #[x, y] 24)) w.heap.size x y := heap_alloc_new w _
theorem Box2.old {w : World} {b : Nat} {x y : Value} (h : Box2 w b x y) (o : Obj) : Box2 (w.alloc o) b x y := by
  unfold Box2; rw [Below.heap_alloc w o b h.lt]; exact h
theorem Box2.drew {w : World} {b : Nat} {x y : Value} (h : Box2 w b x y) : Box2 w.drew b x y := h
theorem Box2.drewN {w : World} {b : Nat} {x y : Value} (h : Box2 w b x y) (n : Nat) : Box2 (w.drewN n) b x y := h

end Go.Proofs.Ytiebegjgaflfiaa
