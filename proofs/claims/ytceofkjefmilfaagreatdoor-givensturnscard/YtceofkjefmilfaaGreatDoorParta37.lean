/- Part 37 of the texts. -/
import Derived.Test.YtceofkjefmilfaaGreatDoorParta08
import Derived.Test.YtceofkjefmilfaaGreatDoorParta35
import Derived.Test.YtceofkjefmilfaaGreatDoorParta31
import Derived.Deep.CutRange
/- Package certify: is a number at most another one times a power of two, and 2^-4000 more? -/
namespace Go.Proofs.YtceofkjefmilfaaGreatDoor
open Go.RowKit
attribute [local go_sem ↓] Go.wp_at_zero Go.wp_at_succ
/-- What holds in atMost: the numbers' boxes. -/
def AmSt (w wr : World) (na nb : Bool) (ao bo : Option Addr) (ka kb ca cb : Nat) (x y : Int) : Prop :=
  Box3 wr w.heap.size (.bool na) (.slice ao ka ca) (.int .i64 x) ∧ Box3 wr (w.heap.size + 1) (.bool nb) (.slice bo kb cb) (.int .i64 y) ∧ Below w.heap.size w wr
theorem AmSt.all {w wr w' : World} {na nb : Bool} {ao bo : Option Addr} {ka kb ca cb : Nat} {x y : Int} (h : AmSt w wr na nb ao bo ka kb ca cb x y) (hb : Below wr.heap.size wr w') : AmSt w w' na nb ao bo ka kb ca cb x y := ⟨h.1.all hb, h.2.1.all hb, h.2.2.trans (hb.mono h.2.2.size)⟩
/-- In the loop: the boxes, the number 1's. -/
def AlSt (w wr : World) (g : Nat) (na nb : Bool) (ao bo : Option Addr) (ka kb ca cb : Nat) (x y : Int) : Prop :=
  AmSt w wr na nb ao bo ka kb ca cb x y ∧ LimbsAt wr (some ⟨g, 0, none⟩) 1 [1] ∧ Box2 wr (g + 1) (.bool false) (.slice (some ⟨g, 0, none⟩) 1 1)
theorem AlSt.all {w wr w' : World} {g : Nat} {na nb : Bool} {ao bo : Option Addr} {ka kb ca cb : Nat} {x y : Int} (h : AlSt w wr g na nb ao bo ka kb ca cb x y) (hb : Below wr.heap.size wr w') : AlSt w w' g na nb ao bo ka kb ca cb x y := ⟨h.1.all hb, h.2.1.below hb, h.2.2.below hb h.2.2.lt⟩
end Go.Proofs.YtceofkjefmilfaaGreatDoor

/- The reference of layer 11: Dot. -/
namespace Go.Proofs.YtceofkjefmilfaaGreatDoor
open Go.RowKit
attribute [local go_sem ↓] Go.wp_at_zero Go.wp_at_succ

/-- What holds in a sum's loop: the answer's box, the sum. -/
def DtSt (w wr : World) (lo s : Int) : Prop := Box3 wr w.heap.size (.bool false) (.slice none 0 0) (.int .i64 0) ∧ Kept wr (w.heap.size + 1) lo s ∧ Below w.heap.size w wr
theorem DtSt.all {w wr w' : World} {lo s : Int} (h : DtSt w wr lo s) (hb : Below wr.heap.size wr w') : DtSt w w' lo s := ⟨h.1.all hb, h.2.1.all hb, h.2.2.trans (hb.mono h.2.2.size)⟩
end Go.Proofs.YtceofkjefmilfaaGreatDoor

/- The reference of layer 11: Orthogonal by letters. -/
namespace Go.Proofs.YtceofkjefmilfaaGreatDoor
open Go.RowKit
attribute [local go_sem ↓] Go.wp_at_zero Go.wp_at_succ
/-- What holds in the reference's Orthogonal: the matrix's box, the answer's, the sum's. -/
def OrSt (w wr : World) (r c n cap : Nat) (ao : Option Addr) (lo s : Int) : Prop :=
  BoxM wr w.heap.size (.int .i64 r) (.int .i64 c) (.slice ao n cap) ∧ Box3 wr (w.heap.size + 1) (.bool false) (.slice none 0 0) (.int .i64 0) ∧ Kept wr (w.heap.size + 1 + 1) lo s ∧ Below w.heap.size w wr
theorem OrSt.all {w wr w' : World} {r c n cap : Nat} {ao : Option Addr} {lo s : Int} (h : OrSt w wr r c n cap ao lo s) (hb : Below wr.heap.size wr w') : OrSt w w' r c n cap ao lo s :=
  ⟨h.1.all hb, h.2.1.all hb, h.2.2.1.all hb, h.2.2.2.trans (hb.mono h.2.2.2.size)⟩
end Go.Proofs.YtceofkjefmilfaaGreatDoor

/- The reference of layer 11: Residual by letters. -/
namespace Go.Proofs.YtceofkjefmilfaaGreatDoor
open Go.RowKit
attribute [local go_sem ↓] Go.wp_at_zero Go.wp_at_succ

/-- Three matrices' boxes, the answer's, the sum's. -/
def RsSt (w wr : World) (r c p q s d : Int) (ao bo co : Option Addr) (na nb nc ca cb cc : Nat) (lo z : Int) : Prop :=
  Bx3D w wr r c p q s d ao bo co na nb nc ca cb cc ∧ Kept wr (w.heap.size + 1 + 1 + 1 + 1) lo z
theorem RsSt.all {w wr w' : World} {r c p q s d : Int} {ao bo co : Option Addr} {na nb nc ca cb cc : Nat} {lo z : Int} (h : RsSt w wr r c p q s d ao bo co na nb nc ca cb cc lo z) (hb : Below wr.heap.size wr w') : RsSt w w' r c p q s d ao bo co na nb nc ca cb cc lo z := ⟨h.1.all hb, h.2.all hb⟩
end Go.Proofs.YtceofkjefmilfaaGreatDoor

/- The reference of layer 11: Gradient by letters. -/
namespace Go.Proofs.YtceofkjefmilfaaGreatDoor
open Go.RowKit
attribute [local go_sem ↓] Go.wp_at_zero Go.wp_at_succ
theorem OwnD.congr {base : Nat} {w : World} {v : Value} {n : Nat} {lo : Int} {f g : Nat → Int} (h : OwnD base w v n lo f) (he : ∀ k, k < n → f k = g k) : OwnD base w v n lo g := by
  obtain ⟨D, h1, h2, h3, h4⟩ := h
  exact ⟨D, h1, h2, h3, fun k hk => by rw [← he k hk]; exact h4 k hk⟩

end Go.Proofs.YtceofkjefmilfaaGreatDoor

