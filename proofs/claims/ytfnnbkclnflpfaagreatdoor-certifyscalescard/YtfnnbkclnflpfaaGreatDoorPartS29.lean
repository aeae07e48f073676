/- Part 29 of the texts. -/
import Derived.Test.YtfnnbkclnflpfaaGreatDoorPartS03
import Derived.Test.YtfnnbkclnflpfaaGreatDoorPartS28
import Derived.Deep.CutRange
/- Package certify: is a number at most another one times a power of two, and 2^-4000 more? -/
namespace Go.Proofs.YtfnnbkclnflpfaaGreatDoor
open Go.RowKit
attribute [local go_sem ↓] Go.wp_at_zero Go.wp_at_succ
/-- What holds in atMost: the numbers' boxes. -/
def AmSt (w wr : World) (na nb : Bool) (ao bo : Option Addr) (ka kb ca cb : Nat) (x y : Int) : Prop :=
  Box3 wr w.heap.size (.bool na) (.slice ao ka ca) (.int .i64 x) ∧ Box3 wr (w.heap.size + 1) (.bool nb) (.slice bo kb cb) (.int .i64 y) ∧ Below w.heap.size w wr
theorem AmSt.all {w wr w' : World} {na nb : Bool} {ao bo : Option Addr} {ka kb ca cb : Nat} {x y : Int} (h : AmSt w wr na nb ao bo ka kb ca cb x y) (hb : Below wr.heap.size wr w') : AmSt w w' na nb ao bo ka kb ca cb x y := ⟨h.1.all hb, h.2.1.all hb, h.2.2.trans (hb.mono h.2.2.size)⟩
theorem AmSt.start (w : World) (na nb : Bool) (ao bo : Option Addr) (ka kb ca cb : Nat) (x y : Int) : AmSt w ((w.alloc (.cells #[.bool na, .slice ao ka ca, .int .i64 x] 29)).alloc (.cells #[.bool nb, .slice bo kb cb, .int .i64 y] 29)) na nb ao bo ka kb ca cb x y := by
  have b0 := below_alloc9 w (.cells #[.bool na, .slice ao ka ca, .int .i64 x] 29)
  have s0 := size_alloc9 w (.cells #[.bool na, .slice ao ka ca, .int .i64 x] 29)
  have x0 := Box3.new w (.bool na) (.slice ao ka ca) (.int .i64 x)
  generalize w.alloc (.cells #[.bool na, .slice ao ka ca, .int .i64 x] 29) = w0 at *
  have b1 := below_alloc9 w0 (.cells #[.bool nb, .slice bo kb cb, .int .i64 y] 29)
  have k1 := Box3.new w0 (.bool nb) (.slice bo kb cb) (.int .i64 y)
  rw [s0] at k1
  exact ⟨x0.all b1, k1, b0.trans (b1.mono b0.size)⟩

/-- In the loop: the boxes, the number 1's. -/
def AlSt (w wr : World) (g : Nat) (na nb : Bool) (ao bo : Option Addr) (ka kb ca cb : Nat) (x y : Int) : Prop :=
  AmSt w wr na nb ao bo ka kb ca cb x y ∧ LimbsAt wr (some ⟨g, 0, none⟩) 1 [1] ∧ Box2 wr (g + 1) (.bool false) (.slice (some ⟨g, 0, none⟩) 1 1)
theorem AlSt.all {w wr w' : World} {g : Nat} {na nb : Bool} {ao bo : Option Addr} {ka kb ca cb : Nat} {x y : Int} (h : AlSt w wr g na nb ao bo ka kb ca cb x y) (hb : Below wr.heap.size wr w') : AlSt w w' g na nb ao bo ka kb ca cb x y := ⟨h.1.all hb, h.2.1.below hb, h.2.2.below hb h.2.2.lt⟩
theorem AlSt.start {w wc : World} {na nb : Bool} {ao bo : Option Addr} {ka kb ca cb : Nat} {x y : Int} (h : AmSt w wc na nb ao bo ka kb ca cb x y) :
    AlSt w ((wc.alloc (.cells #[.int .u32 1] 70)).alloc (.cells #[.bool false, .slice (some ⟨wc.heap.size, 0, none⟩) 1 1] 27)) wc.heap.size na nb ao bo ka kb ca cb x y := by
  have b0 := below_alloc9 wc (.cells #[.int .u32 1] 70)
  have s0 := size_alloc9 wc (.cells #[.int .u32 1] 70)
  have h0 := heap_alloc_new wc (.cells #[.int .u32 1] 70)
  generalize wc.alloc (.cells #[.int .u32 1] 70) = w0 at *
  have b1 := below_alloc9 w0 (.cells #[.bool false, .slice (some ⟨wc.heap.size, 0, none⟩) 1 1] 27)
  have k1 := Box2.new w0 (.bool false) (.slice (some ⟨wc.heap.size, 0, none⟩) 1 1)
  rw [s0] at k1
  have hl : LimbsAt w0 (some ⟨wc.heap.size, 0, none⟩) 1 [1] := ⟨by decide, by simp, .inr ⟨wc.heap.size, 0, rfl, by omega, fun i hi => by
    obtain rfl : i = 0 := by simpa using hi
    rw [cell_of_row w0 wc.heap.size _ _ _ _ h0]; rfl⟩⟩
  exact ⟨(h.all b0).all b1, hl.below b1, k1⟩

end Go.Proofs.YtfnnbkclnflpfaaGreatDoor

/- The reference of layer 11: Dot. -/
namespace Go.Proofs.YtfnnbkclnflpfaaGreatDoor
open Go.RowKit
attribute [local go_sem ↓] Go.wp_at_zero Go.wp_at_succ

/-- What holds in a sum's loop: the answer's box, the sum. -/
def DtSt (w wr : World) (lo s : Int) : Prop := Box3 wr w.heap.size (.bool false) (.slice none 0 0) (.int .i64 0) ∧ Kept wr (w.heap.size + 1) lo s ∧ Below w.heap.size w wr
theorem DtSt.all {w wr w' : World} {lo s : Int} (h : DtSt w wr lo s) (hb : Below wr.heap.size wr w') : DtSt w w' lo s := ⟨h.1.all hb, h.2.1.all hb, h.2.2.trans (hb.mono h.2.2.size)⟩
theorem DtSt.start (w : World) (lo : Int) : DtSt w ((w.alloc (.cells #[.bool false, .slice none 0 0, .int .i64 0] 29)).alloc (.cells #[.bool false, .slice none 0 0, .int .i64 0] 29)) lo 0 := by
  have b0 := below_alloc9 w (.cells #[.bool false, .slice none 0 0, .int .i64 0] 29)
  have s0 := size_alloc9 w (.cells #[.bool false, .slice none 0 0, .int .i64 0] 29)
  have x0 := Box3.new w (.bool false) (.slice none 0 0) (.int .i64 0)
  generalize w.alloc (.cells #[.bool false, .slice none 0 0, .int .i64 0] 29) = w0 at *
  have b1 := below_alloc9 w0 (.cells #[.bool false, .slice none 0 0, .int .i64 0] 29)
  have k1 := Kept.new w0 lo
  rw [s0] at k1
  exact ⟨x0.all b1, k1, b0.trans (b1.mono b0.size)⟩
/-- The sum's box is written. -/
theorem DtSt.put {w wr : World} {lo s t : Int} (h : DtSt w wr lo s) {n : Bool} {a : Option Addr} {l c : Nat} {X : Int} (hv : IsLv wr (.agg #[.bool n, .slice a l c, .int .i64 X]) lo t) :
    DtSt w (((wr.setCell ⟨w.heap.size + 1, 0, none⟩ (.bool n)).setCell ⟨w.heap.size + 1, 1, none⟩ (.slice a l c)).setCell ⟨w.heap.size + 1, 2, none⟩ (.int .i64 X)) lo t := by
  obtain ⟨h1, ⟨n', a', l', c', X', h2, _⟩, h3⟩ := h
  have ne : w.heap.size ≠ w.heap.size + 1 := by omega
  exact ⟨((h1.other (p := ⟨w.heap.size + 1, 0, none⟩) ne _).other (p := ⟨w.heap.size + 1, 1, none⟩) ne _).other (p := ⟨w.heap.size + 1, 2, none⟩) ne _, ⟨n, a, l, c, X, h2.put _ _ _, IsDy.put3 hv h2 _ _ _⟩, below_put3 h3 (by omega) _ _ _⟩

end Go.Proofs.YtfnnbkclnflpfaaGreatDoor

/- The reference of layer 11: Orthogonal by letters. -/
namespace Go.Proofs.YtfnnbkclnflpfaaGreatDoor
open Go.RowKit
attribute [local go_sem ↓] Go.wp_at_zero Go.wp_at_succ

theorem Box3.oth3 {w : World} {b : Nat} {x y z : Value} (h : Box3 w b x y z) {g : Nat} (hg : b ≠ g) (u u' u'' : Value) : Box3 (((w.setCell ⟨g, 0, none⟩ u).setCell ⟨g, 1, none⟩ u').setCell ⟨g, 2, none⟩ u'') b x y z :=
  ((h.other (p := ⟨g, 0, none⟩) hg u).other (p := ⟨g, 1, none⟩) hg u').other (p := ⟨g, 2, none⟩) hg u''
theorem Box3.ex {w : World} {b : Nat} {x y z : Value} (h : Box3 w b x y z) : ∃ g, g = b ∧ Box3 w g x y z := ⟨b, rfl, h⟩
/-- Another box of a number is written. -/
theorem Kept.oth3 {w : World} {b g : Nat} {lo s : Int} (h : Kept w b lo s) {x : Bool} {a : Option Addr} {l c : Nat} {y : Int} (hg : Box3 w g (.bool x) (.slice a l c) (.int .i64 y)) (hne : b ≠ g) (u u' u'' : Value) : Kept (((w.setCell ⟨g, 0, none⟩ u).setCell ⟨g, 1, none⟩ u').setCell ⟨g, 2, none⟩ u'') b lo s := by
  obtain ⟨n, a, l, c, X, h1, h2⟩ := h
  exact ⟨n, a, l, c, X, h1.oth3 hne _ _ _, IsDy.put3 h2 hg _ _ _⟩
/-- It is written itself. -/
theorem Kept.put {w : World} {g : Nat} {lo s t : Int} {lo' : Int} (h : Kept w g lo s) {n : Bool} {a : Option Addr} {l c : Nat} {X : Int} (hv : IsLv w (.agg #[.bool n, .slice a l c, .int .i64 X]) lo' t) : Kept (((w.setCell ⟨g, 0, none⟩ (.bool n)).setCell ⟨g, 1, none⟩ (.slice a l c)).setCell ⟨g, 2, none⟩ (.int .i64 X)) g lo' t := by
  obtain ⟨n', a', l', c', X', h1, _⟩ := h
  exact ⟨n, a, l, c, X, h1.put _ _ _, IsDy.put3 hv h1 _ _ _⟩

/-- What holds in the reference's Orthogonal: the matrix's box, the answer's, the sum's. -/
def OrSt (w wr : World) (r c n cap : Nat) (ao : Option Addr) (lo s : Int) : Prop :=
  BoxM wr w.heap.size (.int .i64 r) (.int .i64 c) (.slice ao n cap) ∧ Box3 wr (w.heap.size + 1) (.bool false) (.slice none 0 0) (.int .i64 0) ∧ Kept wr (w.heap.size + 1 + 1) lo s ∧ Below w.heap.size w wr
theorem OrSt.all {w wr w' : World} {r c n cap : Nat} {ao : Option Addr} {lo s : Int} (h : OrSt w wr r c n cap ao lo s) (hb : Below wr.heap.size wr w') : OrSt w w' r c n cap ao lo s :=
  ⟨h.1.all hb, h.2.1.all hb, h.2.2.1.all hb, h.2.2.2.trans (hb.mono h.2.2.2.size)⟩
theorem OrSt.start (w : World) (r c n cap : Nat) (ao : Option Addr) (lo : Int) : OrSt w (((w.alloc (.cells #[.int .i64 r, .int .i64 c, .slice ao n cap] 24)).alloc (.cells #[.bool false, .slice none 0 0, .int .i64 0] 29)).alloc (.cells #[.bool false, .slice none 0 0, .int .i64 0] 29)) r c n cap ao lo 0 := by
  obtain ⟨x0, x1, bb⟩ := boxes1D w r c ao n cap
  have s1 : ((w.alloc (.cells #[.int .i64 r, .int .i64 c, .slice ao n cap] 24)).alloc (.cells #[.bool false, .slice none 0 0, .int .i64 0] 29)).heap.size = w.heap.size + 1 + 1 := by simp
  generalize (w.alloc (.cells #[.int .i64 r, .int .i64 c, .slice ao n cap] 24)).alloc (.cells #[.bool false, .slice none 0 0, .int .i64 0] 29) = w1 at *
  have b2 := below_alloc9 w1 (.cells #[.bool false, .slice none 0 0, .int .i64 0] 29)
  have k2 := Kept.new w1 lo
  rw [s1] at k2
  exact ⟨x0.all b2, x1.all b2, k2, bb.trans (b2.mono bb.size)⟩
/-- The sum is written. -/
theorem OrSt.put {w wr : World} {r c n cap : Nat} {ao : Option Addr} {lo s t : Int} (h : OrSt w wr r c n cap ao lo s) {ng : Bool} {a : Option Addr} {l cp : Nat} {X : Int} (hv : IsLv wr (.agg #[.bool ng, .slice a l cp, .int .i64 X]) lo t) :
    OrSt w (((wr.setCell ⟨w.heap.size + 1 + 1, 0, none⟩ (.bool ng)).setCell ⟨w.heap.size + 1 + 1, 1, none⟩ (.slice a l cp)).setCell ⟨w.heap.size + 1 + 1, 2, none⟩ (.int .i64 X)) r c n cap ao lo t :=
  ⟨h.1.oth3 (by omega) _ _ _, h.2.1.oth3 (by omega) _ _ _, h.2.2.1.put hv, below_put3 h.2.2.2 (by omega) _ _ _⟩
end Go.Proofs.YtfnnbkclnflpfaaGreatDoor

/- The reference of layer 11: Residual by letters. -/
namespace Go.Proofs.YtfnnbkclnflpfaaGreatDoor
open Go.RowKit
attribute [local go_sem ↓] Go.wp_at_zero Go.wp_at_succ

/-- Three matrices' boxes, the answer's, the sum's. -/
def RsSt (w wr : World) (r c p q s d : Int) (ao bo co : Option Addr) (na nb nc ca cb cc : Nat) (lo z : Int) : Prop :=
  Bx3D w wr r c p q s d ao bo co na nb nc ca cb cc ∧ Kept wr (w.heap.size + 1 + 1 + 1 + 1) lo z
theorem RsSt.all {w wr w' : World} {r c p q s d : Int} {ao bo co : Option Addr} {na nb nc ca cb cc : Nat} {lo z : Int} (h : RsSt w wr r c p q s d ao bo co na nb nc ca cb cc lo z) (hb : Below wr.heap.size wr w') : RsSt w w' r c p q s d ao bo co na nb nc ca cb cc lo z := ⟨h.1.all hb, h.2.all hb⟩
theorem RsSt.start (w : World) (r c p q s d : Int) (ao bo co : Option Addr) (na nb nc ca cb cc : Nat) (lo : Int) : RsSt w (((((w.alloc (.cells #[.int .i64 r, .int .i64 c, .slice ao na ca] 24)).alloc (.cells #[.int .i64 p, .int .i64 q, .slice bo nb cb] 24)).alloc (.cells #[.int .i64 s, .int .i64 d, .slice co nc cc] 24)).alloc (.cells #[.bool false, .slice none 0 0, .int .i64 0] 29)).alloc (.cells #[.bool false, .slice none 0 0, .int .i64 0] 29)) r c p q s d ao bo co na nb nc ca cb cc lo 0 := by
  have h := Bx3D.start w r c p q s d ao bo co na nb nc ca cb cc
  have e : ((((w.alloc (.cells #[.int .i64 r, .int .i64 c, .slice ao na ca] 24)).alloc (.cells #[.int .i64 p, .int .i64 q, .slice bo nb cb] 24)).alloc (.cells #[.int .i64 s, .int .i64 d, .slice co nc cc] 24)).alloc (.cells #[.bool false, .slice none 0 0, .int .i64 0] 29)).heap.size = w.heap.size + 1 + 1 + 1 + 1 := by simp
  generalize (((w.alloc (.cells #[.int .i64 r, .int .i64 c, .slice ao na ca] 24)).alloc (.cells #[.int .i64 p, .int .i64 q, .slice bo nb cb] 24)).alloc (.cells #[.int .i64 s, .int .i64 d, .slice co nc cc] 24)).alloc (.cells #[.bool false, .slice none 0 0, .int .i64 0] 29) = w1 at *
  have b2 := below_alloc9 w1 (.cells #[.bool false, .slice none 0 0, .int .i64 0] 29)
  have k2 := Kept.new w1 lo
  rw [e] at k2
  exact ⟨h.all b2, k2⟩
theorem Bx3D.oth {w wr : World} {r c p q s d : Int} {ao bo co : Option Addr} {na nb nc ca cb cc : Nat} (h : Bx3D w wr r c p q s d ao bo co na nb nc ca cb cc) {g : Nat} (hg : w.heap.size + 1 + 1 + 1 < g) (u u' u'' : Value) : Bx3D w (((wr.setCell ⟨g, 0, none⟩ u).setCell ⟨g, 1, none⟩ u').setCell ⟨g, 2, none⟩ u'') r c p q s d ao bo co na nb nc ca cb cc :=
  ⟨h.1.oth3 (by omega) _ _ _, h.2.1.oth3 (by omega) _ _ _, h.2.2.1.oth3 (by omega) _ _ _, h.2.2.2.1.oth3 (by omega) _ _ _, below_put3 h.2.2.2.2 (by omega) _ _ _⟩
theorem RsSt.put {w wr : World} {r c p q s d : Int} {ao bo co : Option Addr} {na nb nc ca cb cc : Nat} {lo z t : Int} (h : RsSt w wr r c p q s d ao bo co na nb nc ca cb cc lo z) {ng : Bool} {a : Option Addr} {l cp : Nat} {X : Int} (hv : IsLv wr (.agg #[.bool ng, .slice a l cp, .int .i64 X]) lo t) :
    RsSt w (((wr.setCell ⟨(w.heap.size + 1 + 1 + 1 + 1), 0, none⟩ (.bool ng)).setCell ⟨(w.heap.size + 1 + 1 + 1 + 1), 1, none⟩ (.slice a l cp)).setCell ⟨(w.heap.size + 1 + 1 + 1 + 1), 2, none⟩ (.int .i64 X)) r c p q s d ao bo co na nb nc ca cb cc lo t := ⟨h.1.oth (by omega) _ _ _, h.2.put hv⟩
end Go.Proofs.YtfnnbkclnflpfaaGreatDoor

/- The reference of layer 11: Gradient by letters. -/
namespace Go.Proofs.YtfnnbkclnflpfaaGreatDoor
open Go.RowKit
attribute [local go_sem ↓] Go.wp_at_zero Go.wp_at_succ

theorem OwnD.made (w : World) (base : Nat) (lo : Int) (f : Nat → Int) (hb : base ≤ w.heap.size) : OwnD base (w.alloc (.cells #[] 29)) (.slice (some ⟨w.heap.size, 0, none⟩) 0 0) 0 lo f :=
  ⟨[], rfl, World.ownsRow_made w #[] 0 hb (by simp [maxLen]) (by simp), fun g hg => by cases hg; exact ⟨#[], _, heap_alloc_new w _, fun u hu => by simp at hu⟩, fun k hk => by omega⟩
theorem OwnD.congr {base : Nat} {w : World} {v : Value} {n : Nat} {lo : Int} {f g : Nat → Int} (h : OwnD base w v n lo f) (he : ∀ k, k < n → f k = g k) : OwnD base w v n lo g := by
  obtain ⟨D, h1, h2, h3, h4⟩ := h
  exact ⟨D, h1, h2, h3, fun k hk => by rw [← he k hk]; exact h4 k hk⟩

/-- Boxes and the sum stay where a row behind them grows. -/
theorem RsSt.grown {w W w' : World} {r c p q s d : Int} {ao bo co : Option Addr} {na nb nc ca cb cc : Nat} {lo z : Int} (h : RsSt w W r c p q s d ao bo co na nb nc ca cb cc lo z) {v : Value} (hc : Clear W v) (hl : ∀ k, v.ownBlock = some k → (w.heap.size + 5) ≤ k) (hg : W.grownBy w' v.ownBlock) : RsSt w w' r c p q s d ao bo co na nb nc ca cb cc lo z := by
  obtain ⟨⟨h1, h2, h3, h4, h5⟩, n', a', l', c', X', h6, h7⟩ := h
  have ne : ∀ b, b < (w.heap.size + 5) → v.ownBlock ≠ some b := fun b hb e => by have := hl b e; omega
  exact ⟨⟨h1.grown hg (ne _ (by omega)), h2.grown hg (ne _ (by omega)), h3.grown hg (ne _ (by omega)), (hg.block _ h4.lt (ne _ (by omega)).symm).trans h4, h5.grown hg h5.size (fun k hk => by have := hl k hk; omega)⟩, n', a', l', c', X', (hg.block _ h6.lt (ne _ (by omega)).symm).trans h6, h7.grownClear hc hg⟩

end Go.Proofs.YtfnnbkclnflpfaaGreatDoor

