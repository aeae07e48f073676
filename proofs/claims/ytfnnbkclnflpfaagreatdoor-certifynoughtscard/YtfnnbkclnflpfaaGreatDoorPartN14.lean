/- Part 14 of the texts. -/
import Derived.Test.YtfnnbkclnflpfaaGreatDoorPartN12
import Derived.Test.YtfnnbkclnflpfaaGreatDoorPartN13
import Derived.Deep.Cut
import Derived.BigQuiet
import Derived.Test.YtfnnbkclnflpfaaGreatDoorPartN11
import Derived.Test.YtfnnbkclnflpfaaGreatDoorPartN10
import Derived.Test.YtfnnbkclnflpfaaGreatDoorPartN08
import Derived.Deep.RegionLaw
import Derived.Test.YtfnnbkclnflpfaaGreatDoorPartN06
import Derived.Deep.RegionHeld3
/- Contract of the reference's Nearest, where digits are dropped: the walk. -/
namespace Go.Proofs.YtfnnbkclnflpfaaGreatDoor
open Go.RowKit

theorem at_thenB {K : Act → World → Prop} {Q : Exit → Act → World → Prop} {a : Act} {w : World} (F : World → Prop) (h : F w) (k : ∀ W, F W → Exit.then K Q .normal a W) : Exit.then K Q .normal a w := k w h

end Go.Proofs.YtfnnbkclnflpfaaGreatDoor

/- Contracts of package times: signed, mulFinite, Mul, Square. -/
namespace Go.Proofs.YtfnnbkclnflpfaaGreatDoor
open Go.RowKit
theorem fZ_neg (b : Nat) (h0 : fK b ≠ 0) : fZ b ≠ 0 ∧ decide (fZ b < 0) = fS b := by
  have hr : rv (fR b) ≠ 0 := fun e => h0 ((fK_zero b).2 ((rv_eq0 _).1 e))
  unfold fZ pv
  cases fS b
  · simp only [Bool.false_eq_true, if_false]
    exact ⟨by omega, decide_eq_false (by omega)⟩
  · simp only [if_true]
    exact ⟨by omega, decide_eq_true (by omega)⟩
end Go.Proofs.YtfnnbkclnflpfaaGreatDoor

/- The reference's calls of layer 1 of numbers at hand, for its Quotient; what holds in Quotient's loop. -/
namespace Go.Proofs.YtfnnbkclnflpfaaGreatDoor
open Go.RowKit
/-- What holds in Quotient: its boxes, the quotient's and the rest's numbers. -/
def QSt (w : World) (va vb : Value × Value) (wr : World) (vq : Value × Value) (zq : Int) (vr : Value × Value) (zr : Int) : Prop :=
  Below w.heap.size w wr ∧ Box2 wr w.heap.size va.1 va.2 ∧ Box2 wr (w.heap.size + 1) vb.1 vb.2 ∧ Box2 wr (w.heap.size + 1 + 1) (.bool false) (.slice none 0 0) ∧ Box2 wr (w.heap.size + 1 + 1 + 1) (.bool false) (.slice none 0 0) ∧ Box2 wr (w.heap.size + 1 + 1 + 1 + 1) vq.1 vq.2 ∧ Box2 wr (w.heap.size + 1 + 1 + 1 + 1 + 1) vr.1 vr.2 ∧ IsNum (w.heap.size + 6) wr (.agg #[vq.1, vq.2]) zq ∧ IsNum (w.heap.size + 6) wr (.agg #[vr.1, vr.2]) zr

theorem QSt.below {w wr w' : World} {va vb vq vr : Value × Value} {zq zr : Int} (h : QSt w va vb wr vq zq vr zr) (hb : Below wr.heap.size wr w') : QSt w va vb w' vq zq vr zr := by
  obtain ⟨h0, h1, h2, h3, h4, h5, h6, h7, h8⟩ := h
  exact ⟨h0.trans (hb.mono h0.size), h1.all hb, h2.all hb, h3.all hb, h4.all hb, h5.all hb, h6.all hb, h7.below hb, h8.below hb⟩
/-- The boxes' cells. -/
theorem QSt.cells {w wr : World} {va vb vq vr : Value × Value} {zq zr : Int} (h : QSt w va vb wr vq zq vr zr) :
    (wr.cell? ⟨w.heap.size, 0, none⟩ = some va.1 ∧ wr.cell? ⟨w.heap.size, 1, none⟩ = some va.2) ∧ (wr.cell? ⟨w.heap.size + 1, 0, none⟩ = some vb.1 ∧ wr.cell? ⟨w.heap.size + 1, 1, none⟩ = some vb.2) ∧
    (wr.cell? ⟨w.heap.size + 1 + 1 + 1 + 1, 0, none⟩ = some vq.1 ∧ wr.cell? ⟨w.heap.size + 1 + 1 + 1 + 1, 1, none⟩ = some vq.2 ∧ wr.frozen? ⟨w.heap.size + 1 + 1 + 1 + 1, 0, none⟩ = false ∧ wr.frozen? ⟨w.heap.size + 1 + 1 + 1 + 1, 1, none⟩ = false) ∧
    (wr.cell? ⟨w.heap.size + 1 + 1 + 1 + 1 + 1, 0, none⟩ = some vr.1 ∧ wr.cell? ⟨w.heap.size + 1 + 1 + 1 + 1 + 1, 1, none⟩ = some vr.2 ∧ wr.frozen? ⟨w.heap.size + 1 + 1 + 1 + 1 + 1, 0, none⟩ = false ∧ wr.frozen? ⟨w.heap.size + 1 + 1 + 1 + 1 + 1, 1, none⟩ = false) := by
  obtain ⟨h0, h1, h2, h3, h4, h5, h6, h7, h8⟩ := h
  exact ⟨⟨h1.c0, h1.c1⟩, ⟨h2.c0, h2.c1⟩, ⟨h5.c0, h5.c1, h5.free 0, h5.free 1⟩, ⟨h6.c0, h6.c1, h6.free 0, h6.free 1⟩⟩

end Go.Proofs.YtfnnbkclnflpfaaGreatDoor

/- The reference's Quotient. -/
namespace Go.Proofs.YtfnnbkclnflpfaaGreatDoor
open Go.RowKit
attribute [local go_sem ↓] Go.wp_at_zero Go.wp_at_succ
theorem QSt.as {w wr : World} {va vb vq vr : Value × Value} {zq zr zq' zr' : Int} (h : QSt w va vb wr vq zq vr zr) (h1 : zq = zq') (h2 : zr = zr') : QSt w va vb wr vq zq' vr zr' := by subst h1 h2; exact h
theorem QSt.start (w : World) (x y x' y' : Value) :
    QSt w (x, y) (x', y') ((((((w.alloc (.cells #[x, y] 27)).alloc (.cells #[x', y'] 27)).alloc (.cells #[.bool false, .slice none 0 0] 27)).alloc (.cells #[.bool false, .slice none 0 0] 27)).alloc (.cells #[.bool false, .slice none 0 0] 27)).alloc (.cells #[.bool false, .slice none 0 0] 27)) (.bool false, .slice none 0 0) 0 (.bool false, .slice none 0 0) 0 := by
  have s1 : ∀ (u : World) (o : Obj), (u.alloc o).heap.size = u.heap.size + 1 := fun u o => by simp
  refine ⟨((((((Below.refl _ _).alloc (Nat.le_refl _) _).alloc (by simp) _).alloc (by simp; omega) _).alloc (by simp; omega) _).alloc (by simp; omega) _).alloc (by simp; omega) _, ?_, ?_, ?_, ?_, ?_, ?_, IsNum.zero _ _ _ _, IsNum.zero _ _ _ _⟩
  · exact (((((Box2.new _ _ _).old _).old _).old _).old _).old _
  · have := ((((Box2.new (w.alloc (.cells #[x, y] 27)) x' y').old (.cells #[.bool false, .slice none 0 0] 27)).old (.cells #[.bool false, .slice none 0 0] 27)).old (.cells #[.bool false, .slice none 0 0] 27)).old (.cells #[.bool false, .slice none 0 0] 27)
    simpa using this
  · have := (((Box2.new ((w.alloc (.cells #[x, y] 27)).alloc (.cells #[x', y'] 27)) (.bool false) (.slice none 0 0)).old (.cells #[.bool false, .slice none 0 0] 27)).old (.cells #[.bool false, .slice none 0 0] 27)).old (.cells #[.bool false, .slice none 0 0] 27)
    simpa using this
  · have := ((Box2.new (((w.alloc (.cells #[x, y] 27)).alloc (.cells #[x', y'] 27)).alloc (.cells #[.bool false, .slice none 0 0] 27)) (.bool false) (.slice none 0 0)).old (.cells #[.bool false, .slice none 0 0] 27)).old (.cells #[.bool false, .slice none 0 0] 27)
    simpa using this
  · have := (Box2.new ((((w.alloc (.cells #[x, y] 27)).alloc (.cells #[x', y'] 27)).alloc (.cells #[.bool false, .slice none 0 0] 27)).alloc (.cells #[.bool false, .slice none 0 0] 27)) (.bool false) (.slice none 0 0)).old (.cells #[.bool false, .slice none 0 0] 27)
    simpa using this
  · have := Box2.new (((((w.alloc (.cells #[x, y] 27)).alloc (.cells #[x', y'] 27)).alloc (.cells #[.bool false, .slice none 0 0] 27)).alloc (.cells #[.bool false, .slice none 0 0] 27)).alloc (.cells #[.bool false, .slice none 0 0] 27)) (.bool false) (.slice none 0 0)
    simpa using this

end Go.Proofs.YtfnnbkclnflpfaaGreatDoor

/- Contracts of times.sizeOf of any number, divFinite. -/
namespace Go.Proofs.YtfnnbkclnflpfaaGreatDoor
open Go.RowKit

/-- The limbs of a dyadic number at hand. -/
theorem IsDy.limbs {w : World} {n : Bool} {a : Option Addr} {l c : Nat} {X m Y : Int} (h : IsDy w (.agg #[.bool n, .slice a l c, .int .i64 X]) m Y) (hm : m.natAbs < TOP) :
    ∃ L, l = L.length ∧ LimbsAt w a c L ∧ rightB false L = true ∧ val L = m.natAbs ∧ L.length ≤ 512 := by
  obtain ⟨n', a', c', L, e1, h1, h2, h3, h4, h5⟩ := h.right hm
  simp only [Value.agg.injEq, Array.mk.injEq, List.cons.injEq, Value.bool.injEq, Value.slice.injEq, and_true] at e1
  obtain ⟨rfl, ⟨rfl, e2, rfl⟩, _⟩ := e1
  have hr : rightB false L = true := by
    simp only [rightB, Bool.and_eq_true, decide_eq_true_eq, Bool.not_eq_true', Bool.and_eq_false_iff, decide_eq_false_iff_not, Bool.or_eq_true] at h2 ⊢
    exact ⟨⟨h2.1.1, Or.inr trivial⟩, h2.2⟩
  exact ⟨L, e2, h1, hr, by rw [← h3, natAbs_sval], h4⟩

end Go.Proofs.YtfnnbkclnflpfaaGreatDoor

