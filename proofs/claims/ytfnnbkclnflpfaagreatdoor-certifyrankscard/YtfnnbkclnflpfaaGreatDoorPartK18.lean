/- Part 18 of the texts. -/
import Derived.Test.YtfnnbkclnflpfaaGreatDoorPartK17
import Derived.Test.YtfnnbkclnflpfaaGreatDoorPartK16
import Derived.Deep.Cut
import Derived.BigQuiet
import Derived.Test.YtfnnbkclnflpfaaGreatDoorPartK13
import Derived.Test.YtfnnbkclnflpfaaGreatDoorPartK12
import Derived.Test.YtfnnbkclnflpfaaGreatDoorPartK10
/- Long division: the program's, a digit a step, and the reference's; both are the quotient. -/
namespace Go.Proofs.YtfnnbkclnflpfaaGreatDoor
open Go.RowKit
/-- What the program divides: the odd parts with their first digit at 2^52. -/
def dS (b : Nat) : Nat := (fD b).natAbs * 2 ^ (53 - bl (fD b).natAbs)
theorem dS_facts (b : Nat) (hb : b < 18446744073709551616) (hf : fFin b = true) (h0 : fK b ≠ 0) :
    bl (fD b).natAbs ≤ 53 ∧ 1 ≤ bl (fD b).natAbs ∧ 4503599627370496 ≤ dS b ∧ dS b < 9007199254740992 ∧ -1074 ≤ fX b ∧ fX b ≤ 1024 ∧ (fD b).natAbs % 2 = 1 ∧ (fD b).natAbs < 9007199254740992 := by
  obtain ⟨β, x1, x2, x3, x4⟩ := odd_mag b hb hf h0
  have hne : (fD b).natAbs ≠ 0 := by omega
  obtain ⟨b1, b2, b3⟩ := bl_spec _ hne
  have hbl : bl (fD b).natAbs ≤ 53 := by
    have : (2 : Nat) ^ (bl (fD b).natAbs - 1) < 2 ^ 53 := by rw [p53]; omega
    have := pow_lt_of this
    omega
  have hs := bl_scale (fD b).natAbs (53 - bl (fD b).natAbs) hne
  have hs' : bl (dS b) = 53 := by unfold dS; rw [hs]; omega
  have hd0 : dS b ≠ 0 := by
    unfold dS
    exact Nat.mul_ne_zero hne (Nat.pos_iff_ne_zero.1 (Nat.two_pow_pos _))
  obtain ⟨c1, c2, c3⟩ := bl_spec _ hd0
  rw [hs'] at c2 c3
  have hz := fZ_lt b hf
  rw [fZ_abs, x2] at hz
  have hβ : β < 2098 := by
    have h1 : 2 ^ β ≤ (fD b).natAbs * 2 ^ β := Nat.le_mul_of_pos_left _ (by omega)
    exact pow_lt_of (Nat.lt_of_le_of_lt h1 hz)
  refine ⟨hbl, b1, ?_, ?_, by omega, by omega, x3, x4⟩
  · exact c2
  · rw [p53] at c3; exact c3

end Go.Proofs.YtfnnbkclnflpfaaGreatDoor

/- Contracts of package compare: scaleFinite, Scale. -/
namespace Go.Proofs.YtfnnbkclnflpfaaGreatDoor
open Go.RowKit

theorem fZ_neg8 (b : Nat) (h0 : fK b ≠ 0) : fZ b ≠ 0 ∧ decide (fZ b < 0) = fS b := by
  have hr : fR b ≠ 0 := fun e => h0 ((fK_zero b).2 e)
  have hp : 0 < rv (fR b) := rv_pos (by omega)
  unfold fZ pv
  cases fS b
  · simp only [Bool.false_eq_true, if_false]
    exact ⟨by omega, decide_eq_false (by omega)⟩
  · simp only [if_true]
    exact ⟨by omega, decide_eq_true (by omega)⟩

/-- What is known of a finite number that is no nought. -/
theorem sc_facts (a : Nat) (ha : a < 18446744073709551616) (fa : fFin a = true) (a0 : fK a ≠ 0) :
    fD a % 2 = 1 ∧ (fD a).natAbs < 9007199254740992 ∧ (fD a).natAbs ≠ 0 ∧ decide (fD a < 0) = fS a ∧ -1074 ≤ fX a ∧ fX a ≤ 1024 ∧ 1 ≤ bl (fD a).natAbs ∧ (bl (fD a).natAbs : Int) + fX a ≤ 1024 ∧ rnd (rv (fR a)) (-1074) = rnd (fD a).natAbs (fX a) := by
  obtain ⟨β, x1, x2, x3, x4⟩ := odd_mag a ha fa a0
  obtain ⟨y1, y2, y3, y4, y5, y6, y7, y8⟩ := dS_facts a ha fa a0
  obtain ⟨d1, d2⟩ := fZ_level a ha fa
  obtain ⟨n1, n2⟩ := fZ_neg8 a a0
  have hne : (fD a).natAbs ≠ 0 := by omega
  have hb : bl (rv (fR a)) = bl (fD a).natAbs + β := by rw [x2]; exact bl_scale _ _ hne
  have hlt := fZ_lt a fa
  rw [fZ_abs] at hlt
  have hne2 : rv (fR a) ≠ 0 := by rw [← fZ_abs]; omega
  have hb2 : bl (rv (fR a)) ≤ 2098 := by
    obtain ⟨b1, b2, b3⟩ := bl_spec _ hne2
    have := pow_lt_of (Nat.lt_of_le_of_lt b2 hlt)
    omega
  refine ⟨by omega, x4, hne, ?_, y5, y6, y2, by omega, ?_⟩
  · rw [← d1, oM_sign]; exact n2
  · rw [x2, x1, rnd_scale]

theorem min2_run (P : Program) (w : World) (ts : Array TypeId) (t : TypeId) (x y : Int) : (Builtin.min_ ts t #[.int .i64 x, .int .i64 y]).run P w = .ok (.int .i64 (min x y)) w := by
  rw [run_min_int2]
  congr 2
  split <;> omega

end Go.Proofs.YtfnnbkclnflpfaaGreatDoor

/- Contracts of package compare: Int, Trunc, Exp. -/
namespace Go.Proofs.YtfnnbkclnflpfaaGreatDoor
open Go.RowKit
/-- The greatest power of two that is at most a number. -/
def eX (a : Nat) : Int := if fK a = 4 ∨ fK a = 3 ∨ fK a = 0 then 0 else (bl (fD a).natAbs : Int) + fX a - 1

end Go.Proofs.YtfnnbkclnflpfaaGreatDoor

/- Contract of the reference's Nearest, where digits are dropped: the walk. -/
namespace Go.Proofs.YtfnnbkclnflpfaaGreatDoor
open Go.RowKit

theorem at_thenB {K : Act → World → Prop} {Q : Exit → Act → World → Prop} {a : Act} {w : World} (F : World → Prop) (h : F w) (k : ∀ W, F W → Exit.then K Q .normal a W) : Exit.then K Q .normal a w := k w h

end Go.Proofs.YtfnnbkclnflpfaaGreatDoor

/- The reference's calls of layer 1 of numbers at hand, for its Quotient; what holds in Quotient's loop. -/
namespace Go.Proofs.YtfnnbkclnflpfaaGreatDoor
open Go.RowKit
/-- What holds in Quotient: its boxes, the quotient's and the rest's numbers. -/
def QSt (w : World) (va vb : Value × Value) (wr : World) (vq : Value × Value) (zq : Int) (vr : Value × Value) (zr : Int) : Prop :=
  Below w.heap.size w wr ∧ Box2 wr w.heap.size va.1 va.2 ∧ Box2 wr (w.heap.size + 1) vb.1 vb.2 ∧ Box2 wr (w.heap.size + 1 + 1) (.bool false) (.slice none 0 0) ∧ Box2 wr (w.heap.size + 1 + 1 + 1) (.bool false) (.slice none 0 0) ∧ Box2 wr (w.heap.size + 1 + 1 + 1 + 1) vq.1 vq.2 ∧ Box2 wr (w.heap.size + 1 + 1 + 1 + 1 + 1) vr.1 vr.2 ∧ IsNum (w.heap.size + 6) wr (.agg #[vq.1, vq.2]) zq ∧ IsNum (w.heap.size + 6) wr (.agg #[vr.1, vr.2]) zr

theorem QSt.below {w wr w' : World} {va vb vq vr : Value × Value} {zq zr : Int} (h : QSt w va vb wr vq zq vr zr) (hb : Below wr.heap.size wr w') : QSt w va vb w' vq zq vr zr := by
  obtain ⟨h0, h1, h2, h3, h4, h5, h6, h7, h8⟩ := h
  exact ⟨h0.trans (hb.mono h0.size), h1.all hb, h2.all hb, h3.all hb, h4.all hb, h5.all hb, h6.all hb, h7.below hb, h8.below hb⟩
/-- The boxes' cells. -/
theorem QSt.cells {w wr : World} {va vb vq vr : Value × Value} {zq zr : Int} (h : QSt w va vb wr vq zq vr zr) :
    (wr.cell? ⟨w.heap.size, 0, none⟩ = some va.1 ∧ wr.cell? ⟨w.heap.size, 1, none⟩ = some va.2) ∧ (wr.cell? ⟨w.heap.size + 1, 0, none⟩ = some vb.1 ∧ wr.cell? ⟨w.heap.size + 1, 1, none⟩ = some vb.2) ∧
    (wr.cell? ⟨w.heap.size + 1 + 1 + 1 + 1, 0, none⟩ = some vq.1 ∧ wr.cell? ⟨w.heap.size + 1 + 1 + 1 + 1, 1, none⟩ = some vq.2 ∧ wr.frozen? ⟨w.heap.size + 1 + 1 + 1 + 1, 0, none⟩ = false ∧ wr.frozen? ⟨w.heap.size + 1 + 1 + 1 + 1, 1, none⟩ = false) ∧
    (wr.cell? ⟨w.heap.size + 1 + 1 + 1 + 1 + 1, 0, none⟩ = some vr.1 ∧ wr.cell? ⟨w.heap.size + 1 + 1 + 1 + 1 + 1, 1, none⟩ = some vr.2 ∧ wr.frozen? ⟨w.heap.size + 1 + 1 + 1 + 1 + 1, 0, none⟩ = false ∧ wr.frozen? ⟨w.heap.size + 1 + 1 + 1 + 1 + 1, 1, none⟩ = false) := by
  obtain ⟨h0, h1, h2, h3, h4, h5, h6, h7, h8⟩ := h
  exact ⟨⟨h1.c0, h1.c1⟩, ⟨h2.c0, h2.c1⟩, ⟨h5.c0, h5.c1, h5.free 0, h5.free 1⟩, ⟨h6.c0, h6.c1, h6.free 0, h6.free 1⟩⟩

end Go.Proofs.YtfnnbkclnflpfaaGreatDoor

