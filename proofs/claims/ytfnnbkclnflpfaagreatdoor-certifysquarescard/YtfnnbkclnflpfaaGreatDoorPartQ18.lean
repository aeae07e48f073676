/- Part 18 of the texts. -/
import Derived.Test.YtfnnbkclnflpfaaGreatDoorPartQ17
import Derived.Test.YtfnnbkclnflpfaaGreatDoorPartQ16
import Derived.Deep.Cut
import Derived.BigQuiet
import Derived.Test.YtfnnbkclnflpfaaGreatDoorPartQ13
import Derived.Test.YtfnnbkclnflpfaaGreatDoorPartQ12
import Derived.Test.YtfnnbkclnflpfaaGreatDoorPartQ10
import Derived.Deep.RegionHeld3
/- Contracts of package compare: scaleFinite, Scale. -/
namespace Go.Proofs.YtfnnbkclnflpfaaGreatDoor
open Go.RowKit

theorem fZ_neg8 (b : Nat) (h0 : fK b ≠ 0) : fZ b ≠ 0 ∧ decide (fZ b < 0) = fS b := by
  have hr : fR b ≠ 0 := fun e => h0 ((fK_zero b).2 e)
  have hp : 0 < rv (fR b) := rv_pos (by omega)
  unfold fZ pv
  cases fS b
  · simp only [Bool.false_eq_true, if_false]
    exact ⟨by omega, decide_eq_false (by omega)⟩
  · simp only [if_true]
    exact ⟨by omega, decide_eq_true (by omega)⟩

/-- What is known of a finite number that is no nought. -/
theorem sc_facts (a : Nat) (ha : a < 18446744073709551616) (fa : fFin a = true) (a0 : fK a ≠ 0) :
    fD a % 2 = 1 ∧ (fD a).natAbs < 9007199254740992 ∧ (fD a).natAbs ≠ 0 ∧ decide (fD a < 0) = fS a ∧ -1074 ≤ fX a ∧ fX a ≤ 1024 ∧ 1 ≤ bl (fD a).natAbs ∧ (bl (fD a).natAbs : Int) + fX a ≤ 1024 ∧ rnd (rv (fR a)) (-1074) = rnd (fD a).natAbs (fX a) := by
  obtain ⟨β, x1, x2, x3, x4⟩ := odd_mag a ha fa a0
  obtain ⟨y1, y2, y3, y4, y5, y6, y7, y8⟩ := dS_facts a ha fa a0
  obtain ⟨d1, d2⟩ := fZ_level a ha fa
  obtain ⟨n1, n2⟩ := fZ_neg8 a a0
  have hne : (fD a).natAbs ≠ 0 := by omega
  have hb : bl (rv (fR a)) = bl (fD a).natAbs + β := by rw [x2]; exact bl_scale _ _ hne
  have hlt := fZ_lt a fa
  rw [fZ_abs] at hlt
  have hne2 : rv (fR a) ≠ 0 := by rw [← fZ_abs]; omega
  have hb2 : bl (rv (fR a)) ≤ 2098 := by
    obtain ⟨b1, b2, b3⟩ := bl_spec _ hne2
    have := pow_lt_of (Nat.lt_of_le_of_lt b2 hlt)
    omega
  refine ⟨by omega, x4, hne, ?_, y5, y6, y2, by omega, ?_⟩
  · rw [← d1, oM_sign]; exact n2
  · rw [x2, x1, rnd_scale]

end Go.Proofs.YtfnnbkclnflpfaaGreatDoor

/- Contract of the reference's Nearest, where digits are dropped: the walk. -/
namespace Go.Proofs.YtfnnbkclnflpfaaGreatDoor
open Go.RowKit

theorem at_thenB {K : Act → World → Prop} {Q : Exit → Act → World → Prop} {a : Act} {w : World} (F : World → Prop) (h : F w) (k : ∀ W, F W → Exit.then K Q .normal a W) : Exit.then K Q .normal a w := k w h

end Go.Proofs.YtfnnbkclnflpfaaGreatDoor

/- The reference's sum at a level, its rounding of a number at hand; its Add and Sub of layer 5. -/
namespace Go.Proofs.YtfnnbkclnflpfaaGreatDoor
open Go.RowKit

theorem raddN {w : World} {v u : Value} {lo : Int} {W : Nat} {z1 z2 : Int} (hv : IsDy w v (oM z1) (oE z1 lo)) (hu : IsDy w u (oM z2) (oE z2 lo)) (h1 : Lvl lo W z1) (h2 : Lvl lo W z2) :
    Calls Tryz.prog 50 #[v, u] w fun r w' => ∃ q, r = .returned q ∧ IsDy w' q (oM (z1 + z2)) (oE (z1 + z2) lo) ∧ Below w.heap.size w w' := by
  obtain ⟨na, ao, ca, A, rfl, a1, a2, a3, a4, a5⟩ := hv.right h1.right.2
  obtain ⟨nb, bo, cb, B, rfl, b1, b2, b3, b4, b5⟩ := hu.right h2.right.2
  have x1 := dRt_in h1.right.1
  have x2 := dRt_in h2.right.1
  have t1 := h1.tops
  have t2 := h2.tops
  by_cases h0 : z1 = 0 ∧ z2 = 0
  · obtain ⟨rfl, rfl⟩ := h0
    rw [oM_zero] at a3 b3
    rw [oE_zero] at *
    have eZ : sumZ 0 0 0 0 = 0 := by decide
    have eU : upE 0 0 (lowE 0 0 0 0) = 0 := upE_ok _ _ _ (by rw [up_zero]; exact TOP_pos) (by decide)
    have := radd_any na nb ao bo ca cb A B 0 0 w a1 b1 a2 b2 (by omega) (by omega) (by rw [a3, b3]; exact eU) (by rw [a3, b3]; exact eU)
    rw [a3, b3, eZ, oM_zero, oE_zero] at this
    simpa [oM_zero, oE_zero] using this
  · obtain ⟨k, e1, e2, e3, e4, e5⟩ := low_level h1 h2 h0
    have g1 : upE (oM z1) (oE z1 lo) (lo + k) = 0 := upE_ok _ _ _ (Nat.lt_of_le_of_lt (le_scaled e2) t1) e4
    have g2 : upE (oM z2) (oE z2 lo) (lo + k) = 0 := upE_ok _ _ _ (Nat.lt_of_le_of_lt (le_scaled e3) t2) e5
    have := radd_any na nb ao bo ca cb A B _ _ w a1 b1 a2 b2 x1 x2 (by rw [a3, b3, e1]; exact g1) (by rw [a3, b3, e1]; exact g2)
    rw [a3, b3, e1] at this
    have hZ : sumZ (oM z1) (oE z1 lo) (oM z2) (oE z2 lo) * 2 ^ k = z1 + z2 := by
      unfold sumZ
      rw [e1, Int.add_mul, e2, e3]
    generalize sumZ (oM z1) (oE z1 lo) (oM z2) (oE z2 lo) = Z at *
    have hs := oM_scale Z k lo
    rw [hZ] at hs
    rw [hs.1, hs.2]
    exact this

end Go.Proofs.YtfnnbkclnflpfaaGreatDoor

/- The reference's calls of layer 1 of numbers at hand, for its Quotient; what holds in Quotient's loop. -/
namespace Go.Proofs.YtfnnbkclnflpfaaGreatDoor
open Go.RowKit
/-- What holds in Quotient: its boxes, the quotient's and the rest's numbers. -/
def QSt (w : World) (va vb : Value × Value) (wr : World) (vq : Value × Value) (zq : Int) (vr : Value × Value) (zr : Int) : Prop :=
  Below w.heap.size w wr ∧ Box2 wr w.heap.size va.1 va.2 ∧ Box2 wr (w.heap.size + 1) vb.1 vb.2 ∧ Box2 wr (w.heap.size + 1 + 1) (.bool false) (.slice none 0 0) ∧ Box2 wr (w.heap.size + 1 + 1 + 1) (.bool false) (.slice none 0 0) ∧ Box2 wr (w.heap.size + 1 + 1 + 1 + 1) vq.1 vq.2 ∧ Box2 wr (w.heap.size + 1 + 1 + 1 + 1 + 1) vr.1 vr.2 ∧ IsNum (w.heap.size + 6) wr (.agg #[vq.1, vq.2]) zq ∧ IsNum (w.heap.size + 6) wr (.agg #[vr.1, vr.2]) zr

theorem QSt.below {w wr w' : World} {va vb vq vr : Value × Value} {zq zr : Int} (h : QSt w va vb wr vq zq vr zr) (hb : Below wr.heap.size wr w') : QSt w va vb w' vq zq vr zr := by
  obtain ⟨h0, h1, h2, h3, h4, h5, h6, h7, h8⟩ := h
  exact ⟨h0.trans (hb.mono h0.size), h1.all hb, h2.all hb, h3.all hb, h4.all hb, h5.all hb, h6.all hb, h7.below hb, h8.below hb⟩
/-- The boxes' cells. -/
theorem QSt.cells {w wr : World} {va vb vq vr : Value × Value} {zq zr : Int} (h : QSt w va vb wr vq zq vr zr) :
    (wr.cell? ⟨w.heap.size, 0, none⟩ = some va.1 ∧ wr.cell? ⟨w.heap.size, 1, none⟩ = some va.2) ∧ (wr.cell? ⟨w.heap.size + 1, 0, none⟩ = some vb.1 ∧ wr.cell? ⟨w.heap.size + 1, 1, none⟩ = some vb.2) ∧
    (wr.cell? ⟨w.heap.size + 1 + 1 + 1 + 1, 0, none⟩ = some vq.1 ∧ wr.cell? ⟨w.heap.size + 1 + 1 + 1 + 1, 1, none⟩ = some vq.2 ∧ wr.frozen? ⟨w.heap.size + 1 + 1 + 1 + 1, 0, none⟩ = false ∧ wr.frozen? ⟨w.heap.size + 1 + 1 + 1 + 1, 1, none⟩ = false) ∧
    (wr.cell? ⟨w.heap.size + 1 + 1 + 1 + 1 + 1, 0, none⟩ = some vr.1 ∧ wr.cell? ⟨w.heap.size + 1 + 1 + 1 + 1 + 1, 1, none⟩ = some vr.2 ∧ wr.frozen? ⟨w.heap.size + 1 + 1 + 1 + 1 + 1, 0, none⟩ = false ∧ wr.frozen? ⟨w.heap.size + 1 + 1 + 1 + 1 + 1, 1, none⟩ = false) := by
  obtain ⟨h0, h1, h2, h3, h4, h5, h6, h7, h8⟩ := h
  exact ⟨⟨h1.c0, h1.c1⟩, ⟨h2.c0, h2.c1⟩, ⟨h5.c0, h5.c1, h5.free 0, h5.free 1⟩, ⟨h6.c0, h6.c1, h6.free 0, h6.free 1⟩⟩

end Go.Proofs.YtfnnbkclnflpfaaGreatDoor

/- The reference's Quotient. -/
namespace Go.Proofs.YtfnnbkclnflpfaaGreatDoor
open Go.RowKit
attribute [local go_sem ↓] Go.wp_at_zero Go.wp_at_succ
theorem QSt.as {w wr : World} {va vb vq vr : Value × Value} {zq zr zq' zr' : Int} (h : QSt w va vb wr vq zq vr zr) (h1 : zq = zq') (h2 : zr = zr') : QSt w va vb wr vq zq' vr zr' := by subst h1 h2; exact h
theorem QSt.start (w : World) (x y x' y' : Value) :
    QSt w (x, y) (x', y') ((((((w.alloc (.cells #[x, y] 27)).alloc (.cells #[x', y'] 27)).alloc (.cells #[.bool false, .slice none 0 0] 27)).alloc (.cells #[.bool false, .slice none 0 0] 27)).alloc (.cells #[.bool false, .slice none 0 0] 27)).alloc (.cells #[.bool false, .slice none 0 0] 27)) (.bool false, .slice none 0 0) 0 (.bool false, .slice none 0 0) 0 := by
  have s1 : ∀ (u : World) (o : Obj), (u.alloc o).heap.size = u.heap.size + 1 := fun u o => by simp
  refine ⟨((((((Below.refl _ _).alloc (Nat.le_refl _) _).alloc (by simp) _).alloc (by simp; omega) _).alloc (by simp; omega) _).alloc (by simp; omega) _).alloc (by simp; omega) _, ?_, ?_, ?_, ?_, ?_, ?_, IsNum.zero _ _ _ _, IsNum.zero _ _ _ _⟩
  · exact (((((Box2.new _ _ _).old _).old _).old _).old _).old _
  · have := ((((Box2.new (w.alloc (.cells #[x, y] 27)) x' y').old (.cells #[.bool false, .slice none 0 0] 27)).old (.cells #[.bool false, .slice none 0 0] 27)).old (.cells #[.bool false, .slice none 0 0] 27)).old (.cells #[.bool false, .slice none 0 0] 27)
    simpa using this
  · have := (((Box2.new ((w.alloc (.cells #[x, y] 27)).alloc (.cells #[x', y'] 27)) (.bool false) (.slice none 0 0)).old (.cells #[.bool false, .slice none 0 0] 27)).old (.cells #[.bool false, .slice none 0 0] 27)).old (.cells #[.bool false, .slice none 0 0] 27)
    simpa using this
  · have := ((Box2.new (((w.alloc (.cells #[x, y] 27)).alloc (.cells #[x', y'] 27)).alloc (.cells #[.bool false, .slice none 0 0] 27)) (.bool false) (.slice none 0 0)).old (.cells #[.bool false, .slice none 0 0] 27)).old (.cells #[.bool false, .slice none 0 0] 27)
    simpa using this
  · have := (Box2.new ((((w.alloc (.cells #[x, y] 27)).alloc (.cells #[x', y'] 27)).alloc (.cells #[.bool false, .slice none 0 0] 27)).alloc (.cells #[.bool false, .slice none 0 0] 27)) (.bool false) (.slice none 0 0)).old (.cells #[.bool false, .slice none 0 0] 27)
    simpa using this
  · have := Box2.new (((((w.alloc (.cells #[x, y] 27)).alloc (.cells #[x', y'] 27)).alloc (.cells #[.bool false, .slice none 0 0] 27)).alloc (.cells #[.bool false, .slice none 0 0] 27)).alloc (.cells #[.bool false, .slice none 0 0] 27)) (.bool false) (.slice none 0 0)
    simpa using this

end Go.Proofs.YtfnnbkclnflpfaaGreatDoor

