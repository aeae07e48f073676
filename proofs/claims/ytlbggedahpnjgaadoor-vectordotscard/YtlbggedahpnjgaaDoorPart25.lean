/- Part 25 of the texts. -/
import Derived.Test.YtlbggedahpnjgaaDoorPart24
import Derived.Deep.RegionHeld3
import Derived.Test.YtlbggedahpnjgaaDoorPart22
import Derived.Test.YtlbggedahpnjgaaDoorPart11
import Derived.Test.YtlbggedahpnjgaaDoorPart12
import Derived.Test.YtlbggedahpnjgaaDoorPart23
import Derived.Test.YtlbggedahpnjgaaDoorPart21
import Derived.Test.YtlbggedahpnjgaaDoorPart20
import Derived.Test.YtlbggedahpnjgaaDoorPart18
/- The reference's Quotient. -/
namespace Go.Proofs.YtlbggedahpnjgaaDoor
open Go.RowKit
attribute [local go_sem ↓] Go.wp_at_zero Go.wp_at_succ

theorem cmp_ge {x y : Int} (h : y ≤ x) : cmpI x y ≥ 0 := by unfold cmpI; split <;> (try split) <;> omega
theorem cmp_lt {x y : Int} (h : x < y) : ¬ cmpI x y ≥ 0 := by unfold cmpI; split <;> (try split) <;> omega
theorem QSt.as {w wr : World} {va vb vq vr : Value × Value} {zq zr zq' zr' : Int} (h : QSt w va vb wr vq zq vr zr) (h1 : zq = zq') (h2 : zr = zr') : QSt w va vb wr vq zq' vr zr' := by subst h1 h2; exact h
theorem QSt.start (w : World) (x y x' y' : Value) :
    QSt w (x, y) (x', y') ((((((w.alloc (.cells #[x, y] 51)).alloc (.cells #[x', y'] 51)).alloc (.cells #[.bool false, .slice none 0 0] 51)).alloc (.cells #[.bool false, .slice none 0 0] 51)).alloc (.cells #[.bool false, .slice none 0 0] 51)).alloc (.cells #[.bool false, .slice none 0 0] 51)) (.bool false, .slice none 0 0) 0 (.bool false, .slice none 0 0) 0 := by
  have s1 : ∀ (u : World) (o : Obj), (u.alloc o).heap.size = u.heap.size + 1 := fun u o => by simp
  refine ⟨((((((Below.refl _ _).alloc (Nat.le_refl _) _).alloc (by simp) _).alloc (by simp; omega) _).alloc (by simp; omega) _).alloc (by simp; omega) _).alloc (by simp; omega) _, ?_, ?_, ?_, ?_, ?_, ?_, IsNum.zero _ _ _ _, IsNum.zero _ _ _ _⟩
  · exact (((((Box2.new _ _ _).old _).old _).old _).old _).old _
  · have := ((((Box2.new (w.alloc (.cells #[x, y] 51)) x' y').old (.cells #[.bool false, .slice none 0 0] 51)).old (.cells #[.bool false, .slice none 0 0] 51)).old (.cells #[.bool false, .slice none 0 0] 51)).old (.cells #[.bool false, .slice none 0 0] 51)
    simpa using this
  · have := (((Box2.new ((w.alloc (.cells #[x, y] 51)).alloc (.cells #[x', y'] 51)) (.bool false) (.slice none 0 0)).old (.cells #[.bool false, .slice none 0 0] 51)).old (.cells #[.bool false, .slice none 0 0] 51)).old (.cells #[.bool false, .slice none 0 0] 51)
    simpa using this
  · have := ((Box2.new (((w.alloc (.cells #[x, y] 51)).alloc (.cells #[x', y'] 51)).alloc (.cells #[.bool false, .slice none 0 0] 51)) (.bool false) (.slice none 0 0)).old (.cells #[.bool false, .slice none 0 0] 51)).old (.cells #[.bool false, .slice none 0 0] 51)
    simpa using this
  · have := (Box2.new ((((w.alloc (.cells #[x, y] 51)).alloc (.cells #[x', y'] 51)).alloc (.cells #[.bool false, .slice none 0 0] 51)).alloc (.cells #[.bool false, .slice none 0 0] 51)) (.bool false) (.slice none 0 0)).old (.cells #[.bool false, .slice none 0 0] 51)
    simpa using this
  · have := Box2.new (((((w.alloc (.cells #[x, y] 51)).alloc (.cells #[x', y'] 51)).alloc (.cells #[.bool false, .slice none 0 0] 51)).alloc (.cells #[.bool false, .slice none 0 0] 51)).alloc (.cells #[.bool false, .slice none 0 0] 51)) (.bool false) (.slice none 0 0)
    simpa using this

end Go.Proofs.YtlbggedahpnjgaaDoor

/- The reference's plain, and Quotient of any two. -/
namespace Go.Proofs.YtlbggedahpnjgaaDoor
open Go.RowKit

/-- What is not empty lies in another block than g. -/
def AwayV (g : Nat) (ao : Option Addr) (l : Nat) : Prop := l = 0 ∨ ∃ b off, ao = some ⟨b, off, none⟩ ∧ b ≠ g
theorem IsNum.open6 {B : Nat} {w : World} {n : Bool} {ao : Option Addr} {l c : Nat} {z : Int} (h : IsNum B w (.agg #[.bool n, .slice ao l c]) z) :
    ∃ L, l = L.length ∧ LimbsAt w ao c L ∧ NewAt B ao L ∧ Canon L ∧ n = decide (z < 0) ∧ val L = z.natAbs ∧ L.length ≤ 35184372088832 := by
  obtain ⟨n', a', c', L, e1, h1, h2, h3⟩ := h
  simp only [Value.agg.injEq, Array.mk.injEq, List.cons.injEq, Value.bool.injEq, Value.slice.injEq, and_true] at e1
  obtain ⟨rfl, rfl, e2, rfl⟩ := e1
  exact ⟨L, e2, h1, h2, h3⟩
/-- Limbs lie in no box. -/
theorem IsNum.away_box {B g : Nat} {w : World} {n : Bool} {ao : Option Addr} {l c : Nat} {z : Int} (h : IsNum B w (.agg #[.bool n, .slice ao l c]) z) {x : Bool} {a' : Option Addr} {l' c' : Nat} (hb : Box2 w g (.bool x) (.slice a' l' c')) : AwayV g ao l := by
  obtain ⟨L, rfl, h1, h2, h3⟩ := h.open6
  rcases h1.2.2 with h0 | ⟨b, off, e1, e2, e3⟩
  · exact .inl (by rw [h0]; rfl)
  · rcases Nat.eq_zero_or_pos L.length with h0 | h0
    · exact .inl h0
    · refine .inr ⟨b, off, e1, fun e => ?_⟩
      subst e
      have h4 := e3 0 h0
      rw [Nat.add_zero, cell_of_row w b off _ _ _ hb] at h4
      rcases off with _ | _ | off <;> simp at h4
theorem IsNum.set_away {w : World} {n : Bool} {ao : Option Addr} {l c g i : Nat} {z : Int} (h : IsNum 0 w (.agg #[.bool n, .slice ao l c]) z) (ha : AwayV g ao l) (u : Value) : IsNum 0 (w.setCell ⟨g, i, none⟩ u) (.agg #[.bool n, .slice ao l c]) z := by
  obtain ⟨L, rfl, h1, h2, h3⟩ := h.open6
  refine ⟨n, ao, c, L, rfl, ⟨h1.1, h1.2.1, ?_⟩, ?_, h3⟩
  · rcases h1.2.2 with h0 | ⟨b, off, e1, e2, e3⟩
    · exact .inl h0
    · rcases ha with h0 | ⟨b', off', e1', hne⟩
      · exact .inl (List.length_eq_zero_iff.1 h0)
      · rw [e1] at e1'
        simp only [Option.some.injEq, Addr.mk.injEq] at e1'
        obtain ⟨rfl, rfl, _⟩ := e1'
        refine .inr ⟨b, off, e1, by simpa [World.setCell] using e2, fun i hi => ?_⟩
        rw [cell_setCell_other w _ _ u (by simpa using hne)]
        exact e3 i hi
  · rcases h2 with h0 | h0
    · exact .inl h0
    · exact .inr h0

theorem IsNum.set_box {w : World} {n : Bool} {ao : Option Addr} {l c g : Nat} {z : Int} (h : IsNum 0 w (.agg #[.bool n, .slice ao l c]) z) {x : Bool} {a' : Option Addr} {l' c' : Nat} (hb : Box2 w g (.bool x) (.slice a' l' c')) (u u' : Value) : IsNum 0 ((w.setCell ⟨g, 0, none⟩ u).setCell ⟨g, 1, none⟩ u') (.agg #[.bool n, .slice ao l c]) z :=
  (h.set_away (h.away_box hb) _).set_away (h.away_box hb) _

theorem pow_up {x : Nat} (j k : Nat) (h : x < 2 ^ j) (hk : j ≤ k) : x < 2 ^ k := Nat.lt_of_lt_of_le h (Nat.pow_le_pow_right (by decide) hk)
theorem p250 {x : Int} (h : x.natAbs < 4 * 2 ^ 250) : x.natAbs < 2 ^ 8000 := by
  have h1 : (4 : Nat) * 2 ^ 250 = 2 ^ 252 := by decide
  rw [h1] at h
  exact pow_up 252 8000 h (by decide)
theorem bl_lt {A k : Nat} (h : A < 2 ^ k) : bl A ≤ k := by
  by_cases h0 : A = 0
  · subst h0; exact Nat.zero_le _
  · obtain ⟨b1, b2, b3⟩ := bl_spec A h0
    have := pow_lt_of (Nat.lt_of_le_of_lt b2 h)
    omega
theorem bl_end (A : Nat) : A / 2 ^ bl A = 0 := by
  by_cases h0 : A = 0
  · subst h0; simp
  · exact Nat.div_eq_of_lt (bl_spec A h0).2.2
theorem sh_dn (A j : Nat) : (if 0 ≤ -(j : Int) then A * 2 ^ (-(j : Int)).toNat else A / 2 ^ (- -(j : Int)).toNat) = A / 2 ^ j := by
  by_cases h : j = 0
  · subst h; simp
  · rw [if_neg (by omega), show (- -(j : Int)).toNat = j by omega]

end Go.Proofs.YtlbggedahpnjgaaDoor

/- Trunc of any number; the reference's Scale, Int, Trunc, Exp of layer 8. -/
namespace Go.Proofs.YtlbggedahpnjgaaDoor
open Go.RowKit

/-- A whole number times 2^n, without what is behind the point. -/
def shI (z n : Int) : Int := if z < 0 then -((if 0 ≤ n then z.natAbs * 2 ^ n.toNat else z.natAbs / 2 ^ (-n).toNat : Nat) : Int) else ((if 0 ≤ n then z.natAbs * 2 ^ n.toNat else z.natAbs / 2 ^ (-n).toNat : Nat) : Int)
theorem shI_shV {na : Bool} {A : List Nat} {z n : Int} (h : sval na A = z) : shV na A n = shI z n := by
  have hv : val A = z.natAbs := by rw [← h, natAbs_sval]
  unfold shV shI sg
  rw [hv]
  unfold sval at h
  cases na
  · simp only [Bool.false_eq_true, if_false] at h ⊢
    rw [if_neg (show ¬ z < 0 by omega)]
  · simp only [if_true] at h ⊢
    by_cases h0 : z < 0
    · rw [if_pos h0]
    · rw [if_neg h0, show z.natAbs = 0 by omega]
      simp
theorem shI_abs (z n : Int) : (shI z n).natAbs = if 0 ≤ n then z.natAbs * 2 ^ n.toNat else z.natAbs / 2 ^ (-n).toNat := by
  unfold shI; split <;> omega
theorem pow_k (K : Nat) : (9007199254740992 : Nat) * 2 ^ K = 2 ^ (53 + K) := by rw [Nat.pow_add, p53]
theorem shI_lt (z n : Int) (k K : Nat) (hK : K = 1024) (hk : k = 53 + K) (hz : z.natAbs < 9007199254740992) (hn : -1074 ≤ n ∧ n ≤ 1024) : (shI z n).natAbs < 2 ^ k := by
  rw [shI_abs, hk, ← pow_k]
  have hp : 0 < 2 ^ K := Nat.two_pow_pos K
  split
  · have h1 : (2 : Nat) ^ n.toNat ≤ 2 ^ K := pow_le2 (by omega)
    exact Nat.lt_of_lt_of_le ((Nat.mul_lt_mul_right (Nat.two_pow_pos _)).2 hz) (Nat.mul_le_mul_left _ h1)
  · have h1 : z.natAbs / 2 ^ (-n).toNat ≤ z.natAbs := Nat.div_le_self _ _
    have h2 : 9007199254740992 * 1 ≤ 9007199254740992 * 2 ^ K := Nat.mul_le_mul_left _ hp
    omega
theorem shI_TOP (z n : Int) (hz : z.natAbs < 9007199254740992) (hn : -1074 ≤ n ∧ n ≤ 1024) : (shI z n).natAbs < TOP := lt_TOP (shI_lt z n (53 + 1024) 1024 rfl rfl hz hn) (by decide)

/-- A number without what is behind the point. -/
def tI (a : Nat) : Int := shI (fD a) (fX a)

/-- Finite numbers, noughts among them. -/
theorem tr_facts (a : Nat) (ha : a < 18446744073709551616) (fa : fFin a = true) : (fD a).natAbs < 9007199254740992 ∧ -1074 ≤ fX a ∧ fX a ≤ 1024 := by
  by_cases a0 : fK a = 0
  · have hr := (fK_zero a).1 a0
    obtain ⟨d1, d2⟩ := fZ_level a ha fa
    have hz : fZ a = 0 := by
      have := fZ_abs a
      rw [hr, rv_zero] at this
      omega
    rw [hz, oM_zero] at d1
    rw [hz, oE_zero] at d2
    rw [← d1, ← d2]
    decide
  · obtain ⟨z1, z2, z3, z4, z5, z6, z7, z8, z9⟩ := sc_facts a ha fa a0
    exact ⟨z2, z5, z6⟩

/-- Has a number a whole one of 64 bits? -/
def tB8 (a : Nat) : Bool := fFin a && fits64 (tI a)

theorem cmp_fits (T : Int) : (cmpI T (-9223372036854775808) = -1 ∧ cmpI T 9223372036854775807 = -1 ∧ fits64 T = false) ∨ (cmpI T (-9223372036854775808) = 0 ∧ cmpI T 9223372036854775807 = -1 ∧ fits64 T = true) ∨ (cmpI T (-9223372036854775808) = 1 ∧ cmpI T 9223372036854775807 = -1 ∧ fits64 T = true) ∨ (cmpI T (-9223372036854775808) = 1 ∧ cmpI T 9223372036854775807 = 0 ∧ fits64 T = true) ∨ (cmpI T (-9223372036854775808) = 1 ∧ cmpI T 9223372036854775807 = 1 ∧ fits64 T = false) := by
  unfold fits64
  rcases (show T < -9223372036854775808 ∨ T = -9223372036854775808 ∨ (-9223372036854775808 < T ∧ T < 9223372036854775807) ∨ T = 9223372036854775807 ∨ 9223372036854775807 < T by omega) with h | h | h | h | h
  · exact .inl ⟨cmpI8_lt h, cmpI8_lt (by omega), decide_eq_false (by omega)⟩
  · exact .inr (.inl ⟨cmpI8_eq h, cmpI8_lt (by omega), decide_eq_true (by omega)⟩)
  · exact .inr (.inr (.inl ⟨cmpI8_gt h.1, cmpI8_lt (by omega), decide_eq_true (by omega)⟩))
  · exact .inr (.inr (.inr (.inl ⟨cmpI8_gt (by omega), cmpI8_eq h, decide_eq_true (by omega)⟩)))
  · exact .inr (.inr (.inr (.inr ⟨cmpI8_gt (by omega), cmpI8_gt h, decide_eq_false (by omega)⟩)))

end Go.Proofs.YtlbggedahpnjgaaDoor

/- The reference's ends, Order, Abs, of layer 8. -/
namespace Go.Proofs.YtlbggedahpnjgaaDoor
open Go.RowKit

/-- -1, 0 or 1, as a number is below all, finite, above all. -/
def eN (b : Nat) : Int := if fFin b = true then 0 else if fS b = true then -1 else 1

theorem eN_fin {b : Nat} (h : fFin b = true) : eN b = 0 := by unfold eN; rw [if_pos h]
theorem eN_inf {b : Nat} (h : fK b = 3) : (eN b = -1 ∧ fZ b = -((2 ^ 2098 : Nat) : Int)) ∨ (eN b = 1 ∧ fZ b = ((2 ^ 2098 : Nat) : Int)) := by
  have hf : fFin b = false := by
    rcases fK_cases b with h1 | h1
    · exact h1.1
    · omega
  have hr := (fK_rungs b).2.1.1 h
  unfold eN fZ pv
  rw [hr, rv_inf, if_neg (by rw [hf]; decide)]
  cases fS b
  · exact .inr ⟨rfl, rfl⟩
  · exact .inl ⟨rfl, rfl⟩

end Go.Proofs.YtlbggedahpnjgaaDoor

/- The reference's Scale, Int of layer 8. -/
namespace Go.Proofs.YtlbggedahpnjgaaDoor
open Go.RowKit

theorem lt80 {x : Nat} (h : x < 18446744073709551616) : x < 4294967296 ^ 80 := Nat.lt_of_lt_of_le h (by
  have : (4294967296 : Nat) ^ 2 ≤ 4294967296 ^ 80 := Nat.pow_le_pow_right (by decide) (by decide)
  exact Nat.le_trans (by decide) this)

end Go.Proofs.YtlbggedahpnjgaaDoor

