/- Part 20 of the texts. -/
import Derived.Test.YtfnnbkclnflpfaaGreatDoorPartW18
import Derived.Test.YtfnnbkclnflpfaaGreatDoorPartW17
import Derived.Test.YtfnnbkclnflpfaaGreatDoorPartW16
import Derived.Deep.Cut
import Derived.Test.YtfnnbkclnflpfaaGreatDoorPartW11
import Derived.Test.YtfnnbkclnflpfaaGreatDoorPartW08
import Derived.Deep.RegionHeld3
import Derived.Test.YtfnnbkclnflpfaaGreatDoorPartW09
import Derived.Laws.Cover2
import Derived.Laws.Externs
import Derived.Test.YtfnnbkclnflpfaaGreatDoorPartW05
import Derived.Laws.FloatArith
import Derived.Test.YtfnnbkclnflpfaaGreatDoorPartW19
import Derived.Laws.BitsAllLaws
import Derived.Test.YtfnnbkclnflpfaaGreatDoorPartW10
import Derived.BigQuiet
import Derived.Test.YtfnnbkclnflpfaaGreatDoorPartW12
import Derived.Laws.BitsLemmas
import Derived.Test.YtfnnbkclnflpfaaGreatDoorPartW13
/- Contracts of vector's dot, Dot, Axpy, Times, Biggest, Finite. -/
namespace Go.Proofs.YtfnnbkclnflpfaaGreatDoor
open Go.RowKit
attribute [local go_sem ↓] Go.wp_at_zero Go.wp_at_succ
theorem size_alloc9 (w : World) (o : Obj) : (w.alloc o).heap.size = w.heap.size + 1 := by simp
theorem below_alloc9 (w : World) (o : Obj) : Below w.heap.size w (w.alloc o) := (Below.refl _ _).alloc (Nat.le_refl _) o
theorem BitsAt.lt {w : World} {ao : Option Addr} {cap : Nat} {I : List Int} (h : BitsAt w ao cap I) (j : Nat) : atB I j < 18446744073709551616 := (h.wf j).2

def fnK (I : List Int) : Nat → Bool
  | 0 => true
  | k + 1 => fnK I k && fFin (atB I k)
theorem RowB.bits {w : World} {g : Nat} {S : List Nat} (h : RowB w g S) (hf : ∀ x ∈ S, x < 18446744073709551616) : BitsAt w (some ⟨g, 0, none⟩) S.length (S.map (fun x : Nat => (x : Int))) := by
  refine ⟨by simp, ?_, .inr ⟨g, 0, rfl, h.lt, fun i hi => ?_⟩⟩
  · intro x hx
    obtain ⟨y, hy, rfl⟩ := List.mem_map.1 hx
    have := hf y hy
    omega
  · have hi' : i < S.length := by simpa using hi
    rw [Nat.zero_add, h.cell i hi']
    simp [hi']
end Go.Proofs.YtfnnbkclnflpfaaGreatDoor

/- The reference's Biggest, Finite, Norm, Tame. -/
namespace Go.Proofs.YtfnnbkclnflpfaaGreatDoor
open Go.RowKit
attribute [local go_sem ↓] Go.wp_at_zero Go.wp_at_succ

theorem fnK_down (I : List Int) : ∀ (m k : Nat), k ≤ m → fnK I m = true → fnK I k = true := by
  intro m
  induction m with
  | zero => intro k hk _; rw [show k = 0 by omega]; rfl
  | succ m ih =>
    intro k hk h
    have h' : (fnK I m && fFin (atB I m)) = true := h
    rw [Bool.and_eq_true] at h'
    by_cases e : k = m + 1
    · subst e; exact h
    · exact ih k (by omega) h'.1
end Go.Proofs.YtfnnbkclnflpfaaGreatDoor

/- Halfway between two numbers; products of such. -/
namespace Go.Proofs.YtfnnbkclnflpfaaGreatDoor
open Go.RowKit
theorem oE_ge (z lo : Int) (h : z ≠ 0) : lo ≤ oE z lo := by
  rw [oE_ne _ _ h]; omega

end Go.Proofs.YtfnnbkclnflpfaaGreatDoor

/- Exact numbers at a level: the reference's values, products, powers of two. -/
namespace Go.Proofs.YtfnnbkclnflpfaaGreatDoor
open Go.RowKit

/-- The number z times 2^lo. -/
def IsLv (w : World) (v : Value) (lo z : Int) : Prop := IsDy w v (oM z) (oE z lo)
theorem IsLv.below {w w' : World} {v : Value} {lo z : Int} (h : IsLv w v lo z) (hb : Below w.heap.size w w') : IsLv w' v lo z := IsDy.below h hb
theorem IsLv.zero (w : World) (lo : Int) : IsLv w (.agg #[.bool false, .slice none 0 0, .int .i64 0]) lo 0 := by
  unfold IsLv
  rw [oM_zero, oE_zero]
  exact IsDy.zero w none 0
/-- The same number at a lower level. -/
theorem IsLv.lower {w : World} {v : Value} {lo z : Int} (h : IsLv w v lo z) (k : Nat) : IsLv w v (lo - k) (z * 2 ^ k) := by
  unfold IsLv
  have s := oM_scale z k (lo - k)
  rw [show lo - (k : Int) + k = lo by omega] at s
  rw [s.1, s.2]
  exact h
end Go.Proofs.YtfnnbkclnflpfaaGreatDoor

/- The reference's Near and Squares, at a level. -/
namespace Go.Proofs.YtfnnbkclnflpfaaGreatDoor
open Go.RowKit
attribute [local go_sem ↓] Go.wp_at_zero Go.wp_at_succ
theorem Lvl.more {lo : Int} {W W' : Nat} {z : Int} (h : Lvl lo W z) (hW : W ≤ W') (h1 : lo + W' ≤ 16384) (h2 : W' ≤ 16384) : Lvl lo W' z :=
  ⟨Nat.lt_of_lt_of_le h.1 (Nat.pow_le_pow_right (by decide) hW), h.2.1, h1, h2⟩
theorem Lvl.at {lo lo' : Int} {W : Nat} {z : Int} (h : Lvl lo W z) (h1 : -16384 ≤ lo') (h2 : lo' + W ≤ 16384) : Lvl lo' W z := ⟨h.1, h1, h2, h.2.2.2⟩

end Go.Proofs.YtfnnbkclnflpfaaGreatDoor

