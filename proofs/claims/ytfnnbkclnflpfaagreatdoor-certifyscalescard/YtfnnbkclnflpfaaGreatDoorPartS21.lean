/- Part 21 of the texts. -/
import Derived.Test.YtfnnbkclnflpfaaGreatDoorPartS20
import Derived.Test.YtfnnbkclnflpfaaGreatDoorPartS19
import Derived.Test.YtfnnbkclnflpfaaGreatDoorPartS15
import Derived.Test.YtfnnbkclnflpfaaGreatDoorPartS16
import Derived.Test.YtfnnbkclnflpfaaGreatDoorPartS17
import Derived.Test.YtfnnbkclnflpfaaGreatDoorPartS05
import Derived.Test.YtfnnbkclnflpfaaGreatDoorPartS09
import Derived.Test.YtfnnbkclnflpfaaGreatDoorPartS10
import Derived.BigQuiet
import Derived.Laws.BitsLemmas
import Derived.Deep.RegionHeld3
import Derived.Test.YtfnnbkclnflpfaaGreatDoorPartS18
import Derived.Test.YtfnnbkclnflpfaaGreatDoorPartS01
import Derived.Test.YtfnnbkclnflpfaaGreatDoorPartS03
import Derived.Deep.OwnRows
import Derived.Test.YtfnnbkclnflpfaaGreatDoorPartS14
/- The norm hangs on no signs; powers of two go through it. Ahead of stage 9. -/
namespace Go.Proofs.YtfnnbkclnflpfaaGreatDoor
open Go.RowKit
/-- A tame number times a power of two that keeps it normal: exact. -/
theorem tame_scale (x : Nat) (j : Int) (hj : -400 ≤ j ∧ j ≤ 400) (hx : x < 18446744073709551616) (fx : fFin x = true) (h : fK x = 0 ∨ (-500 ≤ eX x ∧ eX x < 500)) :
    fFin (xV x j) = true ∧ fQ (xV x j) = fQ x * p2 j := by
  by_cases x0 : fK x = 0
  · rw [xV_nought x j x0, fQ_nought x x0, Rat.zero_mul]
    exact ⟨fx, rfl⟩
  · have h2 : -500 ≤ eX x ∧ eX x < 500 := by omega
    obtain ⟨t1, t2⟩ := eX_top x hx fx x0
    have pj := p2_pos j
    have m1 := Rat.mul_le_mul_of_nonneg_left t1 (Rat.le_of_lt pj)
    have m2 := Rat.mul_lt_mul_of_pos_left t2 pj
    rw [← p2_add] at m1 m2
    have m3 := p2_mono (show -1022 ≤ j + eX x by omega)
    have m4 := p2_mono (show j + (eX x + 1) ≤ 1023 by omega)
    exact scale_exact x j hx fx (by grind) (by grind)

end Go.Proofs.YtfnnbkclnflpfaaGreatDoor

/- Package vector: operations without flags; the reference's with Go's own float64. -/
namespace Go.Proofs.YtfnnbkclnflpfaaGreatDoor
open Go.RowKit

set_option maxRecDepth 20000 in
set_option maxHeartbeats 2000000 in
theorem f9_any (b : Nat) (w : World) (_h : b < 18446744073709551616) :
    Calls Tryz.prog 76 #[.int .u64 b] w fun r w' => r = .returned (.float .f64 b) ∧ w = w' := by
  have hF := fun W => frombits5 b W
  have hw : IntKind.u64.wrap (b : Int) = (b : Int) := by simp only [IntKind.wrap_u64]; omega
  go_enter Tryz.func76, Tryz.ntmps76
  go_wp2
  go_ret
  exact ⟨rfl, rfl⟩

/-- The reference's number of Go's own, by its bits. -/
theorem b9_of (R v : Nat) (w : World) (C : ∀ w', Calls Tryz.prog 118 #[.int .u64 (R : Nat)] w' fun r w'' => r = .returned (.int .u64 (v : Nat)) ∧ w' = w'') :
    Calls Tryz.prog 74 #[.float .f64 R] w fun r w' => r = .returned (.int .u64 (v : Nat)) ∧ w = w' := by
  have K := hide C
  have hB := fun R W => tobits5 R W
  clear C
  go_enter Tryz.func74, Tryz.ntmps74
  go_wp2_with fail
  refine (unhide K _).mono ?_
  rintro e w2 ⟨rfl, rfl⟩
  clear K
  go_wp2
  go_ret
  exact ⟨rfl, rfl⟩

set_option maxRecDepth 20000 in
set_option maxHeartbeats 4000000 in
theorem r9shift_of (a l v : Nat) (n : Int) (w : World)
    (F1 : ∀ w', Calls Tryz.prog 76 #[.int .u64 a] w' fun r w'' => r = .returned (.float .f64 a) ∧ w' = w'')
    (S1 : ∀ w', Calls Tryz.prog 75 #[.float .f64 a, .int .i64 n] w' fun r w'' => r = .returned (.float .f64 l) ∧ w' = w'')
    (N1 : ∀ w', Calls Tryz.prog 74 #[.float .f64 l] w' fun r w'' => r = .returned (.int .u64 v) ∧ w' = w'') :
    Calls Tryz.prog 32 #[.int .u64 a, .int .i64 n] w fun r w' => r = .returned (.int .u64 (v : Nat)) ∧ Below w.heap.size w w' := by
  have L1 := hide F1; have L2 := hide S1; have M1 := hide N1
  clear F1 S1 N1
  go_enter Tryz.func32, Tryz.ntmps32
  go_wp2_with fail
  refine (unhide L1 _).mono ?_
  rintro e w2 ⟨rfl, rfl⟩
  go_wp2_with fail
  refine (unhide L2 _).mono ?_
  rintro e w2 ⟨rfl, rfl⟩
  go_wp2_with fail
  refine (unhide M1 _).mono ?_
  rintro e w2 ⟨rfl, rfl⟩
  clear L1 L2 M1
  go_wp2
  go_ret
  exact ⟨rfl, Below.refl _ _⟩

theorem r9shift_any (a : Nat) (n : Int) (w : World) (ha : a < 18446744073709551616) (hn : -5000 ≤ n ∧ n ≤ 5000) :
    Calls Tryz.prog 32 #[.int .u64 a, .int .i64 n] w fun r w' => r = .returned (.int .u64 (xV a n : Nat)) ∧ Below w.heap.size w w' :=
  r9shift_of a (lV a n) (xV a n) n w (fun w' => f9_any a w' ha) (fun w' => Ldexp_any a n w' ha hn) (fun w' => b9_of _ _ w' (fun w'' => canon_lV a n w'' ha))

end Go.Proofs.YtfnnbkclnflpfaaGreatDoor

/- Package vector: gather and each, of any function value. -/
namespace Go.Proofs.YtfnnbkclnflpfaaGreatDoor
open Go.RowKit

/-- A row of bits in a block of its own. -/
def bitV (x : Nat) : Value := .int .u64 (x : Int)
def RowB (w : World) (g : Nat) (S : List Nat) : Prop := w.heap[g]? = some (.cells (S.map bitV).toArray 52 (0, 0))

theorem RowB.cell {w : World} {g : Nat} {S : List Nat} (h : RowB w g S) (j : Nat) (hj : j < S.length) : w.cell? ⟨g, j, none⟩ = some (.int .u64 ((S[j]?.getD 0 : Nat) : Int)) := by
  rw [cell_of_row w g j _ _ _ h]
  simp [bitV, hj]
theorem RowB.free {w : World} {g : Nat} {S : List Nat} (h : RowB w g S) (j : Nat) : w.frozen? ⟨g, j, none⟩ = false := frozen_of_row w g j _ _ h
theorem RowB.set {w : World} {g : Nat} {S : List Nat} (h : RowB w g S) (j x : Nat) : RowB (w.setCell ⟨g, j, none⟩ (.int .u64 (x : Int))) g (S.set j x) := by
  unfold RowB
  rw [heap_setCell_same w g j _ _ _ h]
  simp [bitV, List.map_set]
theorem RowB.lt {w : World} {g : Nat} {S : List Nat} (h : RowB w g S) : g < w.heap.size := (Array.getElem?_eq_some_iff.1 h).1
theorem RowB.below {w w' : World} {g : Nat} {S : List Nat} (h : RowB w g S) {B : Nat} (hb : Below B w w') (hg : g < B) : RowB w' g S := by
  unfold RowB; rw [hb.block g hg]; exact h
theorem RowB.made (w : World) (n : Nat) : RowB (w.alloc (.cells (madeCells #[.int .u64 0] n) 52)) w.heap.size (List.replicate n 0) := by
  unfold RowB
  rw [heap_alloc_new w _]
  have : madeCells #[Value.int .u64 0] n = ((List.replicate n 0).map bitV).toArray := by
    apply Array.toList_inj.1
    refine List.ext_getElem (by simp [madeCells]) fun i h1 h2 => ?_
    simp [madeCells, bitV, Nat.mod_one]
  rw [this]

end Go.Proofs.YtfnnbkclnflpfaaGreatDoor

/- Package vector: the functions that gather and each are handed, by letters. -/
namespace Go.Proofs.YtfnnbkclnflpfaaGreatDoor
open Go.RowKit
attribute [local go_sem ↓] Go.wp_at_zero Go.wp_at_succ

theorem cell_keep {w w' : World} {p : Addr} {v : Value} (h : w.cell? p = some v) (hb : Below w.heap.size w w') : w'.cell? p = some v := by
  rw [hb.cell (World.block_lt_of_cell? w _ h)]; exact h

end Go.Proofs.YtfnnbkclnflpfaaGreatDoor

/- Contracts of vector's dot, Dot, Axpy, Times, Biggest, Finite. -/
namespace Go.Proofs.YtfnnbkclnflpfaaGreatDoor
open Go.RowKit
attribute [local go_sem ↓] Go.wp_at_zero Go.wp_at_succ
theorem size_alloc9 (w : World) (o : Obj) : (w.alloc o).heap.size = w.heap.size + 1 := by simp
theorem below_alloc9 (w : World) (o : Obj) : Below w.heap.size w (w.alloc o) := (Below.refl _ _).alloc (Nat.le_refl _) o
theorem BitsAt.lt {w : World} {ao : Option Addr} {cap : Nat} {I : List Int} (h : BitsAt w ao cap I) (j : Nat) : atB I j < 18446744073709551616 := (h.wf j).2

def fnK (I : List Int) : Nat → Bool
  | 0 => true
  | k + 1 => fnK I k && fFin (atB I k)
theorem RowB.bits {w : World} {g : Nat} {S : List Nat} (h : RowB w g S) (hf : ∀ x ∈ S, x < 18446744073709551616) : BitsAt w (some ⟨g, 0, none⟩) S.length (S.map (fun x : Nat => (x : Int))) := by
  refine ⟨by simp, ?_, .inr ⟨g, 0, rfl, h.lt, fun i hi => ?_⟩⟩
  · intro x hx
    obtain ⟨y, hy, rfl⟩ := List.mem_map.1 hx
    have := hf y hy
    omega
  · have hi' : i < S.length := by simpa using hi
    rw [Nat.zero_add, h.cell i hi']
    simp [hi']
end Go.Proofs.YtfnnbkclnflpfaaGreatDoor

