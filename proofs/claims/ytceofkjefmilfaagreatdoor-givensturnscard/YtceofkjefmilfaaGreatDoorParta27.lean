/- Part 27 of the texts. -/
import Derived.Test.YtceofkjefmilfaaGreatDoorParta23
import Derived.Test.YtceofkjefmilfaaGreatDoorParta25
import Derived.Test.YtceofkjefmilfaaGreatDoorParta26
import Derived.Test.YtceofkjefmilfaaGreatDoorParta04
import Derived.Test.YtceofkjefmilfaaGreatDoorParta01
import Derived.Deep.OwnRows
import Derived.Deep.RegionHeld3
import Derived.Test.YtceofkjefmilfaaGreatDoorParta21
/- Package vector: operations without flags; the reference's with Go's own float64. -/
namespace Go.Proofs.YtceofkjefmilfaaGreatDoor
open Go.RowKit

set_option maxRecDepth 20000 in
set_option maxHeartbeats 2000000 in
theorem vadd_any (a b : Nat) (w : World) (ha : a < 18446744073709551616) (hb : b < 18446744073709551616) (hT : Tab w) :
    Calls Tryz.prog 76 #[.int .u64 a, .int .u64 b] w fun r w' => r = .returned (.int .u64 (aV a b : Nat)) ∧ Below w.heap.size w w' := by
  have K := hide (sadd_any a b w ha hb hT)
  clear ha hb hT
  generalize aV a b = o at *
  generalize aF a b = f at *
  go_enter Tryz.func76, Tryz.ntmps76
  go_wp2_with fail
  refine Calls.mono (unhide K) ?_
  rintro e w1 ⟨rfl, hb1⟩
  clear K
  go_wp2
  go_ret
  exact ⟨rfl, hb1⟩

set_option maxRecDepth 20000 in
set_option maxHeartbeats 2000000 in
theorem vmul_any (a b : Nat) (w : World) (ha : a < 18446744073709551616) (hb : b < 18446744073709551616) (hT : Tab w) :
    Calls Tryz.prog 77 #[.int .u64 a, .int .u64 b] w fun r w' => r = .returned (.int .u64 (mV a b : Nat)) ∧ Below w.heap.size w w' := by
  have K := hide (tmul_any a b w ha hb hT)
  clear ha hb hT
  generalize mV a b = o at *
  generalize mF a b = f at *
  go_enter Tryz.func77, Tryz.ntmps77
  go_wp2_with fail
  refine Calls.mono (unhide K) ?_
  rintro e w1 ⟨rfl, hb1⟩
  clear K
  go_wp2
  go_ret
  exact ⟨rfl, hb1⟩

set_option maxRecDepth 20000 in
set_option maxHeartbeats 2000000 in
theorem vscale_any (a : Nat) (n : Int) (w : World) (ha : a < 18446744073709551616) (hT : Tab w) :
    Calls Tryz.prog 74 #[.int .u64 a, .int .i64 n] w fun r w' => r = .returned (.int .u64 (xV a n : Nat)) ∧ Below w.heap.size w w' := by
  have K := hide (cscale_any a n w ha hT)
  clear ha hT
  generalize xV a n = o at *
  generalize xF a n = f at *
  go_enter Tryz.func74, Tryz.ntmps74
  go_wp2_with fail
  refine Calls.mono (unhide K) ?_
  rintro e w1 ⟨rfl, hb1⟩
  clear K
  go_wp2
  go_ret
  exact ⟨rfl, hb1⟩

set_option maxRecDepth 20000 in
set_option maxHeartbeats 2000000 in
theorem f9_any (b : Nat) (w : World) (_h : b < 18446744073709551616) :
    Calls Tryz.prog 82 #[.int .u64 b] w fun r w' => r = .returned (.float .f64 b) ∧ w = w' := by
  have hF := fun W => frombits5 b W
  have hw : IntKind.u64.wrap (b : Int) = (b : Int) := by simp only [IntKind.wrap_u64]; omega
  go_enter Tryz.func82, Tryz.ntmps82
  go_wp2
  go_ret
  exact ⟨rfl, rfl⟩

/-- The reference's number of Go's own, by its bits. -/
theorem b9_of (R v : Nat) (w : World) (C : ∀ w', Calls Tryz.prog 107 #[.int .u64 (R : Nat)] w' fun r w'' => r = .returned (.int .u64 (v : Nat)) ∧ w' = w'') :
    Calls Tryz.prog 80 #[.float .f64 R] w fun r w' => r = .returned (.int .u64 (v : Nat)) ∧ w = w' := by
  have K := hide C
  have hB := fun R W => tobits5 R W
  clear C
  go_enter Tryz.func80, Tryz.ntmps80
  go_wp2_with fail
  refine (unhide K _).mono ?_
  rintro e w2 ⟨rfl, rfl⟩
  clear K
  go_wp2
  go_ret
  exact ⟨rfl, rfl⟩

set_option maxRecDepth 20000 in
set_option maxHeartbeats 4000000 in
theorem r9add_of (a b v : Nat) (o : Option Nat) (w : World)
    (hA : ∀ i w', (binOp .add i (.float .f64 a) (.float .f64 b)).run Tryz.prog w' = .ok (.float .f64 (fres o a b w')) (fwld o w'))
    (F1 : ∀ w', Calls Tryz.prog 82 #[.int .u64 a] w' fun r w'' => r = .returned (.float .f64 a) ∧ w' = w'')
    (F2 : ∀ w', Calls Tryz.prog 82 #[.int .u64 b] w' fun r w'' => r = .returned (.float .f64 b) ∧ w' = w'')
    (N1 : ∀ u w', Calls Tryz.prog 80 #[.float .f64 (fres o a b u)] w' fun r w'' => r = .returned (.int .u64 v) ∧ w' = w'') :
    Calls Tryz.prog 44 #[.int .u64 a, .int .u64 b] w fun r w' => r = .returned (.int .u64 (v : Nat)) ∧ Below w.heap.size w w' := by
  have L1 := hide F1; have L2 := hide F2; have M1 := hide N1
  have B := hide (below_fwld o w)
  clear F1 F2 N1
  go_enter Tryz.func44, Tryz.ntmps44
  go_wp2_with fail
  refine (unhide L1 _).mono ?_
  rintro e w2 ⟨rfl, rfl⟩
  go_wp2_with fail
  refine (unhide L2 _).mono ?_
  rintro e w2 ⟨rfl, rfl⟩
  go_wp2_with fail
  refine (unhide M1 _ _).mono ?_
  rintro e w2 ⟨rfl, rfl⟩
  clear L1 L2 M1
  go_wp2
  go_ret
  exact ⟨rfl, unhide B⟩

theorem r9add_any (a b : Nat) (w : World) (ha : a < 18446744073709551616) (hb : b < 18446744073709551616) :
    Calls Tryz.prog 44 #[.int .u64 a, .int .u64 b] w fun r w' => r = .returned (.int .u64 (aV a b : Nat)) ∧ Below w.heap.size w w' :=
  r9add_of a b (aV a b) (Ieee.double.add a b) w (fun i w' => fadd_run i a b w') (fun w' => f9_any a w' ha) (fun w' => f9_any b w' hb) (fun u w' => b9_of _ _ w' (fun w'' => canon_add a b u w'' ha hb))

set_option maxRecDepth 20000 in
set_option maxHeartbeats 4000000 in
theorem r9mul_of (a b v : Nat) (o : Option Nat) (w : World)
    (hA : ∀ i w', (binOp .mul i (.float .f64 a) (.float .f64 b)).run Tryz.prog w' = .ok (.float .f64 (fres o a b w')) (fwld o w'))
    (F1 : ∀ w', Calls Tryz.prog 82 #[.int .u64 a] w' fun r w'' => r = .returned (.float .f64 a) ∧ w' = w'')
    (F2 : ∀ w', Calls Tryz.prog 82 #[.int .u64 b] w' fun r w'' => r = .returned (.float .f64 b) ∧ w' = w'')
    (N1 : ∀ u w', Calls Tryz.prog 80 #[.float .f64 (fres o a b u)] w' fun r w'' => r = .returned (.int .u64 v) ∧ w' = w'') :
    Calls Tryz.prog 45 #[.int .u64 a, .int .u64 b] w fun r w' => r = .returned (.int .u64 (v : Nat)) ∧ Below w.heap.size w w' := by
  have L1 := hide F1; have L2 := hide F2; have M1 := hide N1
  have B := hide (below_fwld o w)
  clear F1 F2 N1
  go_enter Tryz.func45, Tryz.ntmps45
  go_wp2_with fail
  refine (unhide L1 _).mono ?_
  rintro e w2 ⟨rfl, rfl⟩
  go_wp2_with fail
  refine (unhide L2 _).mono ?_
  rintro e w2 ⟨rfl, rfl⟩
  go_wp2_with fail
  refine (unhide M1 _ _).mono ?_
  rintro e w2 ⟨rfl, rfl⟩
  clear L1 L2 M1
  go_wp2
  go_ret
  exact ⟨rfl, unhide B⟩

theorem r9mul_any (a b : Nat) (w : World) (ha : a < 18446744073709551616) (hb : b < 18446744073709551616) :
    Calls Tryz.prog 45 #[.int .u64 a, .int .u64 b] w fun r w' => r = .returned (.int .u64 (mV a b : Nat)) ∧ Below w.heap.size w w' :=
  r9mul_of a b (mV a b) (Ieee.double.mul a b) w (fun i w' => fmul_run i a b w') (fun w' => f9_any a w' ha) (fun w' => f9_any b w' hb) (fun u w' => b9_of _ _ w' (fun w'' => canon_mul a b u w'' ha hb))

set_option maxRecDepth 20000 in
set_option maxHeartbeats 4000000 in
theorem r9sqrt_of (a v : Nat) (o : Option Nat) (w : World)
    (F1 : ∀ w', Calls Tryz.prog 82 #[.int .u64 a] w' fun r w'' => r = .returned (.float .f64 a) ∧ w' = w'')
    (S1 : ∀ w', Calls Tryz.prog 83 #[.float .f64 a] w' fun r w'' => r = .returned (.float .f64 (fres o a a w')) ∧ w'' = fwld o w')
    (N1 : ∀ u w', Calls Tryz.prog 80 #[.float .f64 (fres o a a u)] w' fun r w'' => r = .returned (.int .u64 v) ∧ w' = w'') :
    Calls Tryz.prog 43 #[.int .u64 a] w fun r w' => r = .returned (.int .u64 (v : Nat)) ∧ Below w.heap.size w w' := by
  have L1 := hide F1; have L2 := hide S1; have M1 := hide N1
  have B := hide (below_fwld o w)
  clear F1 S1 N1
  go_enter Tryz.func43, Tryz.ntmps43
  go_wp2_with fail
  refine (unhide L1 _).mono ?_
  rintro e w2 ⟨rfl, rfl⟩
  go_wp2_with fail
  refine (unhide L2 _).mono ?_
  rintro e w2 ⟨rfl, rfl⟩
  go_wp2_with fail
  refine (unhide M1 _ _).mono ?_
  rintro e w2 ⟨rfl, rfl⟩
  clear L1 L2 M1
  go_wp2
  go_ret
  exact ⟨rfl, unhide B⟩

theorem r9sqrt_any (a : Nat) (w : World) (ha : a < 18446744073709551616) :
    Calls Tryz.prog 43 #[.int .u64 a] w fun r w' => r = .returned (.int .u64 (sV a : Nat)) ∧ Below w.heap.size w w' :=
  r9sqrt_of a (sV a) (Ieee.double.sqrt a) w (fun w' => f9_any a w' ha) (fun w' => msqrt_any a _ w' (fun W => msqrt_run a W)) (fun u w' => b9_of _ _ w' (fun w'' => canon_sqrt a u w'' ha))

set_option maxRecDepth 20000 in
set_option maxHeartbeats 4000000 in
theorem r9shift_of (a l v : Nat) (n : Int) (w : World)
    (F1 : ∀ w', Calls Tryz.prog 82 #[.int .u64 a] w' fun r w'' => r = .returned (.float .f64 a) ∧ w' = w'')
    (S1 : ∀ w', Calls Tryz.prog 81 #[.float .f64 a, .int .i64 n] w' fun r w'' => r = .returned (.float .f64 l) ∧ w' = w'')
    (N1 : ∀ w', Calls Tryz.prog 80 #[.float .f64 l] w' fun r w'' => r = .returned (.int .u64 v) ∧ w' = w'') :
    Calls Tryz.prog 42 #[.int .u64 a, .int .i64 n] w fun r w' => r = .returned (.int .u64 (v : Nat)) ∧ Below w.heap.size w w' := by
  have L1 := hide F1; have L2 := hide S1; have M1 := hide N1
  clear F1 S1 N1
  go_enter Tryz.func42, Tryz.ntmps42
  go_wp2_with fail
  refine (unhide L1 _).mono ?_
  rintro e w2 ⟨rfl, rfl⟩
  go_wp2_with fail
  refine (unhide L2 _).mono ?_
  rintro e w2 ⟨rfl, rfl⟩
  go_wp2_with fail
  refine (unhide M1 _).mono ?_
  rintro e w2 ⟨rfl, rfl⟩
  clear L1 L2 M1
  go_wp2
  go_ret
  exact ⟨rfl, Below.refl _ _⟩

theorem r9shift_any (a : Nat) (n : Int) (w : World) (ha : a < 18446744073709551616) (hn : -5000 ≤ n ∧ n ≤ 5000) :
    Calls Tryz.prog 42 #[.int .u64 a, .int .i64 n] w fun r w' => r = .returned (.int .u64 (xV a n : Nat)) ∧ Below w.heap.size w w' :=
  r9shift_of a (lV a n) (xV a n) n w (fun w' => f9_any a w' ha) (fun w' => Ldexp_any a n w' ha hn) (fun w' => b9_of _ _ w' (fun w'' => canon_lV a n w'' ha))

end Go.Proofs.YtceofkjefmilfaaGreatDoor

/- Package vector: gather and each, of any function value. -/
namespace Go.Proofs.YtceofkjefmilfaaGreatDoor
open Go.RowKit

set_option maxRecDepth 20000 in
set_option maxHeartbeats 4000000 in
theorem gatherB_any (fn : Nat) (caps : Array Value) (n : Nat) (f : Nat → Nat) (w : World)
    (hcf : ∀ args w, (callFunc fn args).run Tryz.prog w = .ok (.enter fn args) w) (hn : n ≤ 35184372088830)
    (hstep : ∀ w' k, Below w.heap.size w w' → k < n → Calls Tryz.prog fn (#[.int .u64 (f k : Nat), .int .i64 (k : Nat)] ++ caps) w' fun e w'' => e = .returned (.int .u64 (f (k + 1) : Nat)) ∧ Below w'.heap.size w' w'') :
    Calls Tryz.prog 97 #[.int .i64 n, .int .u64 (f 0 : Nat), .func (.func fn) #[] caps] w fun e w' => e = .returned (.int .u64 (f n : Nat)) ∧ Below w.heap.size w w' := by
  have HS := hide hstep
  clear hstep
  go_enter Tryz.func97, Tryz.ntmps97
  go_wp2_with fail
  go_loopw [7, 11] (fun t i wr => ∃ k : Nat, k ≤ n ∧ i = .int .i64 k ∧ t = .int .u64 (f k : Nat) ∧ Hid (Below w.heap.size w wr)) (fun _ i _ => n - (intOf i).toNat)
  case atStart => exact ⟨0, Nat.zero_le _, rfl, rfl, Below.refl _ _⟩
  case round =>
    obtain ⟨k, hk, rfl, rfl, hB⟩ := hrel
    by_cases hlt : k < n
    · have hkI : (k : Int) < (n : Int) := by omega
      have C := hide (fun w' h => unhide HS w' k h hlt)
      obtain ⟨o, eo⟩ : ∃ o, f (k + 1) = o := ⟨_, rfl⟩
      rw [eo] at C
      have eV := hide eo
      clear eo
      go_wp2_with fail
      refine (unhide C _ hB.out).mono ?_
      rintro e w2 ⟨rfl, hb2⟩
      have B2 : Hid (Below w.heap.size w w2) := hB.out.trans (hb2.mono hB.out.size)
      clear hb2 C
      go_wp2_with fail
      go_round
      case rel => exact ⟨k + 1, by omega, by go_num, by rw [unhide eV], B2⟩
      case measure => simp [intOf]; omega
    · have hkk : k = n := by omega
      subst hkk
      go_wp2_with fail
      exact bodyPost_ret (v := .int .u64 (f k : Nat)) (by simp [results, Tryz.results97, go_sem]) rfl ⟨rfl, hB.out⟩

set_option maxRecDepth 20000 in
set_option maxHeartbeats 4000000 in
theorem gatherb_any (fn : Nat) (caps : Array Value) (n : Nat) (f : Nat → Bool) (w : World)
    (hcf : ∀ args w, (callFunc fn args).run Tryz.prog w = .ok (.enter fn args) w) (hn : n ≤ 35184372088830)
    (hstep : ∀ w' k, Below w.heap.size w w' → k < n → Calls Tryz.prog fn (#[.bool (f k), .int .i64 (k : Nat)] ++ caps) w' fun e w'' => e = .returned (.bool (f (k + 1))) ∧ Below w'.heap.size w' w'') :
    Calls Tryz.prog 68 #[.int .i64 n, .bool (f 0), .func (.func fn) #[] caps] w fun e w' => e = .returned (.bool (f n)) ∧ Below w.heap.size w w' := by
  have HS := hide hstep
  clear hstep
  go_enter Tryz.func68, Tryz.ntmps68
  go_wp2_with fail
  go_loopw [7, 11] (fun t i wr => ∃ k : Nat, k ≤ n ∧ i = .int .i64 k ∧ t = .bool (f k) ∧ Hid (Below w.heap.size w wr)) (fun _ i _ => n - (intOf i).toNat)
  case atStart => exact ⟨0, Nat.zero_le _, rfl, rfl, Below.refl _ _⟩
  case round =>
    obtain ⟨k, hk, rfl, rfl, hB⟩ := hrel
    by_cases hlt : k < n
    · have hkI : (k : Int) < (n : Int) := by omega
      have C := hide (fun w' h => unhide HS w' k h hlt)
      obtain ⟨o, eo⟩ : ∃ o, f (k + 1) = o := ⟨_, rfl⟩
      rw [eo] at C
      have eV := hide eo
      clear eo
      go_wp2_with fail
      refine (unhide C _ hB.out).mono ?_
      rintro e w2 ⟨rfl, hb2⟩
      have B2 : Hid (Below w.heap.size w w2) := hB.out.trans (hb2.mono hB.out.size)
      clear hb2 C
      go_wp2_with fail
      go_round
      case rel => exact ⟨k + 1, by omega, by go_num, by rw [unhide eV], B2⟩
      case measure => simp [intOf]; omega
    · have hkk : k = n := by omega
      subst hkk
      go_wp2_with fail
      exact bodyPost_ret (v := .bool (f k)) (by simp [results, Tryz.results68, go_sem]) rfl ⟨rfl, hB.out⟩

/-- A row of bits in a block of its own. -/
def bitV (x : Nat) : Value := .int .u64 (x : Int)
def RowB (w : World) (g : Nat) (S : List Nat) : Prop := w.heap[g]? = some (.cells (S.map bitV).toArray 23 (0, 0))

theorem RowB.cell {w : World} {g : Nat} {S : List Nat} (h : RowB w g S) (j : Nat) (hj : j < S.length) : w.cell? ⟨g, j, none⟩ = some (.int .u64 ((S[j]?.getD 0 : Nat) : Int)) := by
  rw [cell_of_row w g j _ _ _ h]
  simp [bitV, hj]
theorem RowB.free {w : World} {g : Nat} {S : List Nat} (h : RowB w g S) (j : Nat) : w.frozen? ⟨g, j, none⟩ = false := frozen_of_row w g j _ _ h
theorem RowB.set {w : World} {g : Nat} {S : List Nat} (h : RowB w g S) (j x : Nat) : RowB (w.setCell ⟨g, j, none⟩ (.int .u64 (x : Int))) g (S.set j x) := by
  unfold RowB
  rw [heap_setCell_same w g j _ _ _ h]
  simp [bitV, List.map_set]
theorem RowB.lt {w : World} {g : Nat} {S : List Nat} (h : RowB w g S) : g < w.heap.size := (Array.getElem?_eq_some_iff.1 h).1
theorem RowB.below {w w' : World} {g : Nat} {S : List Nat} (h : RowB w g S) {B : Nat} (hb : Below B w w') (hg : g < B) : RowB w' g S := by
  unfold RowB; rw [hb.block g hg]; exact h
end Go.Proofs.YtceofkjefmilfaaGreatDoor

/- Package vector: the functions that gather and each are handed, by letters. -/
namespace Go.Proofs.YtceofkjefmilfaaGreatDoor
open Go.RowKit
attribute [local go_sem ↓] Go.wp_at_zero Go.wp_at_succ

theorem cell_keep {w w' : World} {p : Addr} {v : Value} (h : w.cell? p = some v) (hb : Below w.heap.size w w') : w'.cell? p = some v := by
  rw [hb.cell (World.block_lt_of_cell? w _ h)]; exact h

set_option maxRecDepth 20000 in
set_option maxHeartbeats 4000000 in
theorem biggest1_of (m x r o k n c bx : Nat) (b1 o1 : Nat) (w : World) (hk : k < n)
    (h1 : w.cell? ⟨bx, 0, none⟩ = some (.slice (some ⟨b1, o1, none⟩) n c))
    (h3 : w.cell? ⟨b1, o1 + k, none⟩ = some (.int .u64 (x : Nat)))
    (C1 : ∀ w', Below w.heap.size w w' → Calls Tryz.prog 100 #[.int .u64 x] w' fun e w'' => e = .returned (.int .u64 (r : Nat)) ∧ Below w'.heap.size w' w'')
    (C2 : ∀ w', Below w.heap.size w w' → Calls Tryz.prog 99 #[.int .u64 m, .int .u64 r] w' fun e w'' => e = .returned (.int .u64 (o : Nat)) ∧ Below w'.heap.size w' w'') :
    Calls Tryz.prog 98 #[.int .u64 m, .int .i64 k, .pointer (some ⟨bx, 0, none⟩)] w fun e w' => e = .returned (.int .u64 (o : Nat)) ∧ Below w.heap.size w w' := by
  have K1 := hide C1; have K2 := hide C2
  have hkI : (k : Int) < (n : Int) := by omega
  clear C1 C2
  go_enter Tryz.func98, Tryz.ntmps98
  go_wp2_with fail
  refine (unhide K1 _ (Below.refl _ _)).mono ?_
  rintro e w1 ⟨rfl, hb1⟩
  have B1 := hide hb1
  clear K1 hb1
  go_wp2_with fail
  refine (unhide K2 _ (unhide B1)).mono ?_
  rintro e w2 ⟨rfl, hb2⟩
  clear K2
  go_wp2
  go_ret
  exact ⟨rfl, (unhide B1).trans (hb2.mono (unhide B1).size)⟩

set_option maxRecDepth 20000 in
set_option maxHeartbeats 4000000 in
theorem finite1_of (q r : Bool) (x k n c bx : Nat) (b1 o1 : Nat) (w : World) (hk : k < n)
    (h1 : w.cell? ⟨bx, 0, none⟩ = some (.slice (some ⟨b1, o1, none⟩) n c))
    (h3 : w.cell? ⟨b1, o1 + k, none⟩ = some (.int .u64 (x : Nat)))
    (C1 : ∀ w', Below w.heap.size w w' → Calls Tryz.prog 70 #[.int .u64 x] w' fun e w'' => e = .returned (.bool r) ∧ Below w'.heap.size w' w'') :
    Calls Tryz.prog 69 #[.bool q, .int .i64 k, .pointer (some ⟨bx, 0, none⟩)] w fun e w' => e = .returned (.bool (q && r)) ∧ Below w.heap.size w w' := by
  have K1 := hide C1
  have hkI : (k : Int) < (n : Int) := by omega
  clear C1
  cases q
  · go_enter Tryz.func69, Tryz.ntmps69
    go_wp2
    go_ret
    exact ⟨rfl, Below.refl _ _⟩
  · go_enter Tryz.func69, Tryz.ntmps69
    go_wp2_with fail
    refine (unhide K1 _ (Below.refl _ _)).mono ?_
    rintro e w1 ⟨rfl, hb1⟩
    clear K1
    go_wp2
    go_ret
    exact ⟨rfl, hb1⟩

end Go.Proofs.YtceofkjefmilfaaGreatDoor

/- Contracts of vector's dot, Dot, Axpy, Times, Biggest, Finite. -/
namespace Go.Proofs.YtceofkjefmilfaaGreatDoor
open Go.RowKit
attribute [local go_sem ↓] Go.wp_at_zero Go.wp_at_succ

theorem new_cell (w : World) (x : Value) (t : TypeId) : (w.alloc (.cells #[x] t)).cell? ⟨w.heap.size, 0, none⟩ = some x := by
  rw [cell_of_row _ _ 0 _ _ _ (heap_alloc_new w _)]; rfl
theorem below_alloc9 (w : World) (o : Obj) : Below w.heap.size w (w.alloc o) := (Below.refl _ _).alloc (Nat.le_refl _) o
theorem BitsAt.lt {w : World} {ao : Option Addr} {cap : Nat} {I : List Int} (h : BitsAt w ao cap I) (j : Nat) : atB I j < 18446744073709551616 := (h.wf j).2

def bgK (I : List Int) : Nat → Nat
  | 0 => 0
  | k + 1 => mx (bgK I k) (fR (atB I k))
def fnK (I : List Int) : Nat → Bool
  | 0 => true
  | k + 1 => fnK I k && fFin (atB I k)
theorem mx_lt (a b : Nat) (ha : a < 18446744073709551616) (hb : b < 18446744073709551616) : mx a b < 18446744073709551616 := by
  unfold mx
  repeat' split
  all_goals omega
theorem bgK_lt (I : List Int) (k : Nat) : bgK I k < 18446744073709551616 := by
  induction k with
  | zero => show 0 < 18446744073709551616; omega
  | succ k ih => exact mx_lt _ _ ih (by have := fR_lt (atB I k); omega)

theorem RowB.bits {w : World} {g : Nat} {S : List Nat} (h : RowB w g S) (hf : ∀ x ∈ S, x < 18446744073709551616) : BitsAt w (some ⟨g, 0, none⟩) S.length (S.map (fun x : Nat => (x : Int))) := by
  refine ⟨by simp, ?_, .inr ⟨g, 0, rfl, h.lt, fun i hi => ?_⟩⟩
  · intro x hx
    obtain ⟨y, hy, rfl⟩ := List.mem_map.1 hx
    have := hf y hy
    omega
  · have hi' : i < S.length := by simpa using hi
    rw [Nat.zero_add, h.cell i hi']
    simp [hi']
set_option maxRecDepth 20000 in
theorem cfBiggest1 (args : Array Value) (w : World) : (callFunc 98 args).run Tryz.prog w = .ok (.enter 98 args) w := by
  simp only [callFunc, go_sem]
  rfl

set_option maxRecDepth 20000 in
theorem cfFinite1 (args : Array Value) (w : World) : (callFunc 69 args).run Tryz.prog w = .ok (.enter 69 args) w := by
  simp only [callFunc, go_sem]
  rfl

end Go.Proofs.YtceofkjefmilfaaGreatDoor

/- Contracts of vector's Times, Biggest, Finite, Norm. -/
namespace Go.Proofs.YtceofkjefmilfaaGreatDoor
open Go.RowKit
attribute [local go_sem ↓] Go.wp_at_zero Go.wp_at_succ

theorem order_ways9 (a b : Nat) :
    ∃ l q, ((cO a b = 0 ∧ cB a b = false ∧ l = false ∧ q = false) ∨ (cO a b = -1 ∧ cB a b = true ∧ l = true ∧ q = false) ∨ (cO a b = 0 ∧ cB a b = true ∧ l = false ∧ q = true) ∨ (cO a b = 1 ∧ cB a b = true ∧ l = false ∧ q = false)) ∧ cM a b l (cB a b) = mx a b := by
  by_cases h : fK a = 4 ∨ fK b = 4
  · have e1 : cO a b = 0 := by unfold cO; rw [if_pos h]
    have e2 : cB a b = false := by unfold cB; rw [if_pos h]
    refine ⟨false, false, .inl ⟨e1, e2, rfl, rfl⟩, ?_⟩
    unfold mx cM
    rw [if_pos h, if_pos e2]
  · have e1 : cO a b = cmpI (fZ a) (fZ b) := by unfold cO; rw [if_neg h]
    have e2 : cB a b = true := by unfold cB; rw [if_neg h]
    have em : mx a b = if fZ a < fZ b then b else a := by unfold mx; rw [if_neg h]
    have ec : ∀ l, cM a b l true = if l = true then b else a := fun l => by unfold cM; rw [if_neg (by decide)]
    rw [e1, e2, em]
    rcases (show fZ a < fZ b ∨ fZ a = fZ b ∨ fZ b < fZ a by omega) with g | g | g
    · exact ⟨true, false, .inr (.inl ⟨cmpI8_lt g, rfl, rfl, rfl⟩), by rw [ec, if_pos rfl, if_pos g]⟩
    · have g' : ¬ fZ a < fZ b := by omega
      exact ⟨false, true, .inr (.inr (.inl ⟨cmpI8_eq g, rfl, rfl, rfl⟩)), by rw [ec, if_neg (by decide), if_neg g']⟩
    · have g' : ¬ fZ a < fZ b := by omega
      exact ⟨false, false, .inr (.inr (.inr ⟨cmpI8_gt g, rfl, rfl, rfl⟩)), by rw [ec, if_neg (by decide), if_neg g']⟩

theorem cmax_any (a b : Nat) (w : World) (ha : a < 18446744073709551616) (hb : b < 18446744073709551616) :
    Calls Tryz.prog 99 #[.int .u64 a, .int .u64 b] w fun r w' => r = .returned (.int .u64 (mx a b : Nat)) ∧ Below w.heap.size w w' := by
  obtain ⟨l, q, h, e⟩ := order_ways9 a b
  rw [← e]
  exact max_of a b _ _ l q w h (fun w' => corder_any a b w' ha hb)

theorem r8max_any (a b : Nat) (w : World) (ha : a < 18446744073709551616) (hb : b < 18446744073709551616) :
    Calls Tryz.prog 40 #[.int .u64 a, .int .u64 b] w fun r w' => r = .returned (.int .u64 (mx a b : Nat)) ∧ Below w.heap.size w w' := by
  obtain ⟨l, q, h, e⟩ := order_ways9 a b
  rw [← e]
  exact rmax_of a b _ _ l q w h (fun w' => rorder_any a b w' ha hb)

set_option maxRecDepth 20000 in
set_option maxHeartbeats 4000000 in
theorem biggest_of (ao : Option Addr) (n c r : Nat) (w : World)
    (C : Calls Tryz.prog 97 #[.int .i64 n, .int .u64 0, .func (.func 98) #[] #[.pointer (some ⟨w.heap.size, 0, none⟩)]] (w.alloc (.cells #[.slice ao n c] 33)) fun e w'' => e = .returned (.int .u64 (r : Nat)) ∧ Below w.heap.size w w'') :
    Calls Tryz.prog 73 #[.slice ao n c] w fun e w' => e = .returned (.int .u64 (r : Nat)) ∧ Below w.heap.size w w' := by
  have K := hide C
  clear C
  go_enter Tryz.func73, Tryz.ntmps73
  go_wp2_with fail
  refine Calls.mono (unhide K) ?_
  rintro e w1 ⟨rfl, hb1⟩
  clear K
  go_wp2
  go_ret
  exact ⟨rfl, hb1⟩

theorem vBiggest_any (ao : Option Addr) (c : Nat) (I : List Int) (w : World) (hI : BitsAt w ao c I) (hn : I.length ≤ 35184372088830) :
    Calls Tryz.prog 73 #[.slice ao I.length c] w fun e w' => e = .returned (.int .u64 (bgK I I.length : Nat)) ∧ Below w.heap.size w w' := by
  refine biggest_of ao _ c _ w ?_
  have b1 := below_alloc9 w (.cells #[.slice ao I.length c] 33)
  have x1 := new_cell w (.slice ao I.length c) 33
  generalize w.alloc (.cells #[.slice ao I.length c] 33) = w1 at *
  refine Calls.mono (gatherB_any 98 #[.pointer (some ⟨w.heap.size, 0, none⟩)] I.length (bgK I) w1 cfBiggest1 hn ?_) ?_
  · intro w' k hb hk
    have hb' : Below w.heap.size w w' := b1.trans (hb.mono b1.size)
    obtain ⟨g1, o1, e1, _, z1⟩ := (hI.below hb').ne (by omega)
    have u1 := cell_keep x1 hb
    rw [e1] at u1
    exact biggest1_of (bgK I k) (atB I k) (fR (atB I k)) (bgK I (k + 1)) k I.length c w.heap.size g1 o1 w' hk u1 (z1 k hk)
      (fun w'' h => cabs_any _ w'' (hI.lt k)) (fun w'' h => cmax_any _ _ w'' (bgK_lt I k) (by have := fR_lt (atB I k); omega))
  · rintro e w' ⟨rfl, hb⟩
    exact ⟨rfl, b1.trans (hb.mono b1.size)⟩

set_option maxRecDepth 20000 in
set_option maxHeartbeats 4000000 in
theorem finite_of (ao : Option Addr) (n c : Nat) (r : Bool) (w : World)
    (C : Calls Tryz.prog 68 #[.int .i64 n, .bool true, .func (.func 69) #[] #[.pointer (some ⟨w.heap.size, 0, none⟩)]] (w.alloc (.cells #[.slice ao n c] 33)) fun e w'' => e = .returned (.bool r) ∧ Below w.heap.size w w'') :
    Calls Tryz.prog 34 #[.slice ao n c] w fun e w' => e = .returned (.bool r) ∧ Below w.heap.size w w' := by
  have K := hide C
  clear C
  go_enter Tryz.func34, Tryz.ntmps34
  go_wp2_with fail
  refine Calls.mono (unhide K) ?_
  rintro e w1 ⟨rfl, hb1⟩
  clear K
  go_wp2
  go_ret
  exact ⟨rfl, hb1⟩

theorem vFinite_any (ao : Option Addr) (c : Nat) (I : List Int) (w : World) (hI : BitsAt w ao c I) (hn : I.length ≤ 35184372088830) :
    Calls Tryz.prog 34 #[.slice ao I.length c] w fun e w' => e = .returned (.bool (fnK I I.length)) ∧ Below w.heap.size w w' := by
  refine finite_of ao _ c _ w ?_
  have b1 := below_alloc9 w (.cells #[.slice ao I.length c] 33)
  have x1 := new_cell w (.slice ao I.length c) 33
  generalize w.alloc (.cells #[.slice ao I.length c] 33) = w1 at *
  refine Calls.mono (gatherb_any 69 #[.pointer (some ⟨w.heap.size, 0, none⟩)] I.length (fnK I) w1 cfFinite1 hn ?_) ?_
  · intro w' k hb hk
    have hb' : Below w.heap.size w w' := b1.trans (hb.mono b1.size)
    obtain ⟨g1, o1, e1, _, z1⟩ := (hI.below hb').ne (by omega)
    have u1 := cell_keep x1 hb
    rw [e1] at u1
    exact finite1_of (fnK I k) (fFin (atB I k)) (atB I k) k I.length c w.heap.size g1 o1 w' hk u1 (z1 k hk) (fun w'' h => sfinite_any _ w'' (hI.lt k))
  · rintro e w' ⟨rfl, hb⟩
    exact ⟨rfl, b1.trans (hb.mono b1.size)⟩

end Go.Proofs.YtceofkjefmilfaaGreatDoor

