/- Part 25 of the texts. -/
import Derived.Test.YtgegjhkiiejhlaaDoorPart21
import Derived.Test.YtgegjhkiiejhlaaDoorPart24
import Derived.Test.YtgegjhkiiejhlaaDoorPart15
import Derived.Test.YtgegjhkiiejhlaaDoorPart22
import Derived.Test.YtgegjhkiiejhlaaDoorPart14
import Derived.Test.YtgegjhkiiejhlaaDoorPart11
import Derived.Deep.RegionHeld3
/- The reference of layer 6: signed, Mul. -/
namespace Go.Proofs.YtgegjhkiiejhlaaDoor
open Go.RowKit

set_option maxRecDepth 20000 in
set_option maxHeartbeats 2000000 in
theorem r6signed_any (z : Nat) (n : Bool) (w : World) (hz : z < 9223372036854775808) :
    Calls Tryd.prog 43 #[.int .u64 z, .bool n] w fun r w' => r = .returned (.int .u64 (wrd n z : Nat)) ∧ w = w' := by
  have K := hide (fun w' => rminus4_any z w' (by omega))
  cases n
  · rw [wrd_false]
    go_enter Tryd.func43, Tryd.ntmps43
    go_wp2
    go_ret
    exact ⟨rfl, rfl⟩
  · rw [← fN_wrd z hz]
    go_enter Tryd.func43, Tryd.ntmps43
    go_wp2_with fail
    refine (unhide K _).mono ?_
    rintro e wk ⟨rfl, rfl⟩
    go_wp2
    go_ret
    exact ⟨rfl, rfl⟩

/-- The reference's product of two that are not long. -/
theorem rmul6 {w : World} {v u : Value} {m1 m2 e1 e2 : Int} (hv : IsDy w v m1 e1) (hu : IsDy w u m2 e2) (h1 : m1.natAbs < 9007199254740992) (h2 : m2.natAbs < 9007199254740992) (b1 : -2000 ≤ e1 ∧ e1 ≤ 2000) (b2 : -2000 ≤ e2 ∧ e2 ≤ 2000) :
    Calls Tryd.prog 27 #[v, u] w fun r w' => ∃ q, r = .returned q ∧ IsDy w' q (oM (m1 * m2)) (oE (m1 * m2) (e1 + e2)) ∧ Below w.heap.size w w' := by
  have p30 : (9007199254740992 : Nat) ≤ 4294967296 ^ 30 := by decide +kernel
  obtain ⟨n, a, c, L, rfl, g1, g2, g3, g4, g5⟩ := hv.right (small_TOP _ (by omega))
  obtain ⟨n', a', c', L', rfl, k1, k2, k3, k4, k5⟩ := hu.right (small_TOP _ (by omega))
  have v1 : val L = m1.natAbs := by rw [← g3, natAbs_sval]
  have v2 : val L' = m2.natAbs := by rw [← k3, natAbs_sval]
  have l1 : L.length ≤ 30 := (length_le_iff L g1.2.1 (right_canon g2).2.1 30).2 (by rw [v1]; exact Nat.lt_of_lt_of_le h1 p30)
  have l2 : L'.length ≤ 30 := (length_le_iff L' k1.2.1 (right_canon k2).2.1 30).2 (by rw [v2]; exact Nat.lt_of_lt_of_le h2 p30)
  have := rmul_any n n' a a' c c' L L' e1 e2 w g1 k1 l1 l2
  rw [g3, k3] at this
  have hm : (m1 * m2).natAbs < 2 ^ 106 := by
    rw [Int.natAbs_mul]
    have : m1.natAbs * m2.natAbs < 9007199254740992 * 9007199254740992 := Nat.mul_lt_mul_of_lt_of_le h1 (Nat.le_of_lt h2) (by decide)
    exact Nat.lt_of_lt_of_le this (by decide)
  have hE : (if m1 * m2 = 0 then 0 else IntKind.i64.wrap (IntKind.i64.wrap (e1 + e2) + tz (m1 * m2).natAbs)) = oE (m1 * m2) (e1 + e2) := by
    by_cases h0 : m1 * m2 = 0
    · rw [if_pos h0, h0, oE_zero]
    · have ht : tz (m1 * m2).natAbs < 106 := tz_lt _ 106 (by omega) hm
      rw [if_neg h0, oE_ne _ _ h0, wrap_small (e1 + e2) (by omega), wrap_small _ (by omega)]
  rwa [hE] at this

/-- The product, at its numbers' own powers. -/
theorem mZ_level (a b : Nat) (ha : a < 18446744073709551616) (hb : b < 18446744073709551616) (fa : fFin a = true) (fb : fFin b = true) (a0 : fK a ≠ 0) (b0 : fK b ≠ 0) :
    oM (fZ a * fZ b) = oM (fD a * fD b) ∧ oE (fZ a * fZ b) (-2148) = oE (fD a * fD b) (fX a + fX b) := by
  obtain ⟨d1, d2⟩ := fZ_level a ha fa
  obtain ⟨d3, d4⟩ := fZ_level b hb fb
  have x1 := oM_level (fZ a) (-1074) (fZ_neg a a0).1
  have x2 := oM_level (fZ b) (-1074) (fZ_neg b b0).1
  rw [d1, d2] at x1
  rw [d3, d4] at x2
  have r1 : -1074 ≤ fX a := by rw [← d2, oE_ne _ _ (fZ_neg a a0).1]; omega
  have r2 : -1074 ≤ fX b := by rw [← d4, oE_ne _ _ (fZ_neg b b0).1]; omega
  have e : fZ a * fZ b = fD a * fD b * 2 ^ ((fX a - -1074).toNat + (fX b - -1074).toNat) := by
    rw [← x1, ← x2, Int.pow_add]
    generalize (2 : Int) ^ (fX a - -1074).toNat = P
    generalize (2 : Int) ^ (fX b - -1074).toNat = Q
    ac_rfl
  have h := oM_scale (fD a * fD b) ((fX a - -1074).toNat + (fX b - -1074).toNat) (-2148)
  rw [← e] at h
  refine ⟨h.1, ?_⟩
  rw [h.2]
  congr 1
  omega

set_option maxRecDepth 20000 in
set_option maxHeartbeats 4000000 in
theorem r6mul_n1 (a b : Nat) (kb : Int) (s t : Bool) (w : World) 
    (C1 : ∀ w', Calls Tryd.prog 23 #[.int .u64 a] w' fun r w'' => r = .returned (.int .i64 4) ∧ w' = w'')
    (C2 : ∀ w', Calls Tryd.prog 23 #[.int .u64 b] w' fun r w'' => r = .returned (.int .i64 kb) ∧ w' = w'')
    (C3 : ∀ w', Calls Tryd.prog 20 #[.int .u64 a] w' fun r w'' => r = .returned (.bool s) ∧ w' = w'')
    (C4 : ∀ w', Calls Tryd.prog 20 #[.int .u64 b] w' fun r w'' => r = .returned (.bool t) ∧ w' = w'') :
    Calls Tryd.prog 19 #[.int .u64 a, .int .u64 b] w fun r w' => r = .returned (.tuple #[.int .u64 9221120237041090560, .int .u8 0]) ∧ Below w.heap.size w w' := by
  have K1 := hide C1
  have K2 := hide C2
  have K3 := hide C3
  have K4 := hide C4
  clear C1 C2 C3 C4
  go_enter Tryd.func19, Tryd.ntmps19
  go_wp2_with fail
  refine (unhide K1 _).mono ?_
  rintro e wk ⟨rfl, rfl⟩
  go_wp2_with fail
  refine (unhide K2 _).mono ?_
  rintro e wk ⟨rfl, rfl⟩
  go_wp2_with fail
  refine (unhide K3 _).mono ?_
  rintro e wk ⟨rfl, rfl⟩
  go_wp2_with fail
  refine (unhide K4 _).mono ?_
  rintro e wk ⟨rfl, rfl⟩
  go_wp2
  exact bodyPost_ret (v := .tuple #[.int .u64 9221120237041090560, .int .u8 0]) (by simp [results, Tryd.results19, go_sem]) rfl ⟨rfl, Below.refl _ _⟩


set_option maxRecDepth 20000 in
set_option maxHeartbeats 4000000 in
theorem r6mul_n2 (a b : Nat) (ka : Int) (s t : Bool) (w : World) (h0 : (ka == 4) = false)
    (C1 : ∀ w', Calls Tryd.prog 23 #[.int .u64 a] w' fun r w'' => r = .returned (.int .i64 ka) ∧ w' = w'')
    (C2 : ∀ w', Calls Tryd.prog 23 #[.int .u64 b] w' fun r w'' => r = .returned (.int .i64 4) ∧ w' = w'')
    (C3 : ∀ w', Calls Tryd.prog 20 #[.int .u64 a] w' fun r w'' => r = .returned (.bool s) ∧ w' = w'')
    (C4 : ∀ w', Calls Tryd.prog 20 #[.int .u64 b] w' fun r w'' => r = .returned (.bool t) ∧ w' = w'') :
    Calls Tryd.prog 19 #[.int .u64 a, .int .u64 b] w fun r w' => r = .returned (.tuple #[.int .u64 9221120237041090560, .int .u8 0]) ∧ Below w.heap.size w w' := by
  have K1 := hide C1
  have K2 := hide C2
  have K3 := hide C3
  have K4 := hide C4
  clear C1 C2 C3 C4
  go_enter Tryd.func19, Tryd.ntmps19
  go_wp2_with fail
  refine (unhide K1 _).mono ?_
  rintro e wk ⟨rfl, rfl⟩
  go_wp2_with fail
  refine (unhide K2 _).mono ?_
  rintro e wk ⟨rfl, rfl⟩
  go_wp2_with fail
  refine (unhide K3 _).mono ?_
  rintro e wk ⟨rfl, rfl⟩
  go_wp2_with fail
  refine (unhide K4 _).mono ?_
  rintro e wk ⟨rfl, rfl⟩
  go_wp2
  exact bodyPost_ret (v := .tuple #[.int .u64 9221120237041090560, .int .u8 0]) (by simp [results, Tryd.results19, go_sem]) rfl ⟨rfl, Below.refl _ _⟩


set_option maxRecDepth 20000 in
set_option maxHeartbeats 4000000 in
theorem r6mul_iz (a b : Nat) (s t : Bool) (w : World) 
    (C1 : ∀ w', Calls Tryd.prog 23 #[.int .u64 a] w' fun r w'' => r = .returned (.int .i64 3) ∧ w' = w'')
    (C2 : ∀ w', Calls Tryd.prog 23 #[.int .u64 b] w' fun r w'' => r = .returned (.int .i64 0) ∧ w' = w'')
    (C3 : ∀ w', Calls Tryd.prog 20 #[.int .u64 a] w' fun r w'' => r = .returned (.bool s) ∧ w' = w'')
    (C4 : ∀ w', Calls Tryd.prog 20 #[.int .u64 b] w' fun r w'' => r = .returned (.bool t) ∧ w' = w'') :
    Calls Tryd.prog 19 #[.int .u64 a, .int .u64 b] w fun r w' => r = .returned (.tuple #[.int .u64 9221120237041090560, .int .u8 16]) ∧ Below w.heap.size w w' := by
  have K1 := hide C1
  have K2 := hide C2
  have K3 := hide C3
  have K4 := hide C4
  clear C1 C2 C3 C4
  go_enter Tryd.func19, Tryd.ntmps19
  go_wp2_with fail
  refine (unhide K1 _).mono ?_
  rintro e wk ⟨rfl, rfl⟩
  go_wp2_with fail
  refine (unhide K2 _).mono ?_
  rintro e wk ⟨rfl, rfl⟩
  go_wp2_with fail
  refine (unhide K3 _).mono ?_
  rintro e wk ⟨rfl, rfl⟩
  go_wp2_with fail
  refine (unhide K4 _).mono ?_
  rintro e wk ⟨rfl, rfl⟩
  go_wp2
  exact bodyPost_ret (v := .tuple #[.int .u64 9221120237041090560, .int .u8 16]) (by simp [results, Tryd.results19, go_sem]) rfl ⟨rfl, Below.refl _ _⟩


set_option maxRecDepth 20000 in
set_option maxHeartbeats 4000000 in
theorem r6mul_zi (a b : Nat) (s t : Bool) (w : World) 
    (C1 : ∀ w', Calls Tryd.prog 23 #[.int .u64 a] w' fun r w'' => r = .returned (.int .i64 0) ∧ w' = w'')
    (C2 : ∀ w', Calls Tryd.prog 23 #[.int .u64 b] w' fun r w'' => r = .returned (.int .i64 3) ∧ w' = w'')
    (C3 : ∀ w', Calls Tryd.prog 20 #[.int .u64 a] w' fun r w'' => r = .returned (.bool s) ∧ w' = w'')
    (C4 : ∀ w', Calls Tryd.prog 20 #[.int .u64 b] w' fun r w'' => r = .returned (.bool t) ∧ w' = w'') :
    Calls Tryd.prog 19 #[.int .u64 a, .int .u64 b] w fun r w' => r = .returned (.tuple #[.int .u64 9221120237041090560, .int .u8 16]) ∧ Below w.heap.size w w' := by
  have K1 := hide C1
  have K2 := hide C2
  have K3 := hide C3
  have K4 := hide C4
  clear C1 C2 C3 C4
  go_enter Tryd.func19, Tryd.ntmps19
  go_wp2_with fail
  refine (unhide K1 _).mono ?_
  rintro e wk ⟨rfl, rfl⟩
  go_wp2_with fail
  refine (unhide K2 _).mono ?_
  rintro e wk ⟨rfl, rfl⟩
  go_wp2_with fail
  refine (unhide K3 _).mono ?_
  rintro e wk ⟨rfl, rfl⟩
  go_wp2_with fail
  refine (unhide K4 _).mono ?_
  rintro e wk ⟨rfl, rfl⟩
  go_wp2
  exact bodyPost_ret (v := .tuple #[.int .u64 9221120237041090560, .int .u8 16]) (by simp [results, Tryd.results19, go_sem]) rfl ⟨rfl, Below.refl _ _⟩


set_option maxRecDepth 20000 in
set_option maxHeartbeats 4000000 in
theorem r6mul_i (a b : Nat) (kb : Int) (s t : Bool) (g : Bool → Nat) (w : World) (h0 : (kb == 4) = false) (h1 : (kb == 0) = false)
    (C1 : ∀ w', Calls Tryd.prog 23 #[.int .u64 a] w' fun r w'' => r = .returned (.int .i64 3) ∧ w' = w'')
    (C2 : ∀ w', Calls Tryd.prog 23 #[.int .u64 b] w' fun r w'' => r = .returned (.int .i64 kb) ∧ w' = w'')
    (C3 : ∀ w', Calls Tryd.prog 20 #[.int .u64 a] w' fun r w'' => r = .returned (.bool s) ∧ w' = w'')
    (C4 : ∀ w', Calls Tryd.prog 20 #[.int .u64 b] w' fun r w'' => r = .returned (.bool t) ∧ w' = w'')
    (C5 : ∀ w' n, Calls Tryd.prog 43 #[.int .u64 9218868437227405312, .bool n] w' fun r w'' => r = .returned (.int .u64 (g n : Nat)) ∧ w' = w'') :
    Calls Tryd.prog 19 #[.int .u64 a, .int .u64 b] w fun r w' => r = .returned (.tuple #[.int .u64 (g (s ^^ t) : Nat), .int .u8 0]) ∧ Below w.heap.size w w' := by
  have K1 := hide C1
  have K2 := hide C2
  have K3 := hide C3
  have K4 := hide C4
  have K5 := hide C5
  clear C1 C2 C3 C4 C5
  go_enter Tryd.func19, Tryd.ntmps19
  go_wp2_with fail
  refine (unhide K1 _).mono ?_
  rintro e wk ⟨rfl, rfl⟩
  go_wp2_with fail
  refine (unhide K2 _).mono ?_
  rintro e wk ⟨rfl, rfl⟩
  go_wp2_with fail
  refine (unhide K3 _).mono ?_
  rintro e wk ⟨rfl, rfl⟩
  go_wp2_with fail
  refine (unhide K4 _).mono ?_
  rintro e wk ⟨rfl, rfl⟩
  cases s <;> cases t
  all_goals
    go_wp2_with fail
    refine (unhide K5 _ _).mono ?_
    rintro e wk ⟨rfl, rfl⟩
    go_wp2
    exact bodyPost_ret (by simp [results, Tryd.results19, go_sem]) rfl ⟨rfl, Below.refl _ _⟩


set_option maxRecDepth 20000 in
set_option maxHeartbeats 4000000 in
theorem r6mul_j (a b : Nat) (ka : Int) (s t : Bool) (g : Bool → Nat) (w : World) (h0 : (ka == 4) = false) (h1 : (ka == 0) = false) (h2 : (ka == 3) = false)
    (C1 : ∀ w', Calls Tryd.prog 23 #[.int .u64 a] w' fun r w'' => r = .returned (.int .i64 ka) ∧ w' = w'')
    (C2 : ∀ w', Calls Tryd.prog 23 #[.int .u64 b] w' fun r w'' => r = .returned (.int .i64 3) ∧ w' = w'')
    (C3 : ∀ w', Calls Tryd.prog 20 #[.int .u64 a] w' fun r w'' => r = .returned (.bool s) ∧ w' = w'')
    (C4 : ∀ w', Calls Tryd.prog 20 #[.int .u64 b] w' fun r w'' => r = .returned (.bool t) ∧ w' = w'')
    (C5 : ∀ w' n, Calls Tryd.prog 43 #[.int .u64 9218868437227405312, .bool n] w' fun r w'' => r = .returned (.int .u64 (g n : Nat)) ∧ w' = w'') :
    Calls Tryd.prog 19 #[.int .u64 a, .int .u64 b] w fun r w' => r = .returned (.tuple #[.int .u64 (g (s ^^ t) : Nat), .int .u8 0]) ∧ Below w.heap.size w w' := by
  have K1 := hide C1
  have K2 := hide C2
  have K3 := hide C3
  have K4 := hide C4
  have K5 := hide C5
  clear C1 C2 C3 C4 C5
  go_enter Tryd.func19, Tryd.ntmps19
  go_wp2_with fail
  refine (unhide K1 _).mono ?_
  rintro e wk ⟨rfl, rfl⟩
  go_wp2_with fail
  refine (unhide K2 _).mono ?_
  rintro e wk ⟨rfl, rfl⟩
  go_wp2_with fail
  refine (unhide K3 _).mono ?_
  rintro e wk ⟨rfl, rfl⟩
  go_wp2_with fail
  refine (unhide K4 _).mono ?_
  rintro e wk ⟨rfl, rfl⟩
  cases s <;> cases t
  all_goals
    go_wp2_with fail
    refine (unhide K5 _ _).mono ?_
    rintro e wk ⟨rfl, rfl⟩
    go_wp2
    exact bodyPost_ret (by simp [results, Tryd.results19, go_sem]) rfl ⟨rfl, Below.refl _ _⟩


set_option maxRecDepth 20000 in
set_option maxHeartbeats 4000000 in
theorem r6mul_z (a b : Nat) (kb : Int) (s t : Bool) (g : Bool → Nat) (w : World) (h0 : (kb == 4) = false) (h1 : (kb == 3) = false)
    (C1 : ∀ w', Calls Tryd.prog 23 #[.int .u64 a] w' fun r w'' => r = .returned (.int .i64 0) ∧ w' = w'')
    (C2 : ∀ w', Calls Tryd.prog 23 #[.int .u64 b] w' fun r w'' => r = .returned (.int .i64 kb) ∧ w' = w'')
    (C3 : ∀ w', Calls Tryd.prog 20 #[.int .u64 a] w' fun r w'' => r = .returned (.bool s) ∧ w' = w'')
    (C4 : ∀ w', Calls Tryd.prog 20 #[.int .u64 b] w' fun r w'' => r = .returned (.bool t) ∧ w' = w'')
    (C5 : ∀ w' n, Calls Tryd.prog 43 #[.int .u64 0, .bool n] w' fun r w'' => r = .returned (.int .u64 (g n : Nat)) ∧ w' = w'') :
    Calls Tryd.prog 19 #[.int .u64 a, .int .u64 b] w fun r w' => r = .returned (.tuple #[.int .u64 (g (s ^^ t) : Nat), .int .u8 0]) ∧ Below w.heap.size w w' := by
  have K1 := hide C1
  have K2 := hide C2
  have K3 := hide C3
  have K4 := hide C4
  have K5 := hide C5
  clear C1 C2 C3 C4 C5
  go_enter Tryd.func19, Tryd.ntmps19
  go_wp2_with fail
  refine (unhide K1 _).mono ?_
  rintro e wk ⟨rfl, rfl⟩
  go_wp2_with fail
  refine (unhide K2 _).mono ?_
  rintro e wk ⟨rfl, rfl⟩
  go_wp2_with fail
  refine (unhide K3 _).mono ?_
  rintro e wk ⟨rfl, rfl⟩
  go_wp2_with fail
  refine (unhide K4 _).mono ?_
  rintro e wk ⟨rfl, rfl⟩
  cases s <;> cases t
  all_goals
    go_wp2_with fail
    refine (unhide K5 _ _).mono ?_
    rintro e wk ⟨rfl, rfl⟩
    go_wp2
    exact bodyPost_ret (by simp [results, Tryd.results19, go_sem]) rfl ⟨rfl, Below.refl _ _⟩


set_option maxRecDepth 20000 in
set_option maxHeartbeats 4000000 in
theorem r6mul_y (a b : Nat) (ka : Int) (s t : Bool) (g : Bool → Nat) (w : World) (h0 : (ka == 4) = false) (h1 : (ka == 3) = false) (h2 : (ka == 0) = false)
    (C1 : ∀ w', Calls Tryd.prog 23 #[.int .u64 a] w' fun r w'' => r = .returned (.int .i64 ka) ∧ w' = w'')
    (C2 : ∀ w', Calls Tryd.prog 23 #[.int .u64 b] w' fun r w'' => r = .returned (.int .i64 0) ∧ w' = w'')
    (C3 : ∀ w', Calls Tryd.prog 20 #[.int .u64 a] w' fun r w'' => r = .returned (.bool s) ∧ w' = w'')
    (C4 : ∀ w', Calls Tryd.prog 20 #[.int .u64 b] w' fun r w'' => r = .returned (.bool t) ∧ w' = w'')
    (C5 : ∀ w' n, Calls Tryd.prog 43 #[.int .u64 0, .bool n] w' fun r w'' => r = .returned (.int .u64 (g n : Nat)) ∧ w' = w'') :
    Calls Tryd.prog 19 #[.int .u64 a, .int .u64 b] w fun r w' => r = .returned (.tuple #[.int .u64 (g (s ^^ t) : Nat), .int .u8 0]) ∧ Below w.heap.size w w' := by
  have K1 := hide C1
  have K2 := hide C2
  have K3 := hide C3
  have K4 := hide C4
  have K5 := hide C5
  clear C1 C2 C3 C4 C5
  go_enter Tryd.func19, Tryd.ntmps19
  go_wp2_with fail
  refine (unhide K1 _).mono ?_
  rintro e wk ⟨rfl, rfl⟩
  go_wp2_with fail
  refine (unhide K2 _).mono ?_
  rintro e wk ⟨rfl, rfl⟩
  go_wp2_with fail
  refine (unhide K3 _).mono ?_
  rintro e wk ⟨rfl, rfl⟩
  go_wp2_with fail
  refine (unhide K4 _).mono ?_
  rintro e wk ⟨rfl, rfl⟩
  cases s <;> cases t
  all_goals
    go_wp2_with fail
    refine (unhide K5 _ _).mono ?_
    rintro e wk ⟨rfl, rfl⟩
    go_wp2
    exact bodyPost_ret (by simp [results, Tryd.results19, go_sem]) rfl ⟨rfl, Below.refl _ _⟩


set_option maxRecDepth 20000 in
set_option maxHeartbeats 4000000 in
theorem r6mul_f (a b : Nat) (ka kb : Int) (s t : Bool) (z1 z2 z3 X1 X2 X3 fl : Int) (o : Nat) (w : World) (h0 : (ka == 4) = false) (h1 : (ka == 3) = false) (h2 : (ka == 0) = false) (h3 : (kb == 4) = false) (h4 : (kb == 3) = false) (h5 : (kb == 0) = false)
    (C1 : ∀ w', Calls Tryd.prog 23 #[.int .u64 a] w' fun r w'' => r = .returned (.int .i64 ka) ∧ w' = w'')
    (C2 : ∀ w', Calls Tryd.prog 23 #[.int .u64 b] w' fun r w'' => r = .returned (.int .i64 kb) ∧ w' = w'')
    (C3 : ∀ w', Calls Tryd.prog 20 #[.int .u64 a] w' fun r w'' => r = .returned (.bool s) ∧ w' = w'')
    (C4 : ∀ w', Calls Tryd.prog 20 #[.int .u64 b] w' fun r w'' => r = .returned (.bool t) ∧ w' = w'')
    (C5 : ∀ w', Calls Tryd.prog 24 #[.int .u64 a] w' fun r w'' => ∃ u, r = .returned u ∧ IsDy w'' u z1 X1 ∧ Below w'.heap.size w' w'')
    (C6 : ∀ w', Calls Tryd.prog 24 #[.int .u64 b] w' fun r w'' => ∃ u, r = .returned u ∧ IsDy w'' u z2 X2 ∧ Below w'.heap.size w' w'')
    (C7 : ∀ w' v u, IsDy w' v z1 X1 → IsDy w' u z2 X2 → Calls Tryd.prog 27 #[v, u] w' fun r w'' => ∃ q, r = .returned q ∧ IsDy w'' q z3 X3 ∧ Below w'.heap.size w' w'')
    (C8 : ∀ w' v, IsDy w' v z3 X3 → Calls Tryd.prog 39 #[v] w' fun r w'' => r = .returned (.tuple #[.int .u64 (o : Nat), .int .u8 fl]) ∧ Below w'.heap.size w' w'') :
    Calls Tryd.prog 19 #[.int .u64 a, .int .u64 b] w fun r w' => r = .returned (.tuple #[.int .u64 (o : Nat), .int .u8 fl]) ∧ Below w.heap.size w w' := by
  have K1 := hide C1
  have K2 := hide C2
  have K3 := hide C3
  have K4 := hide C4
  have K5 := hide C5
  have K6 := hide C6
  have K7 := hide C7
  have K8 := hide C8
  clear C1 C2 C3 C4 C5 C6 C7 C8
  go_enter Tryd.func19, Tryd.ntmps19
  go_wp2_with fail
  refine (unhide K1 _).mono ?_
  rintro e wk ⟨rfl, rfl⟩
  go_wp2_with fail
  refine (unhide K2 _).mono ?_
  rintro e wk ⟨rfl, rfl⟩
  go_wp2_with fail
  refine (unhide K3 _).mono ?_
  rintro e wk ⟨rfl, rfl⟩
  go_wp2_with fail
  refine (unhide K4 _).mono ?_
  rintro e wk ⟨rfl, rfl⟩
  go_wp2_with fail
  refine (unhide K5 _).mono ?_
  rintro e w1 ⟨v, rfl, hv, hb1⟩
  obtain ⟨n1, a1, c1, L1, rfl, i1⟩ := hv
  have HV := hide (show IsDy w1 (.agg #[.bool n1, .slice a1 L1.length c1, .int .i64 X1]) z1 X1 from ⟨n1, a1, c1, L1, rfl, i1⟩)
  have B1 := hide hb1
  clear i1 hb1 K3 K1 K2 K4 K5
  go_wp2_with fail
  refine (unhide K6 _).mono ?_
  rintro e w2 ⟨v, rfl, hv, hb1⟩
  obtain ⟨n2, a2, c2, L2, rfl, i2⟩ := hv
  have HU := hide (show IsDy w2 (.agg #[.bool n2, .slice a2 L2.length c2, .int .i64 X2]) z2 X2 from ⟨n2, a2, c2, L2, rfl, i2⟩)
  have HV2 := hide ((unhide HV).below hb1)
  have B2 := hide ((unhide B1).trans (hb1.mono (unhide B1).size))
  clear i2 hb1 K6 B1 HV
  go_wp2_with fail
  refine (unhide K7 _ _ _ (unhide HV2) (unhide HU)).mono ?_
  rintro e w3 ⟨v, rfl, hv, hb1⟩
  obtain ⟨n3, a3, c3, L3, rfl, i3⟩ := hv
  have HX := hide (show IsDy w3 (.agg #[.bool n3, .slice a3 L3.length c3, .int .i64 X3]) z3 X3 from ⟨n3, a3, c3, L3, rfl, i3⟩)
  have B3 := hide ((unhide B2).trans (hb1.mono (unhide B2).size))
  clear i3 hb1 K7 B2 HV2 HU
  generalize L3.length = l3 at *
  go_wp2_with fail
  refine (unhide K8 _ _ (unhide HX)).mono ?_
  rintro e w4 ⟨rfl, hb1⟩
  have B4 := hide ((unhide B3).trans (hb1.mono (unhide B3).size))
  clear hb1 K8 B3
  go_wp2
  exact bodyPost_ret (v := .tuple #[.int .u64 o, .int .u8 fl]) (by simp [results, Tryd.results19, go_sem]) rfl ⟨rfl, unhide B4⟩


theorem fD_lt (b : Nat) : (fD b).natAbs < 9007199254740992 := by
  have : (oM (fM b)).natAbs ≤ (fM b).natAbs := oM_le _
  have h3 := fM_lt b
  show (oM (fM b)).natAbs < _
  omega
theorem fX_in (b : Nat) (hb : b < 18446744073709551616) (hf : fFin b = true) (h0 : fK b ≠ 0) : -1074 ≤ fX b ∧ fX b ≤ 1024 := by
  obtain ⟨β, x1, x2, x3, x4⟩ := odd_mag b hb hf h0
  have hz := fZ_lt b hf
  rw [fZ_abs, x2] at hz
  have hβ : β < 2098 := by
    have h1 : 2 ^ β ≤ (fD b).natAbs * 2 ^ β := Nat.le_mul_of_pos_left _ (by omega)
    exact pow_lt_of (Nat.lt_of_le_of_lt h1 hz)
  omega

/-- The reference's product of any two. -/
theorem r6mul_any (a b : Nat) (w : World) (ha : a < 18446744073709551616) (hb : b < 18446744073709551616) :
    Calls Tryd.prog 19 #[.int .u64 a, .int .u64 b] w fun r w' => r = .returned (.tuple #[.int .u64 (mV a b : Nat), .int .u8 (mF a b)]) ∧ Below w.heap.size w w' := by
  have C1 := fun w' => rkind_any a w' ha
  have C2 := fun w' => rkind_any b w' hb
  have C3 := fun w' => rneg4_any a w' ha
  have C4 := fun w' => rneg4_any b w' hb
  have CI := fun w' n => r6signed_any 9218868437227405312 n w' (by decide)
  have CZ := fun w' n => r6signed_any 0 n w' (by decide)
  by_cases a4 : fK a = 4
  · rw [show mV a b = 9221120237041090560 by unfold mV; rw [if_pos (Or.inl a4)], show mF a b = 0 by unfold mF; rw [if_pos (Or.inl a4)]]
    rw [a4] at C1
    exact r6mul_n1 a b _ _ _ w C1 C2 C3 C4
  by_cases b4 : fK b = 4
  · rw [show mV a b = 9221120237041090560 by unfold mV; rw [if_pos (Or.inr b4)], show mF a b = 0 by unfold mF; rw [if_pos (Or.inr b4)]]
    rw [b4] at C2
    exact r6mul_n2 a b _ _ _ w (by simp [a4]) C1 C2 C3 C4
  have n4 : ¬ (fK a = 4 ∨ fK b = 4) := by omega
  by_cases h3 : fK a = 3 ∨ fK b = 3
  · by_cases h0 : fK a = 0 ∨ fK b = 0
    · rw [show mV a b = 9221120237041090560 by unfold mV; rw [if_neg n4, if_pos h3, if_pos h0], show mF a b = 16 by unfold mF; rw [if_neg n4, if_pos h3, if_pos h0]]
      by_cases a3 : fK a = 3
      · have b0 : fK b = 0 := by omega
        rw [a3] at C1
        rw [b0] at C2
        exact r6mul_iz a b _ _ w C1 C2 C3 C4
      · have b3 : fK b = 3 := by omega
        have a0 : fK a = 0 := by omega
        rw [a0] at C1
        rw [b3] at C2
        exact r6mul_zi a b _ _ w C1 C2 C3 C4
    · rw [show mV a b = wrd (fS a ^^ fS b) 9218868437227405312 by unfold mV; rw [if_neg n4, if_pos h3, if_neg h0], show mF a b = 0 by unfold mF; rw [if_neg n4, if_pos h3, if_neg h0]]
      by_cases a3 : fK a = 3
      · rw [a3] at C1
        exact r6mul_i a b _ _ _ (fun n => wrd n 9218868437227405312) w (by simp [b4]) (by simp; omega) C1 C2 C3 C4 CI
      · have b3 : fK b = 3 := by omega
        rw [b3] at C2
        exact r6mul_j a b _ _ _ (fun n => wrd n 9218868437227405312) w (by simp [a4]) (by simp; omega) (by simp [a3]) C1 C2 C3 C4 CI
  · by_cases h0 : fK a = 0 ∨ fK b = 0
    · have hz : rv (fR a) * rv (fR b) = 0 := by
        rcases h0 with h | h
        · rw [(rv_eq0 _).2 ((fK_zero a).1 h), Nat.zero_mul]
        · rw [(rv_eq0 _).2 ((fK_zero b).1 h), Nat.mul_zero]
      rw [show mV a b = wrd (fS a ^^ fS b) 0 by unfold mV; rw [if_neg n4, if_neg h3, hz, rnd_0], show mF a b = 0 by unfold mF; rw [if_neg n4, if_neg h3, if_pos h0]]
      by_cases a0 : fK a = 0
      · rw [a0] at C1
        exact r6mul_z a b _ _ _ (fun n => wrd n 0) w (by simp [b4]) (by simp; omega) C1 C2 C3 C4 CZ
      · have b0 : fK b = 0 := by omega
        rw [b0] at C2
        exact r6mul_y a b _ _ _ (fun n => wrd n 0) w (by simp [a4]) (by simp; omega) (by simp [a0]) C1 C2 C3 C4 CZ
    · have fa := fin_of a (fun e => h3 (Or.inl e)) a4
      have fb := fin_of b (fun e => h3 (Or.inr e)) b4
      have a0 : fK a ≠ 0 := by omega
      have b0 : fK b ≠ 0 := by omega
      obtain ⟨l1, l2⟩ := mZ_level a b ha hb fa fb a0 b0
      obtain ⟨z0, z1⟩ := mZ_neg a b a0 b0
      have x1 := fX_in a ha fa a0
      have x2 := fX_in b hb fb b0
      have C7 : ∀ w' v u, IsDy w' v (fD a) (fX a) → IsDy w' u (fD b) (fX b) → _ := fun w' v u hv hu => rmul6 hv hu (fD_lt a) (fD_lt b) (by omega) (by omega)
      rw [← l1, ← l2] at C7
      have l3 := mZ_Lvl a b fa fb
      have hbd : (oM (fZ a * fZ b)).natAbs < 4294967296 ^ 80 := by
        rw [l1]
        refine Nat.lt_of_le_of_lt (oM_le _) ?_
        rw [Int.natAbs_mul]
        have : (fD a).natAbs * (fD b).natAbs < 9007199254740992 * 9007199254740992 := Nat.mul_lt_mul_of_lt_of_le (fD_lt a) (Nat.le_of_lt (fD_lt b)) (by decide)
        exact Nat.lt_of_lt_of_le this (by decide +kernel)
      have C8 : ∀ w' v, IsDy w' v (oM (fZ a * fZ b)) (oE (fZ a * fZ b) (-2148)) → _ := fun w' v hv => rround_dy hv hbd l3.right.1
      rw [(rnd_odd (fZ a * fZ b) (-2148)).1, oM_sign, z1, Int.natAbs_mul, fZ_abs, fZ_abs] at C8
      rw [(mV_fin a b fa fb a0 b0).1, (mV_fin a b fa fb a0 b0).2]
      exact r6mul_f a b _ _ _ _ _ _ _ _ _ _ _ _ w (by simp [a4]) (by simp; omega) (by simp [a0]) (by simp [b4]) (by simp; omega) (by simp [b0]) C1 C2 C3 C4 (fun w' => rvalue_any a w' ha) (fun w' => rvalue_any b w' hb) C7 C8

end Go.Proofs.YtgegjhkiiejhlaaDoor

/- The reference's calls of layer 1 of numbers at hand, for its Quotient; what holds in Quotient's loop. -/
namespace Go.Proofs.YtgegjhkiiejhlaaDoor
open Go.RowKit

theorem top8000 {x : Int} (h : x.natAbs < 2 ^ 8000) : x.natAbs < TOP := lt_TOP h (by decide)

theorem rdouble6 {B : Nat} {w : World} {v : Value} {x : Int} (hv : IsNum B w v x) (hx : x.natAbs < 2 ^ 8000) :
    Calls Tryd.prog 36 #[v] w fun e w' => ∃ r, e = .returned r ∧ IsNum w.heap.size w' r (2 * x) ∧ Below w.heap.size w w' := by
  obtain ⟨na, ao, ca, A, rfl, a1, a2, a3, a4⟩ := hv.right (top8000 hx)
  have := double_any na ao ca A w a1 (by omega)
  have e : sg na (val A + val A) = 2 * x := by
    rw [← a3, sval_sg]; unfold sg; split <;> omega
  rw [e] at this
  exact this.mono fun e w' ⟨r, h1, h2, h3⟩ => ⟨r, h1, h2.num (by omega), h3⟩
theorem radd6 {B B' : Nat} {w : World} {v u : Value} {x y : Int} (hv : IsNum B w v x) (hu : IsNum B' w u y) (hx : x.natAbs < 2 ^ 8000) (hy : y.natAbs < 2 ^ 8000) :
    Calls Tryd.prog 37 #[v, u] w fun e w' => ∃ r, e = .returned r ∧ IsNum w.heap.size w' r (x + y) ∧ Below w.heap.size w w' := by
  obtain ⟨na, ao, ca, A, rfl, a1, a2, a3, a4⟩ := hv.right (top8000 hx)
  obtain ⟨nb, bo, cb, C, rfl, b1, b2, b3, b4⟩ := hu.right (top8000 hy)
  have := refAdd_any na nb ao bo ca cb A C w a1 b1 (by omega) (by omega)
  rw [a3, b3] at this
  exact this.mono fun e w' ⟨r, h1, h2, h3⟩ => ⟨r, h1, h2.num (by omega), h3⟩
theorem rsub6 {B B' : Nat} {w : World} {v u : Value} {x y : Int} (hv : IsNum B w v x) (hu : IsNum B' w u y) (hx : x.natAbs < 2 ^ 8000) (hy : y.natAbs < 2 ^ 8000) :
    Calls Tryd.prog 34 #[v, u] w fun e w' => ∃ r, e = .returned r ∧ IsNum w.heap.size w' r (x - y) ∧ Below w.heap.size w w' := by
  obtain ⟨na, ao, ca, A, rfl, a1, a2, a3, a4⟩ := hv.right (top8000 hx)
  obtain ⟨nb, bo, cb, C, rfl, b1, b2, b3, b4⟩ := hu.right (top8000 hy)
  have := refSub_any na nb ao bo ca cb A C w a1 b1 (by omega) (by omega)
  rw [a3, b3] at this
  exact this.mono fun e w' ⟨r, h1, h2, h3⟩ => ⟨r, h1, h2.num (by omega), h3⟩
theorem rcmp6 {B B' : Nat} {w : World} {v u : Value} {x y : Int} (hv : IsNum B w v x) (hu : IsNum B' w u y) (hx : x.natAbs < 2 ^ 8000) (hy : y.natAbs < 2 ^ 8000) :
    Calls Tryd.prog 61 #[v, u] w fun e w' => e = .returned (.int .i64 (cmpI x y)) ∧ Below w.heap.size w w' := by
  obtain ⟨na, ao, ca, A, rfl, a1, a2, a3, a4⟩ := hv.right (top8000 hx)
  obtain ⟨nb, bo, cb, C, rfl, b1, b2, b3, b4⟩ := hu.right (top8000 hy)
  have := refCompare_any na nb ao bo ca cb A C w a1 b1 (by omega) (by omega)
  rwa [a3, b3] at this
theorem rodd6 {B : Nat} {w : World} {v : Value} {x : Int} (hv : IsNum B w v x) (hx : x.natAbs < 2 ^ 8000) :
    Calls Tryd.prog 71 #[v] w fun e w' => e = .returned (.bool (decide (x.natAbs % 2 = 1))) ∧ Below w.heap.size w w' := by
  obtain ⟨na, ao, ca, A, rfl, a1, a2, a3, a4⟩ := hv.right (top8000 hx)
  have := odd_any na ao ca A w a1
  rwa [← natAbs_sval na A, a3] at this
theorem rlen6 {B : Nat} {w : World} {v : Value} {x : Int} (hv : IsNum B w v x) (hx : x.natAbs < 2 ^ 8000) :
    Calls Tryd.prog 60 #[v] w fun e w' => e = .returned (.int .i64 (bl x.natAbs : Nat)) ∧ Below w.heap.size w w' := by
  obtain ⟨na, ao, ca, A, rfl, a1, a2, a3, a4⟩ := hv.right (top8000 hx)
  have := refLen_any na ao ca A w a1 (by omega)
  rwa [lenL_bl a1.2.1 a2, ← natAbs_sval na A, a3] at this
theorem rshift6 {B : Nat} {w : World} {v : Value} {x : Nat} (hv : IsNum B w v x) (hx : x < 2 ^ 8000) (n : Int) (hn : -16384 ≤ n ∧ n ≤ 16384) :
    Calls Tryd.prog 32 #[v, .int .i64 n] w fun e w' => ∃ r, e = .returned r ∧ IsNum 0 w' r ((if 0 ≤ n then x * 2 ^ n.toNat else x / 2 ^ (-n).toNat : Nat) : Int) ∧ Below w.heap.size w w' := by
  obtain ⟨na, ao, ca, A, rfl, a1, a2, a3, a4⟩ := hv.right (top8000 (x := (x : Int)) hx)
  have := refShift_any na ao ca A n w a1 a2 hn
  have hv : val A = x := by rw [← natAbs_sval na A, a3]; rfl
  have e : shV na A n = ((if 0 ≤ n then x * 2 ^ n.toNat else x / 2 ^ (-n).toNat : Nat) : Int) := by
    unfold shV
    rw [hv]
    unfold sg
    split
    · rename_i hn
      have hx0 : x = 0 := by
        unfold sval at a3
        rw [if_pos hn, hv] at a3
        omega
      subst hx0
      split <;> simp
    · rfl
  rwa [e] at this
theorem rof6 (w : World) : Calls Tryd.prog 38 #[.int .i64 1] w fun e w' => ∃ v, e = .returned v ∧ IsNum w.heap.size w' v 1 ∧ Below w.heap.size w w' :=
  (refOf_any 1 w (by decide) (by decide)).mono fun e w' ⟨r, h1, h2, h3⟩ => ⟨r, h1, h2.num (by omega), h3⟩

theorem Box2.oth6 {w : World} {b g : Nat} {x y : Value} (h : Box2 w b x y) (hne : b ≠ g) (u u' : Value) : Box2 ((w.setCell ⟨g, 0, none⟩ u).setCell ⟨g, 1, none⟩ u') b x y :=
  (h.other (p := ⟨g, 0, none⟩) hne u).other (p := ⟨g, 1, none⟩) hne u'

/-- What holds in Quotient: its boxes, the quotient's and the rest's numbers. -/
def QSt (w : World) (va vb : Value × Value) (wr : World) (vq : Value × Value) (zq : Int) (vr : Value × Value) (zr : Int) : Prop :=
  Below w.heap.size w wr ∧ Box2 wr w.heap.size va.1 va.2 ∧ Box2 wr (w.heap.size + 1) vb.1 vb.2 ∧ Box2 wr (w.heap.size + 1 + 1) (.bool false) (.slice none 0 0) ∧ Box2 wr (w.heap.size + 1 + 1 + 1) (.bool false) (.slice none 0 0) ∧ Box2 wr (w.heap.size + 1 + 1 + 1 + 1) vq.1 vq.2 ∧ Box2 wr (w.heap.size + 1 + 1 + 1 + 1 + 1) vr.1 vr.2 ∧ IsNum (w.heap.size + 6) wr (.agg #[vq.1, vq.2]) zq ∧ IsNum (w.heap.size + 6) wr (.agg #[vr.1, vr.2]) zr

theorem QSt.below {w wr w' : World} {va vb vq vr : Value × Value} {zq zr : Int} (h : QSt w va vb wr vq zq vr zr) (hb : Below wr.heap.size wr w') : QSt w va vb w' vq zq vr zr := by
  obtain ⟨h0, h1, h2, h3, h4, h5, h6, h7, h8⟩ := h
  exact ⟨h0.trans (hb.mono h0.size), h1.all hb, h2.all hb, h3.all hb, h4.all hb, h5.all hb, h6.all hb, h7.below hb, h8.below hb⟩
theorem QSt.room {w wr : World} {va vb vq vr : Value × Value} {zq zr : Int} (h : QSt w va vb wr vq zq vr zr) : w.heap.size + 6 ≤ wr.heap.size := h.2.2.2.2.2.2.1.lt
theorem QSt.putq {w wr : World} {va vb vq vr : Value × Value} {zq zr : Int} (h : QSt w va vb wr vq zq vr zr) (x y : Value) (z : Int) (hn : IsNum (w.heap.size + 6) wr (.agg #[x, y]) z) :
    QSt w va vb ((wr.setCell ⟨w.heap.size + 1 + 1 + 1 + 1, 0, none⟩ x).setCell ⟨w.heap.size + 1 + 1 + 1 + 1, 1, none⟩ y) (x, y) z vr zr := by
  obtain ⟨h0, h1, h2, h3, h4, h5, h6, h7, h8⟩ := h
  exact ⟨(h0.setCell (by simp; omega) _).setCell (by simp; omega) _, h1.oth6 (by omega) _ _, h2.oth6 (by omega) _ _, h3.oth6 (by omega) _ _, h4.oth6 (by omega) _ _, h5.put _ _, h6.oth6 (by omega) _ _, hn.put2 (by simp) (by simp) _ _, h8.put2 (by simp) (by simp) _ _⟩
theorem QSt.putr {w wr : World} {va vb vq vr : Value × Value} {zq zr : Int} (h : QSt w va vb wr vq zq vr zr) (x y : Value) (z : Int) (hn : IsNum (w.heap.size + 6) wr (.agg #[x, y]) z) :
    QSt w va vb ((wr.setCell ⟨w.heap.size + 1 + 1 + 1 + 1 + 1, 0, none⟩ x).setCell ⟨w.heap.size + 1 + 1 + 1 + 1 + 1, 1, none⟩ y) vq zq (x, y) z := by
  obtain ⟨h0, h1, h2, h3, h4, h5, h6, h7, h8⟩ := h
  exact ⟨(h0.setCell (by simp; omega) _).setCell (by simp; omega) _, h1.oth6 (by omega) _ _, h2.oth6 (by omega) _ _, h3.oth6 (by omega) _ _, h4.oth6 (by omega) _ _, h5.oth6 (by omega) _ _, h6.put _ _, h7.put2 (by simp) (by simp) _ _, hn.put2 (by simp) (by simp) _ _⟩
/-- The boxes' cells. -/
theorem QSt.cells {w wr : World} {va vb vq vr : Value × Value} {zq zr : Int} (h : QSt w va vb wr vq zq vr zr) :
    (wr.cell? ⟨w.heap.size, 0, none⟩ = some va.1 ∧ wr.cell? ⟨w.heap.size, 1, none⟩ = some va.2) ∧ (wr.cell? ⟨w.heap.size + 1, 0, none⟩ = some vb.1 ∧ wr.cell? ⟨w.heap.size + 1, 1, none⟩ = some vb.2) ∧
    (wr.cell? ⟨w.heap.size + 1 + 1 + 1 + 1, 0, none⟩ = some vq.1 ∧ wr.cell? ⟨w.heap.size + 1 + 1 + 1 + 1, 1, none⟩ = some vq.2 ∧ wr.frozen? ⟨w.heap.size + 1 + 1 + 1 + 1, 0, none⟩ = false ∧ wr.frozen? ⟨w.heap.size + 1 + 1 + 1 + 1, 1, none⟩ = false) ∧
    (wr.cell? ⟨w.heap.size + 1 + 1 + 1 + 1 + 1, 0, none⟩ = some vr.1 ∧ wr.cell? ⟨w.heap.size + 1 + 1 + 1 + 1 + 1, 1, none⟩ = some vr.2 ∧ wr.frozen? ⟨w.heap.size + 1 + 1 + 1 + 1 + 1, 0, none⟩ = false ∧ wr.frozen? ⟨w.heap.size + 1 + 1 + 1 + 1 + 1, 1, none⟩ = false) := by
  obtain ⟨h0, h1, h2, h3, h4, h5, h6, h7, h8⟩ := h
  exact ⟨⟨h1.c0, h1.c1⟩, ⟨h2.c0, h2.c1⟩, ⟨h5.c0, h5.c1, h5.free 0, h5.free 1⟩, ⟨h6.c0, h6.c1, h6.free 0, h6.free 1⟩⟩

end Go.Proofs.YtgegjhkiiejhlaaDoor

/- The reference's Quotient. -/
namespace Go.Proofs.YtgegjhkiiejhlaaDoor
open Go.RowKit
attribute [local go_sem ↓] Go.wp_at_zero Go.wp_at_succ

theorem cmp_ge {x y : Int} (h : y ≤ x) : cmpI x y ≥ 0 := by unfold cmpI; split <;> (try split) <;> omega
theorem cmp_lt {x y : Int} (h : x < y) : ¬ cmpI x y ≥ 0 := by unfold cmpI; split <;> (try split) <;> omega
theorem QSt.as {w wr : World} {va vb vq vr : Value × Value} {zq zr zq' zr' : Int} (h : QSt w va vb wr vq zq vr zr) (h1 : zq = zq') (h2 : zr = zr') : QSt w va vb wr vq zq' vr zr' := by subst h1 h2; exact h
theorem QSt.start (w : World) (x y x' y' : Value) :
    QSt w (x, y) (x', y') ((((((w.alloc (.cells #[x, y] 44)).alloc (.cells #[x', y'] 44)).alloc (.cells #[.bool false, .slice none 0 0] 44)).alloc (.cells #[.bool false, .slice none 0 0] 44)).alloc (.cells #[.bool false, .slice none 0 0] 44)).alloc (.cells #[.bool false, .slice none 0 0] 44)) (.bool false, .slice none 0 0) 0 (.bool false, .slice none 0 0) 0 := by
  have s1 : ∀ (u : World) (o : Obj), (u.alloc o).heap.size = u.heap.size + 1 := fun u o => by simp
  refine ⟨((((((Below.refl _ _).alloc (Nat.le_refl _) _).alloc (by simp) _).alloc (by simp; omega) _).alloc (by simp; omega) _).alloc (by simp; omega) _).alloc (by simp; omega) _, ?_, ?_, ?_, ?_, ?_, ?_, IsNum.zero _ _ _ _, IsNum.zero _ _ _ _⟩
  · exact (((((Box2.new _ _ _).old _).old _).old _).old _).old _
  · have := ((((Box2.new (w.alloc (.cells #[x, y] 44)) x' y').old (.cells #[.bool false, .slice none 0 0] 44)).old (.cells #[.bool false, .slice none 0 0] 44)).old (.cells #[.bool false, .slice none 0 0] 44)).old (.cells #[.bool false, .slice none 0 0] 44)
    simpa using this
  · have := (((Box2.new ((w.alloc (.cells #[x, y] 44)).alloc (.cells #[x', y'] 44)) (.bool false) (.slice none 0 0)).old (.cells #[.bool false, .slice none 0 0] 44)).old (.cells #[.bool false, .slice none 0 0] 44)).old (.cells #[.bool false, .slice none 0 0] 44)
    simpa using this
  · have := ((Box2.new (((w.alloc (.cells #[x, y] 44)).alloc (.cells #[x', y'] 44)).alloc (.cells #[.bool false, .slice none 0 0] 44)) (.bool false) (.slice none 0 0)).old (.cells #[.bool false, .slice none 0 0] 44)).old (.cells #[.bool false, .slice none 0 0] 44)
    simpa using this
  · have := (Box2.new ((((w.alloc (.cells #[x, y] 44)).alloc (.cells #[x', y'] 44)).alloc (.cells #[.bool false, .slice none 0 0] 44)).alloc (.cells #[.bool false, .slice none 0 0] 44)) (.bool false) (.slice none 0 0)).old (.cells #[.bool false, .slice none 0 0] 44)
    simpa using this
  · have := Box2.new (((((w.alloc (.cells #[x, y] 44)).alloc (.cells #[x', y'] 44)).alloc (.cells #[.bool false, .slice none 0 0] 44)).alloc (.cells #[.bool false, .slice none 0 0] 44)).alloc (.cells #[.bool false, .slice none 0 0] 44)) (.bool false) (.slice none 0 0)
    simpa using this

end Go.Proofs.YtgegjhkiiejhlaaDoor

/- The reference's plain, and Quotient of any two. -/
namespace Go.Proofs.YtgegjhkiiejhlaaDoor
open Go.RowKit

/-- What is not empty lies in another block than g. -/
def AwayV (g : Nat) (ao : Option Addr) (l : Nat) : Prop := l = 0 ∨ ∃ b off, ao = some ⟨b, off, none⟩ ∧ b ≠ g
theorem IsNum.open6 {B : Nat} {w : World} {n : Bool} {ao : Option Addr} {l c : Nat} {z : Int} (h : IsNum B w (.agg #[.bool n, .slice ao l c]) z) :
    ∃ L, l = L.length ∧ LimbsAt w ao c L ∧ NewAt B ao L ∧ Canon L ∧ n = decide (z < 0) ∧ val L = z.natAbs ∧ L.length ≤ 35184372088832 := by
  obtain ⟨n', a', c', L, e1, h1, h2, h3⟩ := h
  simp only [Value.agg.injEq, Array.mk.injEq, List.cons.injEq, Value.bool.injEq, Value.slice.injEq, and_true] at e1
  obtain ⟨rfl, rfl, e2, rfl⟩ := e1
  exact ⟨L, e2, h1, h2, h3⟩
/-- Limbs lie in no box. -/
theorem IsNum.away_box {B g : Nat} {w : World} {n : Bool} {ao : Option Addr} {l c : Nat} {z : Int} (h : IsNum B w (.agg #[.bool n, .slice ao l c]) z) {x : Bool} {a' : Option Addr} {l' c' : Nat} (hb : Box2 w g (.bool x) (.slice a' l' c')) : AwayV g ao l := by
  obtain ⟨L, rfl, h1, h2, h3⟩ := h.open6
  rcases h1.2.2 with h0 | ⟨b, off, e1, e2, e3⟩
  · exact .inl (by rw [h0]; rfl)
  · rcases Nat.eq_zero_or_pos L.length with h0 | h0
    · exact .inl h0
    · refine .inr ⟨b, off, e1, fun e => ?_⟩
      subst e
      have h4 := e3 0 h0
      rw [Nat.add_zero, cell_of_row w b off _ _ _ hb] at h4
      rcases off with _ | _ | off <;> simp at h4
theorem IsNum.set_away {w : World} {n : Bool} {ao : Option Addr} {l c g i : Nat} {z : Int} (h : IsNum 0 w (.agg #[.bool n, .slice ao l c]) z) (ha : AwayV g ao l) (u : Value) : IsNum 0 (w.setCell ⟨g, i, none⟩ u) (.agg #[.bool n, .slice ao l c]) z := by
  obtain ⟨L, rfl, h1, h2, h3⟩ := h.open6
  refine ⟨n, ao, c, L, rfl, ⟨h1.1, h1.2.1, ?_⟩, ?_, h3⟩
  · rcases h1.2.2 with h0 | ⟨b, off, e1, e2, e3⟩
    · exact .inl h0
    · rcases ha with h0 | ⟨b', off', e1', hne⟩
      · exact .inl (List.length_eq_zero_iff.1 h0)
      · rw [e1] at e1'
        simp only [Option.some.injEq, Addr.mk.injEq] at e1'
        obtain ⟨rfl, rfl, _⟩ := e1'
        refine .inr ⟨b, off, e1, by simpa [World.setCell] using e2, fun i hi => ?_⟩
        rw [cell_setCell_other w _ _ u (by simpa using hne)]
        exact e3 i hi
  · rcases h2 with h0 | h0
    · exact .inl h0
    · exact .inr h0

theorem IsNum.set_box {w : World} {n : Bool} {ao : Option Addr} {l c g : Nat} {z : Int} (h : IsNum 0 w (.agg #[.bool n, .slice ao l c]) z) {x : Bool} {a' : Option Addr} {l' c' : Nat} (hb : Box2 w g (.bool x) (.slice a' l' c')) (u u' : Value) : IsNum 0 ((w.setCell ⟨g, 0, none⟩ u).setCell ⟨g, 1, none⟩ u') (.agg #[.bool n, .slice ao l c]) z :=
  (h.set_away (h.away_box hb) _).set_away (h.away_box hb) _

theorem pow_up {x : Nat} (j k : Nat) (h : x < 2 ^ j) (hk : j ≤ k) : x < 2 ^ k := Nat.lt_of_lt_of_le h (Nat.pow_le_pow_right (by decide) hk)
theorem p250 {x : Int} (h : x.natAbs < 4 * 2 ^ 250) : x.natAbs < 2 ^ 8000 := by
  have h1 : (4 : Nat) * 2 ^ 250 = 2 ^ 252 := by decide
  rw [h1] at h
  exact pow_up 252 8000 h (by decide)
theorem bl_lt {A k : Nat} (h : A < 2 ^ k) : bl A ≤ k := by
  by_cases h0 : A = 0
  · subst h0; exact Nat.zero_le _
  · obtain ⟨b1, b2, b3⟩ := bl_spec A h0
    have := pow_lt_of (Nat.lt_of_le_of_lt b2 h)
    omega
theorem bl_end (A : Nat) : A / 2 ^ bl A = 0 := by
  by_cases h0 : A = 0
  · subst h0; simp
  · exact Nat.div_eq_of_lt (bl_spec A h0).2.2
theorem sh_dn (A j : Nat) : (if 0 ≤ -(j : Int) then A * 2 ^ (-(j : Int)).toNat else A / 2 ^ (- -(j : Int)).toNat) = A / 2 ^ j := by
  by_cases h : j = 0
  · subst h; simp
  · rw [if_neg (by omega), show (- -(j : Int)).toNat = j by omega]

end Go.Proofs.YtgegjhkiiejhlaaDoor

/- Boxes that a drawn region makes, and numbers that lie elsewhere; for the reference's Div. -/
namespace Go.Proofs.YtgegjhkiiejhlaaDoor
open Go.RowKit

/-- The quotient's and the rest's boxes behind that region. -/
def DSt (W0 wx : World) (gq gr : Nat) (x y : Value) (zq : Int) (x' y' : Value) : Prop :=
  gq ≠ gr ∧ W0.heap.size ≤ gq ∧ W0.heap.size ≤ gr ∧ Box2 wx gq x y ∧ Box2 wx gr x' y' ∧ IsNum 0 wx (.agg #[x, y]) zq ∧ Below W0.heap.size W0 wx
theorem DSt.made {W0 w : World} {gq gr : Nat} {n : Bool} {ao : Option Addr} {l c : Nat} {z : Int} (bq : Box2 w gq (.bool false) (.slice none 0 0)) (br : Box2 w gr (.bool false) (.slice none 0 0)) (hne : gq ≠ gr) (kq : W0.heap.size ≤ gq) (kr : W0.heap.size ≤ gr)
    (h : IsNum 0 w (.agg #[.bool n, .slice ao l c]) z) (hB : Below W0.heap.size W0 w) (u u' : Value) :
    DSt W0 ((((w.setCell ⟨gq, 0, none⟩ (.bool n)).setCell ⟨gq, 1, none⟩ (.slice ao l c)).setCell ⟨gr, 0, none⟩ u).setCell ⟨gr, 1, none⟩ u') gq gr (.bool n) (.slice ao l c) z u u' :=
  ⟨hne, kq, kr, (bq.put _ _).oth6 hne _ _, ((br.oth6 (fun e => hne e.symm) _ _).put _ _), (h.set_box bq _ _).set_box (br.oth6 (fun e => hne e.symm) _ _) _ _, below_put2 (below_put2 hB kq _ _) kr _ _⟩
theorem DSt.below {W0 w w' : World} {gq gr : Nat} {x y x' y' : Value} {z : Int} (h : DSt W0 w gq gr x y z x' y') (hb : Below w.heap.size w w') : DSt W0 w' gq gr x y z x' y' := by
  obtain ⟨h1, h2, h3, h4, h5, h6, h7⟩ := h
  exact ⟨h1, h2, h3, h4.all hb, h5.all hb, h6.below hb, h7.trans (hb.mono h7.size)⟩
/-- The quotient overwritten by another number. -/
theorem DSt.putq {W0 w : World} {gq gr : Nat} {m : Bool} {am : Option Addr} {lm cm : Nat} {x' y' : Value} {z : Int} (h : DSt W0 w gq gr (.bool m) (.slice am lm cm) z x' y') {n : Bool} {ao : Option Addr} {l c : Nat} {z' : Int} (hn : IsNum 0 w (.agg #[.bool n, .slice ao l c]) z') :
    DSt W0 ((w.setCell ⟨gq, 0, none⟩ (.bool n)).setCell ⟨gq, 1, none⟩ (.slice ao l c)) gq gr (.bool n) (.slice ao l c) z' x' y' := by
  obtain ⟨h1, h2, h3, h4, h5, h6, h7⟩ := h
  exact ⟨h1, h2, h3, h4.put _ _, h5.oth6 (fun e => h1 e.symm) _ _, hn.set_box h4 _ _, below_put2 h7 h2 _ _⟩

theorem IsDy.num6 {w : World} {n : Bool} {a : Option Addr} {l c : Nat} {X z Y : Int} (h : IsDy w (.agg #[.bool n, .slice a l c, .int .i64 X]) z Y) : IsNum 0 w (.agg #[.bool n, .slice a l c]) z := by
  obtain ⟨n', a', c', L, e1, h1⟩ := h
  simp only [Value.agg.injEq, Array.mk.injEq, List.cons.injEq, Value.bool.injEq, Value.slice.injEq, and_true] at e1
  obtain ⟨rfl, ⟨rfl, e2, rfl⟩, _⟩ := e1
  rw [e2]; exact h1
theorem num_len {B : Nat} {w : World} {n : Bool} {ao : Option Addr} {l c : Nat} {z : Int} (h : IsNum B w (.agg #[.bool n, .slice ao l c]) z) : l = 0 ↔ z = 0 := by
  obtain ⟨L, rfl, h1, h2, h3, h4, h5, h6⟩ := h.open6
  constructor
  · intro e
    have : L = [] := List.length_eq_zero_iff.1 e
    rw [this] at h5
    simp [val] at h5
    omega
  · intro e
    have : L = [] := (val_zero_of_canon L h3).1 (by rw [h5, e]; rfl)
    rw [this]; rfl

end Go.Proofs.YtgegjhkiiejhlaaDoor

