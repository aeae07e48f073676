/- Part 26 of the texts. -/
import Derived.Test.YtibolacikaanpaaDoorPart25
import Derived.Test.YtibolacikaanpaaDoorPart22
import Derived.Test.YtibolacikaanpaaDoorChecked
import Derived.Test.YtibolacikaanpaaDoorPart02
import Derived.ProofKit
import Derived.SizedLaws
import Derived.Lib.SmallJoins
import Derived.Test.YtibolacikaanpaaDoorRows
import Derived.Test.YtibolacikaanpaaDoorPart12
import Derived.Lib.LaidTab
import Derived.OpenShut
import Derived.Deep.DeepHandedRow
/- The reference's Div of layer 6, of any two. -/
namespace Go.Proofs.YtibolacikaanpaaDoor
open Go.RowKit

set_option maxRecDepth 20000 in
set_option maxHeartbeats 4000000 in
theorem r6div_n1 (a b : Nat) (kb : Int) (s t : Bool) (w : World) 
    (C1 : ∀ w', Calls Tryd.prog 22 #[.int .u64 a] w' fun r w'' => r = .returned (.int .i64 4) ∧ w' = w'')
    (C2 : ∀ w', Calls Tryd.prog 22 #[.int .u64 b] w' fun r w'' => r = .returned (.int .i64 kb) ∧ w' = w'')
    (C3 : ∀ w', Calls Tryd.prog 26 #[.int .u64 a] w' fun r w'' => r = .returned (.bool s) ∧ w' = w'')
    (C4 : ∀ w', Calls Tryd.prog 26 #[.int .u64 b] w' fun r w'' => r = .returned (.bool t) ∧ w' = w'') :
    Calls Tryd.prog 14 #[.int .u64 a, .int .u64 b] w fun r w' => r = .returned (.tuple #[.int .u64 9221120237041090560, .int .u8 0]) ∧ Below w.heap.size w w' := by
  have K1 := hide C1
  have K2 := hide C2
  have K3 := hide C3
  have K4 := hide C4
  clear C1 C2 C3 C4
  go_enter Tryd.func14, Tryd.ntmps14
  go_wp2_with fail
  refine (unhide K1 _).mono ?_
  rintro e wk ⟨rfl, rfl⟩
  go_wp2_with fail
  refine (unhide K2 _).mono ?_
  rintro e wk ⟨rfl, rfl⟩
  go_wp2_with fail
  refine (unhide K3 _).mono ?_
  rintro e wk ⟨rfl, rfl⟩
  go_wp2_with fail
  refine (unhide K4 _).mono ?_
  rintro e wk ⟨rfl, rfl⟩
  go_wp2
  exact bodyPost_ret (v := .tuple #[.int .u64 9221120237041090560, .int .u8 0]) (by simp [results, Tryd.results14, go_sem]) rfl ⟨rfl, Below.refl _ _⟩


set_option maxRecDepth 20000 in
set_option maxHeartbeats 4000000 in
theorem r6div_n2 (a b : Nat) (ka : Int) (s t : Bool) (w : World) (h0 : (ka == 4) = false)
    (C1 : ∀ w', Calls Tryd.prog 22 #[.int .u64 a] w' fun r w'' => r = .returned (.int .i64 ka) ∧ w' = w'')
    (C2 : ∀ w', Calls Tryd.prog 22 #[.int .u64 b] w' fun r w'' => r = .returned (.int .i64 4) ∧ w' = w'')
    (C3 : ∀ w', Calls Tryd.prog 26 #[.int .u64 a] w' fun r w'' => r = .returned (.bool s) ∧ w' = w'')
    (C4 : ∀ w', Calls Tryd.prog 26 #[.int .u64 b] w' fun r w'' => r = .returned (.bool t) ∧ w' = w'') :
    Calls Tryd.prog 14 #[.int .u64 a, .int .u64 b] w fun r w' => r = .returned (.tuple #[.int .u64 9221120237041090560, .int .u8 0]) ∧ Below w.heap.size w w' := by
  have K1 := hide C1
  have K2 := hide C2
  have K3 := hide C3
  have K4 := hide C4
  clear C1 C2 C3 C4
  go_enter Tryd.func14, Tryd.ntmps14
  go_wp2_with fail
  refine (unhide K1 _).mono ?_
  rintro e wk ⟨rfl, rfl⟩
  go_wp2_with fail
  refine (unhide K2 _).mono ?_
  rintro e wk ⟨rfl, rfl⟩
  go_wp2_with fail
  refine (unhide K3 _).mono ?_
  rintro e wk ⟨rfl, rfl⟩
  go_wp2_with fail
  refine (unhide K4 _).mono ?_
  rintro e wk ⟨rfl, rfl⟩
  go_wp2
  exact bodyPost_ret (v := .tuple #[.int .u64 9221120237041090560, .int .u8 0]) (by simp [results, Tryd.results14, go_sem]) rfl ⟨rfl, Below.refl _ _⟩


set_option maxRecDepth 20000 in
set_option maxHeartbeats 4000000 in
theorem r6div_ii (a b : Nat) (s t : Bool) (w : World) 
    (C1 : ∀ w', Calls Tryd.prog 22 #[.int .u64 a] w' fun r w'' => r = .returned (.int .i64 3) ∧ w' = w'')
    (C2 : ∀ w', Calls Tryd.prog 22 #[.int .u64 b] w' fun r w'' => r = .returned (.int .i64 3) ∧ w' = w'')
    (C3 : ∀ w', Calls Tryd.prog 26 #[.int .u64 a] w' fun r w'' => r = .returned (.bool s) ∧ w' = w'')
    (C4 : ∀ w', Calls Tryd.prog 26 #[.int .u64 b] w' fun r w'' => r = .returned (.bool t) ∧ w' = w'') :
    Calls Tryd.prog 14 #[.int .u64 a, .int .u64 b] w fun r w' => r = .returned (.tuple #[.int .u64 9221120237041090560, .int .u8 16]) ∧ Below w.heap.size w w' := by
  have K1 := hide C1
  have K2 := hide C2
  have K3 := hide C3
  have K4 := hide C4
  clear C1 C2 C3 C4
  go_enter Tryd.func14, Tryd.ntmps14
  go_wp2_with fail
  refine (unhide K1 _).mono ?_
  rintro e wk ⟨rfl, rfl⟩
  go_wp2_with fail
  refine (unhide K2 _).mono ?_
  rintro e wk ⟨rfl, rfl⟩
  go_wp2_with fail
  refine (unhide K3 _).mono ?_
  rintro e wk ⟨rfl, rfl⟩
  go_wp2_with fail
  refine (unhide K4 _).mono ?_
  rintro e wk ⟨rfl, rfl⟩
  go_wp2
  exact bodyPost_ret (v := .tuple #[.int .u64 9221120237041090560, .int .u8 16]) (by simp [results, Tryd.results14, go_sem]) rfl ⟨rfl, Below.refl _ _⟩


set_option maxRecDepth 20000 in
set_option maxHeartbeats 4000000 in
theorem r6div_zz (a b : Nat) (s t : Bool) (w : World) 
    (C1 : ∀ w', Calls Tryd.prog 22 #[.int .u64 a] w' fun r w'' => r = .returned (.int .i64 0) ∧ w' = w'')
    (C2 : ∀ w', Calls Tryd.prog 22 #[.int .u64 b] w' fun r w'' => r = .returned (.int .i64 0) ∧ w' = w'')
    (C3 : ∀ w', Calls Tryd.prog 26 #[.int .u64 a] w' fun r w'' => r = .returned (.bool s) ∧ w' = w'')
    (C4 : ∀ w', Calls Tryd.prog 26 #[.int .u64 b] w' fun r w'' => r = .returned (.bool t) ∧ w' = w'') :
    Calls Tryd.prog 14 #[.int .u64 a, .int .u64 b] w fun r w' => r = .returned (.tuple #[.int .u64 9221120237041090560, .int .u8 16]) ∧ Below w.heap.size w w' := by
  have K1 := hide C1
  have K2 := hide C2
  have K3 := hide C3
  have K4 := hide C4
  clear C1 C2 C3 C4
  go_enter Tryd.func14, Tryd.ntmps14
  go_wp2_with fail
  refine (unhide K1 _).mono ?_
  rintro e wk ⟨rfl, rfl⟩
  go_wp2_with fail
  refine (unhide K2 _).mono ?_
  rintro e wk ⟨rfl, rfl⟩
  go_wp2_with fail
  refine (unhide K3 _).mono ?_
  rintro e wk ⟨rfl, rfl⟩
  go_wp2_with fail
  refine (unhide K4 _).mono ?_
  rintro e wk ⟨rfl, rfl⟩
  go_wp2
  exact bodyPost_ret (v := .tuple #[.int .u64 9221120237041090560, .int .u8 16]) (by simp [results, Tryd.results14, go_sem]) rfl ⟨rfl, Below.refl _ _⟩


set_option maxRecDepth 20000 in
set_option maxHeartbeats 4000000 in
theorem r6div_i (a b : Nat) (kb : Int) (s t : Bool) (g : Bool → Nat) (w : World) (h0 : (kb == 4) = false) (h1 : (3 == kb) = false)
    (C1 : ∀ w', Calls Tryd.prog 22 #[.int .u64 a] w' fun r w'' => r = .returned (.int .i64 3) ∧ w' = w'')
    (C2 : ∀ w', Calls Tryd.prog 22 #[.int .u64 b] w' fun r w'' => r = .returned (.int .i64 kb) ∧ w' = w'')
    (C3 : ∀ w', Calls Tryd.prog 26 #[.int .u64 a] w' fun r w'' => r = .returned (.bool s) ∧ w' = w'')
    (C4 : ∀ w', Calls Tryd.prog 26 #[.int .u64 b] w' fun r w'' => r = .returned (.bool t) ∧ w' = w'')
    (C5 : ∀ w' n, Calls Tryd.prog 27 #[.int .u64 9218868437227405312, .bool n] w' fun r w'' => r = .returned (.int .u64 (g n : Nat)) ∧ w' = w'') :
    Calls Tryd.prog 14 #[.int .u64 a, .int .u64 b] w fun r w' => r = .returned (.tuple #[.int .u64 (g (s ^^ t) : Nat), .int .u8 0]) ∧ Below w.heap.size w w' := by
  have K1 := hide C1
  have K2 := hide C2
  have K3 := hide C3
  have K4 := hide C4
  have K5 := hide C5
  clear C1 C2 C3 C4 C5
  go_enter Tryd.func14, Tryd.ntmps14
  go_wp2_with fail
  refine (unhide K1 _).mono ?_
  rintro e wk ⟨rfl, rfl⟩
  go_wp2_with fail
  refine (unhide K2 _).mono ?_
  rintro e wk ⟨rfl, rfl⟩
  go_wp2_with fail
  refine (unhide K3 _).mono ?_
  rintro e wk ⟨rfl, rfl⟩
  go_wp2_with fail
  refine (unhide K4 _).mono ?_
  rintro e wk ⟨rfl, rfl⟩
  cases s <;> cases t
  all_goals
    go_wp2_with fail
    refine (unhide K5 _ _).mono ?_
    rintro e wk ⟨rfl, rfl⟩
    go_wp2
    exact bodyPost_ret (by simp [results, Tryd.results14, go_sem]) rfl ⟨rfl, Below.refl _ _⟩


set_option maxRecDepth 20000 in
set_option maxHeartbeats 4000000 in
theorem r6div_z (a b : Nat) (kb : Int) (s t : Bool) (g : Bool → Nat) (w : World) (h0 : (kb == 4) = false) (h1 : (0 == kb) = false) (h2 : (kb == 3) = false)
    (C1 : ∀ w', Calls Tryd.prog 22 #[.int .u64 a] w' fun r w'' => r = .returned (.int .i64 0) ∧ w' = w'')
    (C2 : ∀ w', Calls Tryd.prog 22 #[.int .u64 b] w' fun r w'' => r = .returned (.int .i64 kb) ∧ w' = w'')
    (C3 : ∀ w', Calls Tryd.prog 26 #[.int .u64 a] w' fun r w'' => r = .returned (.bool s) ∧ w' = w'')
    (C4 : ∀ w', Calls Tryd.prog 26 #[.int .u64 b] w' fun r w'' => r = .returned (.bool t) ∧ w' = w'')
    (C5 : ∀ w' n, Calls Tryd.prog 27 #[.int .u64 0, .bool n] w' fun r w'' => r = .returned (.int .u64 (g n : Nat)) ∧ w' = w'') :
    Calls Tryd.prog 14 #[.int .u64 a, .int .u64 b] w fun r w' => r = .returned (.tuple #[.int .u64 (g (s ^^ t) : Nat), .int .u8 0]) ∧ Below w.heap.size w w' := by
  have K1 := hide C1
  have K2 := hide C2
  have K3 := hide C3
  have K4 := hide C4
  have K5 := hide C5
  clear C1 C2 C3 C4 C5
  go_enter Tryd.func14, Tryd.ntmps14
  go_wp2_with fail
  refine (unhide K1 _).mono ?_
  rintro e wk ⟨rfl, rfl⟩
  go_wp2_with fail
  refine (unhide K2 _).mono ?_
  rintro e wk ⟨rfl, rfl⟩
  go_wp2_with fail
  refine (unhide K3 _).mono ?_
  rintro e wk ⟨rfl, rfl⟩
  go_wp2_with fail
  refine (unhide K4 _).mono ?_
  rintro e wk ⟨rfl, rfl⟩
  cases s <;> cases t
  all_goals
    go_wp2_with fail
    refine (unhide K5 _ _).mono ?_
    rintro e wk ⟨rfl, rfl⟩
    go_wp2
    exact bodyPost_ret (by simp [results, Tryd.results14, go_sem]) rfl ⟨rfl, Below.refl _ _⟩


set_option maxRecDepth 20000 in
set_option maxHeartbeats 4000000 in
theorem r6div_zi (a b : Nat) (s t : Bool) (g : Bool → Nat) (w : World) 
    (C1 : ∀ w', Calls Tryd.prog 22 #[.int .u64 a] w' fun r w'' => r = .returned (.int .i64 0) ∧ w' = w'')
    (C2 : ∀ w', Calls Tryd.prog 22 #[.int .u64 b] w' fun r w'' => r = .returned (.int .i64 3) ∧ w' = w'')
    (C3 : ∀ w', Calls Tryd.prog 26 #[.int .u64 a] w' fun r w'' => r = .returned (.bool s) ∧ w' = w'')
    (C4 : ∀ w', Calls Tryd.prog 26 #[.int .u64 b] w' fun r w'' => r = .returned (.bool t) ∧ w' = w'')
    (C5 : ∀ w' n, Calls Tryd.prog 27 #[.int .u64 0, .bool n] w' fun r w'' => r = .returned (.int .u64 (g n : Nat)) ∧ w' = w'') :
    Calls Tryd.prog 14 #[.int .u64 a, .int .u64 b] w fun r w' => r = .returned (.tuple #[.int .u64 (g (s ^^ t) : Nat), .int .u8 0]) ∧ Below w.heap.size w w' := by
  have K1 := hide C1
  have K2 := hide C2
  have K3 := hide C3
  have K4 := hide C4
  have K5 := hide C5
  clear C1 C2 C3 C4 C5
  go_enter Tryd.func14, Tryd.ntmps14
  go_wp2_with fail
  refine (unhide K1 _).mono ?_
  rintro e wk ⟨rfl, rfl⟩
  go_wp2_with fail
  refine (unhide K2 _).mono ?_
  rintro e wk ⟨rfl, rfl⟩
  go_wp2_with fail
  refine (unhide K3 _).mono ?_
  rintro e wk ⟨rfl, rfl⟩
  go_wp2_with fail
  refine (unhide K4 _).mono ?_
  rintro e wk ⟨rfl, rfl⟩
  cases s <;> cases t
  all_goals
    go_wp2_with fail
    refine (unhide K5 _ _).mono ?_
    rintro e wk ⟨rfl, rfl⟩
    go_wp2
    exact bodyPost_ret (by simp [results, Tryd.results14, go_sem]) rfl ⟨rfl, Below.refl _ _⟩


set_option maxRecDepth 20000 in
set_option maxHeartbeats 4000000 in
theorem r6div_j (a b : Nat) (ka : Int) (s t : Bool) (g : Bool → Nat) (w : World) (h0 : (ka == 4) = false) (h1 : (ka == 3) = false)
    (C1 : ∀ w', Calls Tryd.prog 22 #[.int .u64 a] w' fun r w'' => r = .returned (.int .i64 ka) ∧ w' = w'')
    (C2 : ∀ w', Calls Tryd.prog 22 #[.int .u64 b] w' fun r w'' => r = .returned (.int .i64 3) ∧ w' = w'')
    (C3 : ∀ w', Calls Tryd.prog 26 #[.int .u64 a] w' fun r w'' => r = .returned (.bool s) ∧ w' = w'')
    (C4 : ∀ w', Calls Tryd.prog 26 #[.int .u64 b] w' fun r w'' => r = .returned (.bool t) ∧ w' = w'')
    (C5 : ∀ w' n, Calls Tryd.prog 27 #[.int .u64 0, .bool n] w' fun r w'' => r = .returned (.int .u64 (g n : Nat)) ∧ w' = w'') :
    Calls Tryd.prog 14 #[.int .u64 a, .int .u64 b] w fun r w' => r = .returned (.tuple #[.int .u64 (g (s ^^ t) : Nat), .int .u8 0]) ∧ Below w.heap.size w w' := by
  have K1 := hide C1
  have K2 := hide C2
  have K3 := hide C3
  have K4 := hide C4
  have K5 := hide C5
  clear C1 C2 C3 C4 C5
  go_enter Tryd.func14, Tryd.ntmps14
  go_wp2_with fail
  refine (unhide K1 _).mono ?_
  rintro e wk ⟨rfl, rfl⟩
  go_wp2_with fail
  refine (unhide K2 _).mono ?_
  rintro e wk ⟨rfl, rfl⟩
  go_wp2_with fail
  refine (unhide K3 _).mono ?_
  rintro e wk ⟨rfl, rfl⟩
  go_wp2_with fail
  refine (unhide K4 _).mono ?_
  rintro e wk ⟨rfl, rfl⟩
  cases s <;> cases t
  all_goals
    go_wp2_with fail
    refine (unhide K5 _ _).mono ?_
    rintro e wk ⟨rfl, rfl⟩
    go_wp2
    exact bodyPost_ret (by simp [results, Tryd.results14, go_sem]) rfl ⟨rfl, Below.refl _ _⟩


set_option maxRecDepth 20000 in
set_option maxHeartbeats 4000000 in
theorem r6div_y (a b : Nat) (ka : Int) (s t : Bool) (g : Bool → Nat) (w : World) (h0 : (ka == 4) = false) (h1 : (ka == 3) = false) (h2 : (ka == 0) = false)
    (C1 : ∀ w', Calls Tryd.prog 22 #[.int .u64 a] w' fun r w'' => r = .returned (.int .i64 ka) ∧ w' = w'')
    (C2 : ∀ w', Calls Tryd.prog 22 #[.int .u64 b] w' fun r w'' => r = .returned (.int .i64 0) ∧ w' = w'')
    (C3 : ∀ w', Calls Tryd.prog 26 #[.int .u64 a] w' fun r w'' => r = .returned (.bool s) ∧ w' = w'')
    (C4 : ∀ w', Calls Tryd.prog 26 #[.int .u64 b] w' fun r w'' => r = .returned (.bool t) ∧ w' = w'')
    (C5 : ∀ w' n, Calls Tryd.prog 27 #[.int .u64 9218868437227405312, .bool n] w' fun r w'' => r = .returned (.int .u64 (g n : Nat)) ∧ w' = w'') :
    Calls Tryd.prog 14 #[.int .u64 a, .int .u64 b] w fun r w' => r = .returned (.tuple #[.int .u64 (g (s ^^ t) : Nat), .int .u8 8]) ∧ Below w.heap.size w w' := by
  have K1 := hide C1
  have K2 := hide C2
  have K3 := hide C3
  have K4 := hide C4
  have K5 := hide C5
  clear C1 C2 C3 C4 C5
  go_enter Tryd.func14, Tryd.ntmps14
  go_wp2_with fail
  refine (unhide K1 _).mono ?_
  rintro e wk ⟨rfl, rfl⟩
  go_wp2_with fail
  refine (unhide K2 _).mono ?_
  rintro e wk ⟨rfl, rfl⟩
  go_wp2_with fail
  refine (unhide K3 _).mono ?_
  rintro e wk ⟨rfl, rfl⟩
  go_wp2_with fail
  refine (unhide K4 _).mono ?_
  rintro e wk ⟨rfl, rfl⟩
  cases s <;> cases t
  all_goals
    go_wp2_with fail
    refine (unhide K5 _ _).mono ?_
    rintro e wk ⟨rfl, rfl⟩
    go_wp2
    exact bodyPost_ret (by simp [results, Tryd.results14, go_sem]) rfl ⟨rfl, Below.refl _ _⟩


theorem stk_facts (A ob P R : Nat) (hP : A < P) (hR : 2 * P + 1 < R) (hb : 9007199254740992 ≤ A / ob) : A < R ∧ stk A ob ≠ 0 ∧ stk A ob < R := by
  have h2 : A / ob ≤ A := Nat.div_le_self _ _
  have ht : (if A % ob = 0 then 0 else 1) ≤ 1 := by split <;> omega
  unfold stk
  refine ⟨?_, ?_, ?_⟩
  · omega
  · omega
  · omega
theorem qS_facts (oa ob : Nat) (ho : 0 < oa) (hoa : oa < 9007199254740992) (hob0 : 0 < ob) (hob : ob < 9007199254740992) :
    oa * 2 ^ 180 < 2 ^ 250 ∧ stk (oa * 2 ^ 180) ob ≠ 0 ∧ stk (oa * 2 ^ 180) ob < 2 ^ 250 := by
  have e1 : 9007199254740992 * 2 ^ 180 < 2 ^ 240 := by decide
  have h1 : oa * 2 ^ 180 < 2 ^ 240 := Nat.lt_of_le_of_lt (Nat.mul_le_mul_right _ (Nat.le_of_lt hoa)) e1
  exact stk_facts _ ob (2 ^ 240) (2 ^ 250) h1 (by decide) (quo_big oa ob ho hob hob0)

/-- Two finite numbers' quotient, neither being 0. -/
theorem r6div_fin (a b : Nat) (w : World) (ha : a < 18446744073709551616) (hb : b < 18446744073709551616) (fa : fFin a = true) (fb : fFin b = true) (a0 : fK a ≠ 0) (b0 : fK b ≠ 0)
    (m1 m2 A : Nat) (h1 : (fD a).natAbs = m1) (h2 : (fD b).natAbs = m2) (hA : m1 * 2 ^ 180 = A) (SS r : Nat) (fl E : Int) (hE : E = fX a - fX b - 181) (hA250 : A < 2 ^ 250) (s0 : SS ≠ 0) (s250 : SS < 2 ^ 250)
    (l1 : m1 < 9007199254740992) (l2 : m2 < 9007199254740992) (p2 : 0 < m2) (hS0 : A % m2 = 0 → SS = 2 * (A / m2)) (hS1 : A % m2 ≠ 0 → SS = 2 * (A / m2) + 1) (q1 : rnd SS E = r) (q2 : rflag (oM (SS : Nat)).natAbs (oE (SS : Nat) E) = fl) :
    Calls Tryd.prog 14 #[.int .u64 a, .int .u64 b] w fun e w' => e = .returned (.tuple #[.int .u64 (wrd (fS a ^^ fS b) r : Nat), .int .u8 fl]) ∧ Below w.heap.size w w' := by
  obtain ⟨a3, a4, _⟩ := kind_pos a fa a0
  obtain ⟨b3, b4, _⟩ := kind_pos b fb b0
  have x1 := fX_in a ha fa a0
  have x2 := fX_in b hb fb b0
  have t1 : m1 < 2 ^ 53 := by rw [p53]; exact l1
  have t2 : m2 < 2 ^ 53 := by rw [p53]; exact l2
  have u1 : m1 < 2 ^ 8000 := pow_up 53 8000 t1 (by decide)
  have u2 : m2 < 2 ^ 250 := pow_up 53 250 t2 (by decide)
  have u3 : (fD a).natAbs < 2 ^ 8000 := by rw [h1]; exact u1
  have u4 : (fD b).natAbs < 2 ^ 8000 := by rw [h2]; exact pow_up 53 8000 t2 (by decide)
  have dq : A / m2 ≤ A := Nat.div_le_self _ _
  have u5 : A / m2 < 2 ^ 250 := Nat.lt_of_le_of_lt dq hA250
  have u6 : 2 * (A / m2) < 2 ^ 251 := by rw [Nat.pow_succ]; omega
  have u7 : A / m2 < 2 ^ 8000 := pow_up 250 8000 u5 (by decide)
  have u8 : 2 * (A / m2) < 2 ^ 8000 := pow_up 251 8000 u6 (by decide)
  have u9 : SS < 2 ^ 8000 := pow_up 250 8000 s250 (by decide)
  refine r6div_f a b (fK a) (fK b) (fD a) (fD b) (fX a) (fX b) E (oM (sg (fS a ^^ fS b) SS)) (oE (sg (fS a ^^ fS b) SS) E) fl (fS a) (fS b) (fS a ^^ fS b) m1 m2 A (A / m2) (A % m2) SS (wrd (fS a ^^ fS b) r) (sg (fS a ^^ fS b) SS) w
    (by simp [a4]) (by simp [a3]) (by simp [a0]) (by simp [b4]) (by simp [b3]) (by simp [b0]) rfl (by omega) hE hS0 hS1
    (fun w' => rkind_any a w' ha) (fun w' => rkind_any b w' hb) (fun w' => rneg4_any a w' ha) (fun w' => rneg4_any b w' hb) (fun w' => rvalue_any a w' ha) (fun w' => rvalue_any b w' hb)
    (fun w' v h => ?_) (fun w' v h => rshift180 hA h u1) (fun w' v h => ?_) (fun w' v u h h' => ?_) (fun w' v h => rdouble_nat h u7) (fun w' => ?_) (fun w' v u h h' => radd_nat h h' u8)
    (fun w' m a' l c h => rmade_nat h) (fun w' v h => rofr_nat h u9 (by omega)) (fun w' v h => rrnd_nat s0 s250 (by omega) q1 q2 h)
  · have := rplain6 h u3
    rwa [h1] at this
  · have := rplain6 h u4
    rwa [h2] at this
  · exact (rquot6 h h' hA250 p2 u2).mono fun e w'' ⟨p, q, g1, g2, g3, g4⟩ => ⟨p, q, g1, g2.mono (Nat.zero_le _), g3, g4⟩
  · exact (rof6 w').mono fun e w'' ⟨r, g1, g2, g3⟩ => ⟨r, g1, g2.mono (Nat.zero_le _), g3⟩

theorem stk_if {N d : Nat} : (N % d = 0 → stk N d = 2 * (N / d)) ∧ (N % d ≠ 0 → stk N d = 2 * (N / d) + 1) := by
  unfold stk
  exact ⟨fun h => by rw [if_pos h, Nat.add_zero], fun h => by rw [if_neg h]⟩
theorem qS_def (a b : Nat) : stk ((fD a).natAbs * 2 ^ 180) (fD b).natAbs = qS a b := by unfold qS; rfl
theorem qV_def (a b : Nat) : rnd (qS a b) (fX a - fX b - 181) = qV a b := by unfold qV; rfl
theorem qF_def (a b : Nat) : rflag (oM (qS a b : Nat)).natAbs (oE (qS a b : Nat) (fX a - fX b - 181)) = qF a b := by unfold qF; rfl

/-- The reference's quotient of any two. -/
theorem r6div_any (a b : Nat) (w : World) (ha : a < 18446744073709551616) (hb : b < 18446744073709551616) :
    Calls Tryd.prog 14 #[.int .u64 a, .int .u64 b] w fun r w' => r = .returned (.tuple #[.int .u64 (dV a b : Nat), .int .u8 (dF a b)]) ∧ Below w.heap.size w w' := by
  have C1 := fun w' => rkind_any a w' ha
  have C2 := fun w' => rkind_any b w' hb
  have C3 := fun w' => rneg4_any a w' ha
  have C4 := fun w' => rneg4_any b w' hb
  have CI := fun w' n => r6signed_any 9218868437227405312 n w' (by decide)
  have CZ := fun w' n => r6signed_any 0 n w' (by decide)
  by_cases a4 : fK a = 4
  · rw [show dV a b = 9221120237041090560 by unfold dV; rw [if_pos (Or.inl a4)], show dF a b = 0 by unfold dF; rw [if_pos (Or.inl a4)]]
    rw [a4] at C1
    exact r6div_n1 a b _ _ _ w C1 C2 C3 C4
  by_cases b4 : fK b = 4
  · rw [show dV a b = 9221120237041090560 by unfold dV; rw [if_pos (Or.inr b4)], show dF a b = 0 by unfold dF; rw [if_pos (Or.inr b4)]]
    rw [b4] at C2
    exact r6div_n2 a b _ _ _ w (by simp [a4]) C1 C2 C3 C4
  have n4 : ¬ (fK a = 4 ∨ fK b = 4) := by omega
  by_cases hs : fK a = fK b ∧ (fK a = 3 ∨ fK a = 0)
  · rw [show dV a b = 9221120237041090560 by unfold dV; rw [if_neg n4, if_pos hs], show dF a b = 16 by unfold dF; rw [if_neg n4, if_pos hs]]
    rcases hs with ⟨h1, h3 | h0⟩
    · rw [h3] at C1
      rw [← h1, h3] at C2
      exact r6div_ii a b _ _ w C1 C2 C3 C4
    · rw [h0] at C1
      rw [← h1, h0] at C2
      exact r6div_zz a b _ _ w C1 C2 C3 C4
  by_cases a3 : fK a = 3
  · rw [show dV a b = wrd (fS a ^^ fS b) 9218868437227405312 by unfold dV; rw [if_neg n4, if_neg hs, if_pos a3], show dF a b = 0 by unfold dF; rw [if_neg n4, if_neg hs, if_pos a3]]
    rw [a3] at C1
    exact r6div_i a b _ _ _ (fun n => wrd n 9218868437227405312) w (by simp [b4]) (by simp; omega) C1 C2 C3 C4 CI
  by_cases h3 : fK b = 3 ∨ fK a = 0
  · rw [show dV a b = wrd (fS a ^^ fS b) 0 by unfold dV; rw [if_neg n4, if_neg hs, if_neg a3, if_pos h3], show dF a b = 0 by unfold dF; rw [if_neg n4, if_neg hs, if_neg a3, if_pos h3]]
    by_cases a0 : fK a = 0
    · rw [a0] at C1
      by_cases b3 : fK b = 3
      · rw [b3] at C2
        exact r6div_zi a b _ _ (fun n => wrd n 0) w C1 C2 C3 C4 CZ
      · exact r6div_z a b _ _ _ (fun n => wrd n 0) w (by simp [b4]) (by simp; omega) (by simp [b3]) C1 C2 C3 C4 CZ
    · have b3 : fK b = 3 := by omega
      rw [b3] at C2
      exact r6div_j a b _ _ _ (fun n => wrd n 0) w (by simp [a4]) (by simp [a3]) C1 C2 C3 C4 CZ
  by_cases b0 : fK b = 0
  · rw [show dV a b = wrd (fS a ^^ fS b) 9218868437227405312 by unfold dV; rw [if_neg n4, if_neg hs, if_neg a3, if_neg h3, if_pos b0], show dF a b = 8 by unfold dF; rw [if_neg n4, if_neg hs, if_neg a3, if_neg h3, if_pos b0]]
    rw [b0] at C2
    exact r6div_y a b _ _ _ (fun n => wrd n 9218868437227405312) w (by simp [a4]) (by simp [a3]) (by simp; omega) C1 C2 C3 C4 CI
  · have fa := fin_of a a3 a4
    have fb := fin_of b (fun e => h3 (Or.inl e)) b4
    have a0 : fK a ≠ 0 := fun e => h3 (Or.inr e)
    obtain ⟨α, x1, x2, x3, x4⟩ := odd_mag a ha fa a0
    obtain ⟨β, y1, y2, y3, y4⟩ := odd_mag b hb fb b0
    obtain ⟨f1, f2, f3⟩ := qS_facts (fD a).natAbs (fD b).natAbs (by omega) x4 (by omega) y4
    have st := @stk_if ((fD a).natAbs * 2 ^ 180) (fD b).natAbs
    have v1 := qV_def a b
    have v2 := qF_def a b
    rw [qS_def] at f2 f3 st
    have e1 := (dV_fin a b fa fb a0 b0).1
    have e2 := (dV_fin a b fa fb a0 b0).2
    rw [e1, e2]
    exact r6div_fin a b w ha hb fa fb a0 b0 _ _ _ rfl rfl rfl (qS a b) (qV a b) (qF a b) _ rfl f1 f2 f3 x4 y4 (by omega) st.1 st.2 v1 v2

end Go.Proofs.YtibolacikaanpaaDoor

/- The law TimesDivs, walked. -/
namespace Go.Proofs.YtibolacikaanpaaDoor
open Go.RowKit

set_option maxRecDepth 20000 in
set_option maxHeartbeats 2000000 in
theorem timesDivs_walk (a b : Nat) (w : World) (ha : a < 18446744073709551616) (hb : b < 18446744073709551616) (hT : Tab w) :
    Calls Tryd.prog 4 #[.int .u64 a, .int .u64 b] w fun r w' => r = .returned (.bool true) ∧ Below w.heap.size w w' := by
  have K1 := hide (tdiv_any a b w ha hb hT)
  have K2 := hide (fun w' => r6div_any a b w' ha hb)
  have K3 := hide (fun w' t => awake6_any w' t)
  clear ha hb
  generalize dV _ _ = o at *
  generalize dF _ _ = fl at *
  go_enter Tryd.func4, Tryd.ntmps4
  go_wp2_with fail
  refine Calls.mono (unhide K1) ?_
  rintro e w1 ⟨rfl, hb1⟩
  have HT := hide (hT.all hb1)
  go_wp2_with fail
  refine (unhide K2 _).mono ?_
  rintro e w2 ⟨rfl, hb2⟩
  have B := hide (hb1.trans (hb2.mono hb1.size))
  have HT2 := hide ((unhide HT).all hb2)
  clear hb1 hb2 K1 K2 HT
  go_wp2_with fail
  refine (unhide K3 _ (unhide HT2)).mono ?_
  rintro e w3 ⟨rfl, hb3⟩
  have B3 := hide ((unhide B).trans (hb3.mono (unhide B).size))
  clear hb3 K3 HT2 B
  go_wp2
  go_ret
  exact ⟨rfl, unhide B3⟩

end Go.Proofs.YtibolacikaanpaaDoor

/- A struct of a sign and limbs that came in, opened. -/
namespace Go.Proofs.YtibolacikaanpaaDoor
open Go.ChangeShapes Go.WideShapes Go.ChangeAt Go.RowKit Go.Joins

theorem Tryd.own : ownKnob Tryd.prog.godebug = none := by kernel_rfl
theorem Tryd.laidOut : laidOutB Tryd.prog = true := by kernel_rfl
theorem Tryd.cellsW : Tryd.prog.cellsOf 44 = 2 := by kernel_rfl
theorem Tryd.cellsU : Tryd.prog.cellsOf 82 = 1 := by kernel_rfl
theorem Tryd.bytesU : Tryd.prog.bytesOf 82 = 4 := by kernel_rfl

theorem bounds_of_u32 {x : Int} (h : (Lit.int .u32 x).wf = true) : 0 ≤ x ∧ x < 4294967296 := by
  simp [Lit.wf, IntKind.min, IntKind.max, IntKind.signed, IntKind.bits] at h
  omega

theorem limbs_of_ints {W : World} {a : Addr} {len cap : Nat} {zs : List Int} (hl : len ≤ cap) (hz : zs.length = cap) (hc : ∀ i, i < zs.length → W.cell? (a.add i) = some (.int .u32 (zs.getD i 0))) (hw : ∀ n ∈ zs, (Lit.int .u32 n).wf = true) :
    LimbsAt W (some a) cap ((zs.take len).map Int.toNat) ∧ ((zs.take len).map Int.toNat).length = len := by
  have hlen : ((zs.take len).map Int.toNat).length = len := by simp; omega
  refine ⟨⟨by omega, ?_, ?_⟩, hlen⟩
  · intro x hx
    obtain ⟨y, hy, rfl⟩ := List.mem_map.1 hx
    have := bounds_of_u32 (hw y (List.mem_of_mem_take hy))
    omega
  · rcases Nat.eq_zero_or_pos len with rfl | hp
    · left; simp
    · right
      obtain ⟨b, off, spot⟩ := a
      have h0 := hc 0 (by omega)
      have hspot : spot = none := by simpa [Addr.add] using World.cell?_spot h0
      subst hspot
      have hb : b < W.heap.size := by
        have := World.block_lt_of_cell? W _ h0
        simpa [Addr.add] using this
      refine ⟨b, off, rfl, hb, fun i hi => ?_⟩
      have h1 := hc i (by omega)
      have h2 : (0 : Int) ≤ zs[i]'(by omega) := (bounds_of_u32 (hw _ (List.getElem_mem _))).1
      have h3 : (⟨b, off, none⟩ : Addr).add i = ⟨b, off + i, none⟩ := by simp [Addr.add]
      rw [h3] at h1
      rw [h1]
      have e : ((zs.take len).map Int.toNat)[i]?.getD 0 = (zs[i]'(by omega)).toNat := by
        rw [List.getElem?_map, List.getElem?_take, if_pos (by omega), List.getElem?_eq_getElem (by omega)]; rfl
      rw [e, List.getD_eq_getElem?_getD, List.getElem?_eq_getElem (by omega)]
      simp only [Option.getD_some, Option.some.injEq, Value.int.injEq, true_and]
      omega

set_option maxRecDepth 20000 in
/-- A number that came in: its sign, its limbs, where they lie; by the row's own reach they are not too many. -/
theorem open_whole {H : Type} {enc : TypeId × Value → H} {W : World} {base : Nat} {v : Value} {d : DataW H} {p : List MemPlace} (hval : Value.okWide Tryd.prog W .any base 44 v) (h : DataW.Trod enc Tryd.prog W 0 (fun _ => true) true 44 v d p)
    (hs : ∀ n ∈ d.weights Tryd.prog 44, n ≤ reachBytes) :
    ∃ neg ao cap L, v = .agg #[.bool neg, .slice ao L.length cap] ∧ LimbsAt W ao cap L ∧ L.length ≤ 35184372087808 := by
  obtain ⟨c0, c1, y0, y1, m, rfl, rfl, rfl, hy0, hy1⟩ := open_agg2 Tryd.underlying44 (by kernel_rfl) Tryd.cellsW hval h
  obtain ⟨neg, e0, rfl⟩ := DataW.trod_bool Tryd.underlying4 hy0
  simp at e0
  subst e0
  rcases open_ints Tryd.underlying42 Tryd.underlying82 Tryd.cellsU hy1 with ⟨hcs, _⟩ | ⟨a, len, cap, zs, hcs, _, hl, hm, hz, rfl, hcell, hwz⟩
  · simp at hcs
    subst hcs
    exact ⟨neg, none, 0, [], rfl, LimbsAt.nil _ _ _, by simp⟩
  · simp at hcs
    subst hcs
    obtain ⟨h1, h2⟩ := limbs_of_ints hl (by simpa using hz) hcell hwz
    refine ⟨neg, some a, cap, _, by rw [h2], h1, ?_⟩
    have hk := hs ((zs.length) * 4) (by
      simp only [DataW.weights, Tryd.underlying44, DataW.weightsEach, List.map, Tryd.underlying42, List.nil_append, List.append_nil, List.mem_cons, Tryd.bytesU, lits, List.length_map, List.length_take, List.length_drop]
      left
      omega)
    simp only [reachBytes] at hk
    rw [h2]
    have : zs.length = cap := by simpa using hz
    omega

end Go.Proofs.YtibolacikaanpaaDoor

/- The bounds of an int or int64 that came in. -/
namespace Go.Proofs.YtibolacikaanpaaDoor

theorem bounds_of_i64 {x : Int} (h : (Lit.int .i64 x).wf = true) : -9223372036854775808 ≤ x ∧ x ≤ 9223372036854775807 := by
  simp [Lit.wf, IntKind.min, IntKind.max, IntKind.signed, IntKind.bits] at h
  omega

end Go.Proofs.YtibolacikaanpaaDoor

/- A dyadic number that came in, opened; the library's table, as the row lays it. -/
namespace Go.Proofs.YtibolacikaanpaaDoor
open Go.ChangeShapes Go.WideShapes Go.ChangeAt Go.RowKit Go.Joins

theorem Tryd.cellsD : Tryd.prog.cellsOf 46 = 3 := by kernel_rfl
theorem Tryd.cellsI : Tryd.prog.cellsOf 3 = 1 := by kernel_rfl
theorem Tryd.cellsB : Tryd.prog.cellsOf 4 = 1 := by kernel_rfl
theorem Tryd.cellsS : Tryd.prog.cellsOf 42 = 1 := by kernel_rfl

theorem Tryd.tabName : Tryd.prog.globalNamed "math/bits.deBruijn32tab" = some 1 := by kernel_rfl
theorem Tryd.tabType : (Tryd.prog.globals[1]?).map (·.type) = some 107 := by kernel_rfl
theorem Tryd.tabCells : Tryd.prog.cellsOf 107 = 32 := by kernel_rfl
theorem Tryd.byteCells : Tryd.prog.cellsOf 5 = 1 := by kernel_rfl

theorem tab_getD : ∀ j, j < Lib.deBruijn32tab.length → (List.map Int.ofNat Lib.deBruijn32tab).getD j 0 = ((Lib.deBruijn32tab.getD j 0 : Nat) : Int) := by decide

/-- What the rows' list gives: the table's cells. -/
theorem tab_of_laid {W : World} (h : laidMetH Tryd.prog [("math/bits.deBruijn32tab", Rows.laid_math_bits_deBruijn32tab)] W) : Tab W := by
  have ht := Lib.tabIs_of_head (zs := Lib.deBruijn32tab.map Int.ofNat) (rest := []) Tryd.tabName Tryd.tabType Tryd.underlying107 Tryd.underlying5 Tryd.byteCells Tryd.tabCells h
  intro j hj
  have := ht.cell Tryd.tabName j (by simpa using hj)
  rw [this]
  congr 2
  exact tab_getD j hj

set_option maxRecDepth 20000 in
/-- A dyadic number that came in. -/
theorem open_dyadic {H : Type} {enc : TypeId × Value → H} {W : World} {base : Nat} {v : Value} {d : DataW H} {p : List MemPlace} (hval : Value.okWide Tryd.prog W .any base 46 v) (h : DataW.Trod enc Tryd.prog W 0 (fun _ => true) true 46 v d p)
    (hs : ∀ n ∈ d.weights Tryd.prog 46, n ≤ reachBytes) :
    ∃ (neg : Bool) (ao : Option Addr) (cap : Nat) (L : List Nat) (e : Int), v = .agg #[.bool neg, .slice ao L.length cap, .int .i64 e] ∧ LimbsAt W ao cap L ∧ L.length ≤ 35184372087808 ∧ (-9223372036854775808 ≤ e ∧ e ≤ 9223372036854775807) := by
  obtain ⟨cs, rfl, hsz⟩ := okWide_struct Tryd.underlying46 hval
  obtain ⟨c0, c1, c2, rfl⟩ := array3 (hsz.trans Tryd.cellsD)
  obtain ⟨fuel, hf⟩ := h
  obtain ⟨y0, y1, n, hx, _, h0, h1⟩ := trod_struct2 Tryd.underlying46 hf
  simp only [Prod.mk.injEq] at hx
  obtain ⟨rfl, rfl⟩ := hx
  have h0' : DataW.trod enc Tryd.prog W 0 (fun _ => true) true n 44 [c0, c1] = some y0 := by simpa [Value.cells, Tryd.cellsW] using h0
  have h1' : DataW.trod enc Tryd.prog W 0 (fun _ => true) true n 3 [c2] = some y1 := by simpa [Value.cells, Tryd.cellsI] using h1
  clear h0 h1
  obtain ⟨e, e1, e2, we⟩ := DataW.trod_int Tryd.underlying3 h1'
  simp at e1
  subst e1
  obtain ⟨z0, z1, m, hz, _, g0, g1⟩ := trod_struct2 Tryd.underlying44 h0'
  subst hz
  have g0' : DataW.trod enc Tryd.prog W 0 (fun _ => true) true m 4 [c0] = some z0 := by simpa [Tryd.cellsB] using g0
  have g1' : DataW.trod enc Tryd.prog W 0 (fun _ => true) true m 42 [c1] = some z1 := by simpa [Tryd.cellsS] using g1
  clear g0 g1
  obtain ⟨neg, e0, _⟩ := DataW.trod_bool Tryd.underlying4 g0'
  simp at e0
  subst e0
  have be := bounds_of_i64 we
  rcases open_ints Tryd.underlying42 Tryd.underlying82 Tryd.cellsU g1' with ⟨hcs, _⟩ | ⟨a, len, cap, zs, hcs, _, hl, hm, hzz, rfl, hcell, hwz⟩
  · simp at hcs
    subst hcs
    exact ⟨neg, none, 0, [], e, rfl, LimbsAt.nil _ _ _, by simp, be⟩
  · simp at hcs
    subst hcs
    obtain ⟨l1, l2⟩ := limbs_of_ints hl (by simpa using hzz) hcell hwz
    refine ⟨neg, some a, cap, _, e, by rw [l2], l1, ?_, be⟩
    have hk := hs ((zs.length) * 4) (by
      simp only [DataW.weights, Tryd.underlying46, Tryd.underlying44, DataW.weightsEach, List.map, Tryd.underlying42, List.append_nil, List.mem_cons, List.mem_append, Tryd.bytesU, lits, List.length_map, List.length_take, List.length_drop]
      refine .inl (.inr (.inl ?_))
      have : zs.length = cap := by simpa using hzz
      omega)
    simp only [reachBytes] at hk
    rw [l2]
    have : zs.length = cap := by simpa using hzz
    omega

end Go.Proofs.YtibolacikaanpaaDoor

