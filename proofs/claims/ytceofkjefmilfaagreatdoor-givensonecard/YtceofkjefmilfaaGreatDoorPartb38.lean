/- Part 38 of the texts. -/
import Derived.Test.YtceofkjefmilfaaGreatDoorPartb37
import Derived.Test.YtceofkjefmilfaaGreatDoorPartb36
import Derived.Deep.RegionWith
import Derived.Deep.RegionLaw
import Derived.Test.YtceofkjefmilfaaGreatDoorPartb27
import Derived.Deep.RegionHeld3
import Derived.Test.YtceofkjefmilfaaGreatDoorPartb30
import Derived.Test.YtceofkjefmilfaaGreatDoorPartb34
import Derived.Test.YtceofkjefmilfaaGreatDoorPartb32
import Derived.Test.YtceofkjefmilfaaGreatDoorPartb31
import Derived.Test.YtceofkjefmilfaaGreatDoorPartb16
import Derived.Test.YtceofkjefmilfaaGreatDoorPartb29
import Derived.Test.YtceofkjefmilfaaGreatDoorPartb35
import Derived.Test.YtceofkjefmilfaaGreatDoorPartb33
import Derived.Test.YtceofkjefmilfaaGreatDoorPartb08
/- The reference of layer 11: Residual by letters. -/
namespace Go.Proofs.YtceofkjefmilfaaGreatDoor
open Go.RowKit
attribute [local go_sem ↓] Go.wp_at_zero Go.wp_at_succ

/-- Three matrices' boxes, the answer's, the sum's. -/
def RsSt (w wr : World) (r c p q s d : Int) (ao bo co : Option Addr) (na nb nc ca cb cc : Nat) (lo z : Int) : Prop :=
  Bx3D w wr r c p q s d ao bo co na nb nc ca cb cc ∧ Kept wr (w.heap.size + 1 + 1 + 1 + 1) lo z
theorem RsSt.all {w wr w' : World} {r c p q s d : Int} {ao bo co : Option Addr} {na nb nc ca cb cc : Nat} {lo z : Int} (h : RsSt w wr r c p q s d ao bo co na nb nc ca cb cc lo z) (hb : Below wr.heap.size wr w') : RsSt w w' r c p q s d ao bo co na nb nc ca cb cc lo z := ⟨h.1.all hb, h.2.all hb⟩
end Go.Proofs.YtceofkjefmilfaaGreatDoor

/- The reference of layer 11: Gradient by letters. -/
namespace Go.Proofs.YtceofkjefmilfaaGreatDoor
open Go.RowKit
attribute [local go_sem ↓] Go.wp_at_zero Go.wp_at_succ
theorem OwnD.congr {base : Nat} {w : World} {v : Value} {n : Nat} {lo : Int} {f g : Nat → Int} (h : OwnD base w v n lo f) (he : ∀ k, k < n → f k = g k) : OwnD base w v n lo g := by
  obtain ⟨D, h1, h2, h3, h4⟩ := h
  exact ⟨D, h1, h2, h3, fun k hk => by rw [← he k hk]; exact h4 k hk⟩

end Go.Proofs.YtceofkjefmilfaaGreatDoor

/- The reference of layer 11, of matrices of finite numbers. -/
namespace Go.Proofs.YtceofkjefmilfaaGreatDoor
open Go.RowKit
attribute [local go_sem ↓] Go.wp_at_zero Go.wp_at_succ
/-- One, at the level of products. -/
theorem rone11 (w : World) (B : Nat) (v : Value) (h : IsNum B w v 1) : Calls Tryz.prog 22 #[v, .int .i64 0] w fun e w' => ∃ u, e = .returned u ∧ IsLv w' u (-2148) (2 ^ 2148) ∧ Below w.heap.size w w' := by
  refine (rof_small 0 (h.toM (lt_TOP (k := 1) (by decide) (by decide))) (by decide) (by decide)).mono ?_
  rintro e w' ⟨u, rfl, hu, hb⟩
  refine ⟨u, rfl, ?_, hb⟩
  have := IsLv.lower (show IsLv w' u 0 1 from hu) 2148
  rwa [Int.one_mul, show (0 : Int) - (2148 : Nat) = -2148 by decide] at this

end Go.Proofs.YtceofkjefmilfaaGreatDoor

/- The laws of layer 12: awake; GivensTurns, GivensOne walked by what givens.Turn answers. -/
namespace Go.Proofs.YtceofkjefmilfaaGreatDoor
open Go.RowKit
attribute [local go_sem ↓] Go.wp_at_zero Go.wp_at_succ

theorem w12_facts : ¬ fK 4616189618054758400 = 0 ∧ ¬ fK 4613937818241073152 = 0 ∧ eX (max (fR 4613937818241073152) (fR 4616189618054758400)) = 2 ∧ aV (mV (xV 4613937818241073152 (-2)) (xV 4613937818241073152 (-2))) (mV (xV 4616189618054758400 (-2)) (xV 4616189618054758400 (-2))) = 4609715693590413312 ∧ xV 4608308318706860032 2 = 4617315517961601024 := by decide +kernel

theorem gvR_345 : gvR 4613937818241073152 4616189618054758400 = 4617315517961601024 := by
  obtain ⟨h1, h2, h3, h4, h5⟩ := w12_facts
  unfold gvR
  rw [if_neg h1, if_neg h2]
  unfold gvN gvK
  rw [h3, h4, w9_root, h5]
theorem fin_345 : fFin 4613937818241073152 = true ∧ fFin 4616189618054758400 = true := by decide +kernel

set_option maxRecDepth 20000 in
set_option maxHeartbeats 4000000 in
theorem awake12_of (c s : Nat) (w : World)
    (C1 : ∀ w', Below w.heap.size w w' → Calls Tryz.prog 8 #[.int .u64 4613937818241073152, .int .u64 4616189618054758400] w' fun e w'' => e = .returned (.tuple #[.int .u64 (c : Nat), .int .u64 (s : Nat), .int .u64 4617315517961601024, .int .i64 0]) ∧ Below w'.heap.size w' w'') :
    Calls Tryz.prog 10 #[] w fun e w' => e = .returned (.bool true) ∧ Below w.heap.size w w' := by
  have K1 := hide C1
  clear C1
  go_enter Tryz.func10, Tryz.ntmps10
  go_wp2_with fail
  refine (unhide K1 _ (Below.refl _ _)).mono ?_
  rintro e w1 ⟨rfl, hb⟩
  have BB := hide hb
  clear hb K1
  go_wp2
  go_ret
  exact ⟨rfl, unhide BB⟩

end Go.Proofs.YtceofkjefmilfaaGreatDoor

/- The law GivensOne, walked by what givens.Turn answers. -/
namespace Go.Proofs.YtceofkjefmilfaaGreatDoor
open Go.RowKit
attribute [local go_sem ↓] Go.wp_at_zero Go.wp_at_succ

/-- Two numbers laid in a row. -/
theorem two_bits (w : World) (a b : Nat) (ha : a < 18446744073709551616) (hb : b < 18446744073709551616) : BitsAt (w.alloc (.cells #[.int .u64 (a : Nat), .int .u64 (b : Nat)] 23)) (some ⟨w.heap.size, 0, none⟩) 2 [(a : Int), (b : Int)] := by
  have h : RowB (w.alloc (.cells #[.int .u64 (a : Nat), .int .u64 (b : Nat)] 23)) w.heap.size [a, b] := heap_alloc_new w _
  exact h.bits (fun x hx => by simp at hx; rcases hx with rfl | rfl; exact ha; exact hb)

set_option maxRecDepth 20000 in
set_option maxHeartbeats 8000000 in
theorem givensOne_no (f g : Nat) (w : World) (hf : f < 18446744073709551616) (hg : g < 18446744073709551616)
    (C1 : ∀ w' ao, Below w.heap.size w w' → BitsAt w' ao 2 [(f : Int), (g : Int)] → Calls Tryz.prog 19 #[.slice ao 2 2, .int .i64 400] w' fun e w'' => e = .returned (.bool false) ∧ Below w'.heap.size w' w'')
    (CA : ∀ w', Below w.heap.size w w' → Calls Tryz.prog 10 #[] w' fun e w'' => e = .returned (.bool true) ∧ Below w'.heap.size w' w'') :
    Calls Tryz.prog 5 #[.int .u64 f, .int .u64 g] w fun e w' => e = .returned (.bool true) ∧ Below w.heap.size w w' := by
  have K1 := hide C1; have KA := hide CA
  have TB := hide (two_bits w f g hf hg)
  have BB := hide (below_alloc9 w (.cells #[.int .u64 (f : Nat), .int .u64 (g : Nat)] 23))
  clear C1 CA
  go_enter Tryz.func5, Tryz.ntmps5
  go_wp2_with fail
  refine (unhide K1 _ _ (unhide BB) (unhide TB)).mono ?_
  rintro e w1 ⟨rfl, hb⟩
  replace BB := hide ((unhide BB).trans (hb.mono (unhide BB).size))
  clear hb K1 TB
  go_wp2_with fail
  refine (unhide KA _ (unhide BB)).mono ?_
  rintro e w3 ⟨rfl, hb⟩
  replace BB := hide ((unhide BB).trans (hb.mono (unhide BB).size))
  clear hb KA
  go_wp2
  go_ret
  exact ⟨rfl, unhide BB⟩

set_option maxRecDepth 20000 in
set_option maxHeartbeats 8000000 in
theorem givensOne_ok (f g c s r : Nat) (lo z1 z2 : Int) (w : World) (hf : f < 18446744073709551616) (hg : g < 18446744073709551616) (hc : c < 18446744073709551616) (hs : s < 18446744073709551616)
    (C1 : ∀ w' ao, Below w.heap.size w w' → BitsAt w' ao 2 [(f : Int), (g : Int)] → Calls Tryz.prog 19 #[.slice ao 2 2, .int .i64 400] w' fun e w'' => e = .returned (.bool true) ∧ Below w'.heap.size w' w'')
    (C2 : ∀ w', Below w.heap.size w w' → Calls Tryz.prog 8 #[.int .u64 f, .int .u64 g] w' fun e w'' => e = .returned (.tuple #[.int .u64 (c : Nat), .int .u64 (s : Nat), .int .u64 (r : Nat), .int .i64 0]) ∧ Below w'.heap.size w' w'')
    (C3 : ∀ w', Calls Tryz.prog 9 #[.int .u64 c] w' fun e w'' => e = .returned (.bool true) ∧ w' = w'')
    (C4 : ∀ w', Calls Tryz.prog 9 #[.int .u64 s] w' fun e w'' => e = .returned (.bool true) ∧ w' = w'')
    (C5 : ∀ w' ao, BitsAt w' ao 2 [(c : Int), (s : Int)] → Calls Tryz.prog 21 #[.slice ao 2 2] w' fun e w'' => ∃ v, e = .returned v ∧ IsLv w'' v lo z1 ∧ Below w'.heap.size w' w'')
    (C6 : ∀ w' B v, IsNum B w' v 1 → Calls Tryz.prog 22 #[v, .int .i64 0] w' fun e w'' => ∃ u, e = .returned u ∧ IsLv w'' u lo z2 ∧ Below w'.heap.size w' w'')
    (C7 : ∀ w' v u, IsLv w' v lo z1 → IsLv w' u lo z2 → Calls Tryz.prog 20 #[v, u, .int .i64 48] w' fun e w'' => e = .returned (.bool true) ∧ Below w'.heap.size w' w'')
    (CA : ∀ w', Below w.heap.size w w' → Calls Tryz.prog 10 #[] w' fun e w'' => e = .returned (.bool true) ∧ Below w'.heap.size w' w'') :
    Calls Tryz.prog 5 #[.int .u64 f, .int .u64 g] w fun e w' => e = .returned (.bool true) ∧ Below w.heap.size w w' := by
  have K1 := hide C1; have K2 := hide C2; have K3 := hide C3; have K4 := hide C4; have K5 := hide C5; have K6 := hide C6; have K7 := hide C7; have KA := hide CA; have HC := hide hc; have HS := hide hs
  have TB := hide (two_bits w f g hf hg)
  have BB := hide (below_alloc9 w (.cells #[.int .u64 (f : Nat), .int .u64 (g : Nat)] 23))
  clear C1 C2 C3 C4 C5 C6 C7 CA hc hs
  go_enter Tryz.func5, Tryz.ntmps5
  go_wp2_with fail
  refine (unhide K1 _ _ (unhide BB) (unhide TB)).mono ?_
  rintro e w1 ⟨rfl, hb⟩
  replace BB := hide ((unhide BB).trans (hb.mono (unhide BB).size))
  clear hb K1 TB
  go_wp2_with fail
  refine (unhide K2 _ (unhide BB)).mono ?_
  rintro e w2 ⟨rfl, hb⟩
  replace BB := hide ((unhide BB).trans (hb.mono (unhide BB).size))
  clear hb K2
  go_wp2_with fail
  refine (unhide K3 _).mono ?_
  rintro e w3 ⟨rfl, rfl⟩
  go_wp2_with fail
  refine (unhide K4 _).mono ?_
  rintro e w3 ⟨rfl, rfl⟩
  clear K3 K4
  go_wp2_with fail
  have ba := below_alloc9 w2 (.cells #[.int .u64 (c : Nat), .int .u64 (s : Nat)] 23)
  replace BB := hide ((unhide BB).trans (ba.mono (unhide BB).size))
  clear ba
  refine (unhide K5 _ _ (two_bits w2 c s (unhide HC) (unhide HS))).mono ?_
  rintro e w4 ⟨v, rfl, lv, hb⟩
  replace BB := hide ((unhide BB).trans (hb.mono (unhide BB).size))
  have L1 := hide lv
  clear hb K5 HC HS
  obtain ⟨n1, a1, c1, L, rfl, iv⟩ := lv
  generalize L.length = l1 at *
  generalize oE z1 lo = E1 at *
  clear iv L
  go_wp2_with fail
  refine (rof11 _).mono ?_
  rintro e w5 ⟨v, rfl, qn, hb⟩
  replace BB := hide ((unhide BB).trans (hb.mono (unhide BB).size))
  replace L1 := hide ((unhide L1).below hb)
  have QN := hide qn
  clear hb
  obtain ⟨n2, a2, c2, M, rfl, iv⟩ := qn
  generalize M.length = l2 at *
  clear iv M
  go_wp2_with fail
  refine (unhide K6 _ _ _ (unhide QN)).mono ?_
  rintro e w6 ⟨v, rfl, lv, hb⟩
  replace BB := hide ((unhide BB).trans (hb.mono (unhide BB).size))
  replace L1 := hide ((unhide L1).below hb)
  have L2 := hide lv
  clear hb QN K6
  obtain ⟨n3, a3, c3, N, rfl, iv⟩ := lv
  generalize N.length = l3 at *
  generalize oE z2 lo = E3 at *
  clear iv N
  go_wp2_with fail
  refine (unhide K7 _ _ _ (unhide L1) (unhide L2)).mono ?_
  rintro e w7 ⟨rfl, hb⟩
  replace BB := hide ((unhide BB).trans (hb.mono (unhide BB).size))
  clear hb L1 L2 K7
  go_wp2_with fail
  refine (unhide KA _ (unhide BB)).mono ?_
  rintro e w8 ⟨rfl, hb⟩
  replace BB := hide ((unhide BB).trans (hb.mono (unhide BB).size))
  clear hb KA
  go_wp2
  go_ret
  exact ⟨rfl, unhide BB⟩

end Go.Proofs.YtceofkjefmilfaaGreatDoor

