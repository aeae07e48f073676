/- Part 42 of the texts. -/
import Derived.Test.YtimejpbmehegeaaGreatDoorPartd38
import Derived.Test.YtimejpbmehegeaaGreatDoorPartd39
import Derived.Test.YtimejpbmehegeaaGreatDoorPartd30
import Derived.Test.YtimejpbmehegeaaGreatDoorPartd31
import Derived.Test.YtimejpbmehegeaaGreatDoorPartd32
import Derived.Test.YtimejpbmehegeaaGreatDoorPartd33
import Derived.Deep.RegionWith
import Derived.Test.YtimejpbmehegeaaGreatDoorPartd41
import Derived.Test.YtimejpbmehegeaaGreatDoorPartd40
import Derived.Test.YtimejpbmehegeaaGreatDoorPartd09
import Derived.Lib.BitFns
import Derived.Test.YtimejpbmehegeaaGreatDoorPartd35
import Derived.Test.YtimejpbmehegeaaGreatDoorPartd08
import Derived.Test.YtimejpbmehegeaaGreatDoorPartd36
import Derived.OwnWalk
import Derived.Test.YtimejpbmehegeaaGreatDoorPartd01
import Derived.Test.YtimejpbmehegeaaGreatDoorPartd11
import Derived.Maps.Own
import Derived.Maps.OwnOps
import Derived.Maps.OwnSet
import Derived.DeepKeys4
import Derived.WalkSmall
import Derived.Deep.RegionHeld3
import Derived.Deep.AppendLies
import Derived.Test.YtimejpbmehegeaaGreatDoorPartd18
import Derived.Test.YtimejpbmehegeaaGreatDoorPartd19
import Derived.Deep.Cut
import Derived.BigQuiet
import Derived.Test.YtimejpbmehegeaaGreatDoorPartd37
/- The law GivensOne, walked by what givens.Turn answers. -/
namespace Go.Proofs.YtimejpbmehegeaaGreatDoor
open Go.RowKit
attribute [local go_sem ↓] Go.wp_at_zero Go.wp_at_succ

/-- Two numbers laid in a row. -/
theorem two_bits (w : World) (a b : Nat) (ha : a < 18446744073709551616) (hb : b < 18446744073709551616) : BitsAt (w.alloc (.cells #[.int .u64 (a : Nat), .int .u64 (b : Nat)] 24)) (some ⟨w.heap.size, 0, none⟩) 2 [(a : Int), (b : Int)] := by
  have h : RowB (w.alloc (.cells #[.int .u64 (a : Nat), .int .u64 (b : Nat)] 24)) w.heap.size [a, b] := heap_alloc_new w _
  exact h.bits (fun x hx => by simp at hx; rcases hx with rfl | rfl; exact ha; exact hb)

end Go.Proofs.YtimejpbmehegeaaGreatDoor

/- The mirror of 3 and 4; the law's awake. -/
namespace Go.Proofs.YtimejpbmehegeaaGreatDoor
open Go.RowKit
attribute [local go_sem ↓] Go.wp_at_zero Go.wp_at_succ

theorem w13_facts : bgF 0 [4613937818241073152, 4616189618054758400] = 4616189618054758400 ∧ fFin 4616189618054758400 = true ∧ eX 4616189618054758400 = 2 ∧ ssV 2 0 [4613937818241073152, 4616189618054758400] = 4609715693590413312 ∧ xV 4608308318706860032 2 = 4617315517961601024 ∧ ldS [4613937818241073152, 4616189618054758400] = false ∧ fN 4617315517961601024 = 13840687554816376832 ∧ fN 13840687554816376832 = 4617315517961601024 ∧ aV 4613937818241073152 4617315517961601024 = 4620693217682128896 ∧ ngt [4616189618054758400] = false ∧ fFin 13840687554816376832 = true ∧ fFin 4620693217682128896 = true ∧ fFin 4613937818241073152 = true := by decide +kernel
theorem w13_quo : dV 4616189618054758400 4620693217682128896 = 4602678819172646912 := by decide +kernel

theorem nr_345 : nrV [4613937818241073152, 4616189618054758400] = 4617315517961601024 := by
  obtain ⟨h1, h2, h3, h4, h5, _⟩ := w13_facts
  unfold nrV
  rw [h1, if_neg (by rw [h2]; decide), h3, h4, w9_root, h5]
theorem hm_345 : hmB 4613937818241073152 [4616189618054758400] = 13840687554816376832 ∧ hmD 4613937818241073152 [4616189618054758400] = 4620693217682128896 := by
  obtain ⟨_, _, _, _, _, h6, h7, h8, h9, _⟩ := w13_facts
  have e : hmB 4613937818241073152 [4616189618054758400] = 13840687554816376832 := by
    unfold hmB
    rw [h6, if_neg (by decide), nr_345, h7]
  refine ⟨e, ?_⟩
  unfold hmD
  rw [e, h8, h9]
theorem mr_345 : mrB [4613937818241073152, 4616189618054758400] = 13840687554816376832 ∧ mrV [4613937818241073152, 4616189618054758400] = [4607182418800017408, 4602678819172646912] ∧ mrK [4613937818241073152, 4616189618054758400] = true := by
  obtain ⟨_, _, _, _, _, _, _, _, _, h10, h11, h12, _⟩ := w13_facts
  obtain ⟨e1, e2⟩ := hm_345
  refine ⟨?_, ?_, ?_⟩
  · show (if ngt [4616189618054758400] = true then 4613937818241073152 else hmB 4613937818241073152 [4616189618054758400]) = _
    rw [if_neg (by rw [h10]; decide), e1]
  · show 4607182418800017408 :: [if ngt [4616189618054758400] = true then 0 else dV 4616189618054758400 (hmD 4613937818241073152 [4616189618054758400])] = _
    rw [if_neg (by rw [h10]; decide), e2, w13_quo]
  · show (ngt [4616189618054758400] || (fFin (hmB 4613937818241073152 [4616189618054758400]) && fFin (hmD 4613937818241073152 [4616189618054758400]))) = true
    rw [e1, e2, h11, h12, Bool.and_self, Bool.or_true]

set_option maxRecDepth 20000 in
set_option maxHeartbeats 4000000 in
theorem awake13_of (t : Nat) (w : World)
    (C1 : ∀ w' ao, Below w.heap.size w w' → BitsAt w' ao 2 [((4613937818241073152 : Nat) : Int), ((4616189618054758400 : Nat) : Int)] → Calls Tryz.prog 8 #[.slice ao 2 2] w' fun e w'' => ∃ vo vc, e = .returned (.tuple #[.slice vo 2 vc, .int .u64 (t : Nat), .int .u64 13840687554816376832, .int .i64 0]) ∧ BitsAt w'' vo vc (mxL [4607182418800017408, 4602678819172646912]) ∧ Below w'.heap.size w' w'') :
    Calls Tryz.prog 12 #[] w fun e w' => e = .returned (.bool true) ∧ Below w.heap.size w w' := by
  have K1 := hide C1
  have TB := hide (two_bits w 4613937818241073152 4616189618054758400 (by decide) (by decide))
  have BB := hide (below_alloc9 w (.cells #[.int .u64 ((4613937818241073152 : Nat) : Int), .int .u64 ((4616189618054758400 : Nat) : Int)] 24))
  clear C1
  go_enter Tryz.func12, Tryz.ntmps12
  go_wp2_with fail
  refine (unhide K1 _ _ (unhide BB) (unhide TB)).mono ?_
  rintro e w1 ⟨vo, vc, rfl, bv, hb⟩
  obtain ⟨b, off, rfl, _, hc⟩ := bv.ne (by decide)
  have c1 : w1.cell? ⟨b, off + 1, none⟩ = some (.int .u64 4602678819172646912) := hc 1 (by decide)
  replace BB := hide ((unhide BB).trans (hb.mono (unhide BB).size))
  clear hb K1 TB bv hc
  go_wp2
  go_ret
  exact ⟨rfl, unhide BB⟩

end Go.Proofs.YtimejpbmehegeaaGreatDoor

/- Contracts of the reference's zero, pivot. -/
namespace Go.Proofs.YtimejpbmehegeaaGreatDoor
open Go.RowKit
attribute [local go_sem ↓] Go.wp_at_zero Go.wp_at_succ

/-- Is the number 0? -/
def nilAt (N : List Rw) (i c : Nat) : Prop := (nmAt (rwAt N i).R c).L.length = 0

end Go.Proofs.YtimejpbmehegeaaGreatDoor

/- Rows in a block of the call's own, row by row overwritten, and what they are (for the reference's Rank). -/
namespace Go.Proofs.YtimejpbmehegeaaGreatDoor
open Go.RowKit

/-- How many digits the numbers have behind c columns. -/
def KK : Nat → Nat
  | 0 => 2098
  | c + 1 => 2 * KK c + 1
end Go.Proofs.YtimejpbmehegeaaGreatDoor

/- The reference of layer 13: Make. -/
namespace Go.Proofs.YtimejpbmehegeaaGreatDoor
open Go.RowKit
attribute [local go_sem ↓] Go.wp_at_zero Go.wp_at_succ
/-- The list behind j steps. -/
def mkJ (g : Nat → Nat) (j : Nat) : List Nat := 4607182418800017408 :: fsL g (j - 1)
end Go.Proofs.YtimejpbmehegeaaGreatDoor

