/- Part 38 of the texts. -/
import Derived.Test.YtceofkjefmilfaaGreatDoorParta36
import Derived.Test.YtceofkjefmilfaaGreatDoorParta37
import Derived.Deep.RegionWith
import Derived.Deep.RegionLaw
import Derived.Test.YtceofkjefmilfaaGreatDoorParta28
import Derived.Deep.RegionHeld3
import Derived.Test.YtceofkjefmilfaaGreatDoorParta30
import Derived.Test.YtceofkjefmilfaaGreatDoorParta34
import Derived.Test.YtceofkjefmilfaaGreatDoorParta31
import Derived.Test.YtceofkjefmilfaaGreatDoorParta16
import Derived.Test.YtceofkjefmilfaaGreatDoorParta35
import Derived.Test.YtceofkjefmilfaaGreatDoorParta33
import Derived.Test.YtceofkjefmilfaaGreatDoorParta08
import Derived.Test.YtceofkjefmilfaaGreatDoorChecked
import Derived.Test.YtceofkjefmilfaaGreatDoorParta02
import Derived.ProofKit
import Derived.SizedLaws
import Derived.Lib.SmallJoins
import Derived.Test.YtceofkjefmilfaaGreatDoorRows
import Derived.Test.YtceofkjefmilfaaGreatDoorParta11
import Derived.Lib.LaidTab
import Derived.OpenShut
import Derived.Deep.DeepHandedRow
/- The laws of layer 12: awake; GivensTurns, GivensOne walked by what givens.Turn answers. -/
namespace Go.Proofs.YtceofkjefmilfaaGreatDoor
open Go.RowKit
attribute [local go_sem ↓] Go.wp_at_zero Go.wp_at_succ

theorem w12_facts : ¬ fK 4616189618054758400 = 0 ∧ ¬ fK 4613937818241073152 = 0 ∧ eX (max (fR 4613937818241073152) (fR 4616189618054758400)) = 2 ∧ aV (mV (xV 4613937818241073152 (-2)) (xV 4613937818241073152 (-2))) (mV (xV 4616189618054758400 (-2)) (xV 4616189618054758400 (-2))) = 4609715693590413312 ∧ xV 4608308318706860032 2 = 4617315517961601024 := by decide +kernel

theorem gvR_345 : gvR 4613937818241073152 4616189618054758400 = 4617315517961601024 := by
  obtain ⟨h1, h2, h3, h4, h5⟩ := w12_facts
  unfold gvR
  rw [if_neg h1, if_neg h2]
  unfold gvN gvK
  rw [h3, h4, w9_root, h5]
theorem fin_345 : fFin 4613937818241073152 = true ∧ fFin 4616189618054758400 = true := by decide +kernel

set_option maxRecDepth 20000 in
set_option maxHeartbeats 4000000 in
theorem awake12_of (c s : Nat) (w : World)
    (C1 : ∀ w', Below w.heap.size w w' → Calls Tryz.prog 8 #[.int .u64 4613937818241073152, .int .u64 4616189618054758400] w' fun e w'' => e = .returned (.tuple #[.int .u64 (c : Nat), .int .u64 (s : Nat), .int .u64 4617315517961601024, .int .i64 0]) ∧ Below w'.heap.size w' w'') :
    Calls Tryz.prog 10 #[] w fun e w' => e = .returned (.bool true) ∧ Below w.heap.size w w' := by
  have K1 := hide C1
  clear C1
  go_enter Tryz.func10, Tryz.ntmps10
  go_wp2_with fail
  refine (unhide K1 _ (Below.refl _ _)).mono ?_
  rintro e w1 ⟨rfl, hb⟩
  have BB := hide hb
  clear hb K1
  go_wp2
  go_ret
  exact ⟨rfl, unhide BB⟩

set_option maxRecDepth 20000 in
set_option maxHeartbeats 4000000 in
theorem givensTurns_no (f g : Nat) (b1 b2 : Bool) (hb : b1 = false ∨ (b1 = true ∧ b2 = false)) (w : World)
    (C1 : ∀ w', Below w.heap.size w w' → Calls Tryz.prog 8 #[.int .u64 f, .int .u64 g] w' fun e w'' => e = .returned (.tuple #[.int .u64 0, .int .u64 0, .int .u64 0, .int .i64 4]) ∧ Below w'.heap.size w' w'')
    (C2 : ∀ w', Calls Tryz.prog 9 #[.int .u64 f] w' fun e w'' => e = .returned (.bool b1) ∧ w' = w'')
    (C3 : ∀ w', Calls Tryz.prog 9 #[.int .u64 g] w' fun e w'' => e = .returned (.bool b2) ∧ w' = w'')
    (CA : ∀ w', Below w.heap.size w w' → Calls Tryz.prog 10 #[] w' fun e w'' => e = .returned (.bool true) ∧ Below w'.heap.size w' w'') :
    Calls Tryz.prog 3 #[.int .u64 f, .int .u64 g] w fun e w' => e = .returned (.bool true) ∧ Below w.heap.size w w' := by
  have K1 := hide C1; have K2 := hide C2; have K3 := hide C3; have KA := hide CA
  clear C1 C2 C3 CA
  rcases hb with rfl | ⟨rfl, rfl⟩
  · go_enter Tryz.func3, Tryz.ntmps3
    go_wp2_with fail
    refine (unhide K1 _ (Below.refl _ _)).mono ?_
    rintro e w1 ⟨rfl, hb⟩
    have BB := hide hb
    clear hb K1
    go_wp2_with fail
    refine (unhide K2 _).mono ?_
    rintro e w2 ⟨rfl, rfl⟩
    go_wp2_with fail
    refine (unhide KA _ (unhide BB)).mono ?_
    rintro e w3 ⟨rfl, hb⟩
    replace BB := hide ((unhide BB).trans (hb.mono (unhide BB).size))
    clear hb KA
    go_wp2
    go_ret
    exact ⟨rfl, unhide BB⟩
  · go_enter Tryz.func3, Tryz.ntmps3
    go_wp2_with fail
    refine (unhide K1 _ (Below.refl _ _)).mono ?_
    rintro e w1 ⟨rfl, hb⟩
    have BB := hide hb
    clear hb K1
    go_wp2_with fail
    refine (unhide K2 _).mono ?_
    rintro e w2 ⟨rfl, rfl⟩
    go_wp2_with fail
    refine (unhide K3 _).mono ?_
    rintro e w2 ⟨rfl, rfl⟩
    go_wp2_with fail
    refine (unhide KA _ (unhide BB)).mono ?_
    rintro e w3 ⟨rfl, hb⟩
    replace BB := hide ((unhide BB).trans (hb.mono (unhide BB).size))
    clear hb KA
    go_wp2
    go_ret
    exact ⟨rfl, unhide BB⟩

set_option maxRecDepth 20000 in
set_option maxHeartbeats 4000000 in
theorem givensTurns_ok (f g c s r : Nat) (w : World)
    (C1 : ∀ w', Below w.heap.size w w' → Calls Tryz.prog 8 #[.int .u64 f, .int .u64 g] w' fun e w'' => e = .returned (.tuple #[.int .u64 (c : Nat), .int .u64 (s : Nat), .int .u64 (r : Nat), .int .i64 0]) ∧ Below w'.heap.size w' w'')
    (C2 : ∀ w', Calls Tryz.prog 9 #[.int .u64 f] w' fun e w'' => e = .returned (.bool true) ∧ w' = w'')
    (C3 : ∀ w', Calls Tryz.prog 9 #[.int .u64 g] w' fun e w'' => e = .returned (.bool true) ∧ w' = w'')
    (C4 : ∀ w', Calls Tryz.prog 11 #[.int .u64 f, .int .u64 g] w' fun e w'' => e = .returned (.agg #[.int .u64 (c : Nat), .int .u64 (s : Nat), .int .u64 (r : Nat)]) ∧ Below w'.heap.size w' w'')
    (CA : ∀ w', Below w.heap.size w w' → Calls Tryz.prog 10 #[] w' fun e w'' => e = .returned (.bool true) ∧ Below w'.heap.size w' w'') :
    Calls Tryz.prog 3 #[.int .u64 f, .int .u64 g] w fun e w' => e = .returned (.bool true) ∧ Below w.heap.size w w' := by
  have K1 := hide C1; have K2 := hide C2; have K3 := hide C3; have K4 := hide C4; have KA := hide CA
  clear C1 C2 C3 C4 CA
  go_enter Tryz.func3, Tryz.ntmps3
  go_wp2_with fail
  refine (unhide K1 _ (Below.refl _ _)).mono ?_
  rintro e w1 ⟨rfl, hb⟩
  have BB := hide hb
  clear hb K1
  go_wp2_with fail
  refine (unhide K2 _).mono ?_
  rintro e w2 ⟨rfl, rfl⟩
  go_wp2_with fail
  refine (unhide K3 _).mono ?_
  rintro e w2 ⟨rfl, rfl⟩
  go_wp2_with fail
  refine (unhide K4 _).mono ?_
  rintro e w3 ⟨rfl, hb⟩
  replace BB := hide ((unhide BB).trans (hb.mono (unhide BB).size))
  clear hb K4
  go_wp2_with fail
  refine (unhide KA _ (unhide BB)).mono ?_
  rintro e w3 ⟨rfl, hb⟩
  replace BB := hide ((unhide BB).trans (hb.mono (unhide BB).size))
  clear hb KA
  go_wp2
  go_ret
  exact ⟨rfl, unhide BB⟩

/-- GivensTurns, by what givens.Turn answers. -/
theorem givensTurns_by (f g : Nat) (w : World) (hf : f < 18446744073709551616) (hg : g < 18446744073709551616)
    (CT : ∀ w' a b, Below w.heap.size w w' → a < 18446744073709551616 → b < 18446744073709551616 → fFin a = true → fFin b = true → Calls Tryz.prog 8 #[.int .u64 (a : Nat), .int .u64 (b : Nat)] w' fun e w'' => e = .returned (.tuple #[.int .u64 (gvC a b : Nat), .int .u64 (gvS a b : Nat), .int .u64 (gvR a b : Nat), .int .i64 0]) ∧ Below w'.heap.size w' w'')
    (CE : ∀ w' a b, Below w.heap.size w w' → a < 18446744073709551616 → b < 18446744073709551616 → ¬ (fFin a = true ∧ fFin b = true) → Calls Tryz.prog 8 #[.int .u64 (a : Nat), .int .u64 (b : Nat)] w' fun e w'' => e = .returned (.tuple #[.int .u64 0, .int .u64 0, .int .u64 0, .int .i64 4]) ∧ Below w'.heap.size w' w'') :
    Calls Tryz.prog 3 #[.int .u64 f, .int .u64 g] w fun e w' => e = .returned (.bool true) ∧ Below w.heap.size w w' := by
  have CA : ∀ w', Below w.heap.size w w' → Calls Tryz.prog 10 #[] w' fun e w'' => e = .returned (.bool true) ∧ Below w'.heap.size w' w'' := fun w' hb => by
    refine awake12_of (gvC 4613937818241073152 4616189618054758400) (gvS 4613937818241073152 4616189618054758400) w' (fun w'' hb2 => ?_)
    have := CT w'' 4613937818241073152 4616189618054758400 (hb.trans (hb2.mono hb.size)) (by decide) (by decide) fin_345.1 fin_345.2
    rw [gvR_345] at this
    exact this
  by_cases h : fFin f = true ∧ fFin g = true
  · have F1 := fun w' => rfinite_any f w' hf
    have F2 := fun w' => rfinite_any g w' hg
    rw [h.1] at F1
    rw [h.2] at F2
    exact givensTurns_ok f g (gvC f g) (gvS f g) (gvR f g) w (fun w' hb => CT w' f g hb hf hg h.1 h.2) F1 F2 (fun w' => rturn12_any f g w' hf hg h.1 h.2) CA
  · refine givensTurns_no f g (fFin f) (fFin g) ?_ w (fun w' hb => CE w' f g hb hf hg h) (fun w' => rfinite_any f w' hf) (fun w' => rfinite_any g w' hg) CA
    cases h1 : fFin f
    · exact .inl rfl
    · cases h2 : fFin g
      · exact .inr ⟨rfl, rfl⟩
      · exact absurd ⟨h1, h2⟩ h

end Go.Proofs.YtceofkjefmilfaaGreatDoor

/- The laws GivensTurns, GivensOne, GivensRight, with the program's own Turn. -/
namespace Go.Proofs.YtceofkjefmilfaaGreatDoor
open Go.RowKit

theorem ct12 (w : World) (hT : Tab w) : ∀ w' a b, Below w.heap.size w w' → a < 18446744073709551616 → b < 18446744073709551616 → fFin a = true → fFin b = true → Calls Tryz.prog 8 #[.int .u64 (a : Nat), .int .u64 (b : Nat)] w' fun e w'' => e = .returned (.tuple #[.int .u64 (gvC a b : Nat), .int .u64 (gvS a b : Nat), .int .u64 (gvR a b : Nat), .int .i64 0]) ∧ Below w'.heap.size w' w'' :=
  fun w' a b hb ha hb' fa fb => gturn_ok a b w' ha hb' fa fb (hT.all hb)

theorem givensTurns_walk (f g : Nat) (w : World) (hf : f < 18446744073709551616) (hg : g < 18446744073709551616) (hT : Tab w) :
    Calls Tryz.prog 3 #[.int .u64 f, .int .u64 g] w fun e w' => e = .returned (.bool true) ∧ Below w.heap.size w w' :=
  givensTurns_by f g w hf hg (ct12 w hT) (fun w' a b _ ha hb' h => (gturn_no a b w' ha hb' h).mono (by rintro e w'' ⟨rfl, hb⟩; exact ⟨rfl, hb⟩))

end Go.Proofs.YtceofkjefmilfaaGreatDoor

/- A struct of a sign and limbs that came in, opened. -/
namespace Go.Proofs.YtceofkjefmilfaaGreatDoor
open Go.ChangeShapes Go.WideShapes Go.ChangeAt Go.RowKit Go.Joins

theorem Tryz.own : ownKnob Tryz.prog.godebug = none := by kernel_rfl
end Go.Proofs.YtceofkjefmilfaaGreatDoor

/- A dyadic number that came in, opened; the library's table, as the row lays it. -/
namespace Go.Proofs.YtceofkjefmilfaaGreatDoor
open Go.ChangeShapes Go.WideShapes Go.ChangeAt Go.RowKit Go.Joins
theorem Tryz.tabName : Tryz.prog.globalNamed "math/bits.deBruijn32tab" = some 1 := by kernel_rfl
theorem Tryz.tabType : (Tryz.prog.globals[1]?).map (·.type) = some 164 := by kernel_rfl
theorem Tryz.tabCells : Tryz.prog.cellsOf 164 = 32 := by kernel_rfl
theorem Tryz.byteCells : Tryz.prog.cellsOf 5 = 1 := by kernel_rfl

theorem tab_getD : ∀ j, j < Lib.deBruijn32tab.length → (List.map Int.ofNat Lib.deBruijn32tab).getD j 0 = ((Lib.deBruijn32tab.getD j 0 : Nat) : Int) := by decide

/-- What the rows' list gives: the table's cells. -/
theorem tab_of_laid {W : World} (h : laidMetH Tryz.prog [("math/bits.deBruijn32tab", Rows.laid_math_bits_deBruijn32tab)] W) : Tab W := by
  have ht := Lib.tabIs_of_head (zs := Lib.deBruijn32tab.map Int.ofNat) (rest := []) Tryz.tabName Tryz.tabType Tryz.underlying164 Tryz.underlying5 Tryz.byteCells Tryz.tabCells h
  intro j hj
  have := ht.cell Tryz.tabName j (by simpa using hj)
  rw [this]
  congr 2
  exact tab_getD j hj

end Go.Proofs.YtceofkjefmilfaaGreatDoor

/- Bits that came in. -/
namespace Go.Proofs.YtceofkjefmilfaaGreatDoor
open Go.ChangeShapes Go.WideShapes Go.ChangeAt Go.RowKit

theorem nat_of_u64 {n : Int} (h : (Lit.int .u64 n).wf = true) : ∃ m : Nat, n = (m : Int) ∧ m < 18446744073709551616 := by
  simp [Lit.wf, IntKind.min, IntKind.max, IntKind.signed, IntKind.bits] at h
  exact ⟨n.toNat, by omega, by omega⟩

end Go.Proofs.YtceofkjefmilfaaGreatDoor

