/-
  DERIVED. GIVEN WITH THE SEED: THE CARDS: each row of YtdhmglmccafbnaaGreatDoorRows.lean that lists a variable, with what it lists TIED to the program's text (the seventh form; the later family's looks); each row that meets fmt, with fmt's text TOLD by the authors' own Lean function (tested against real Go, not proved from fmt's source: count such statements apart). THE CARD IS WHAT COUNTS. Prove the row's statement (the work); the ties are given (YtdhmglmccafbnaaGreatDoorTie.lean); close each card by the builder's one call (the guide's Derived/Test/ToyasCard.lean, 'card_holds'). Laid BY PROGRAM, IN A SANDBOX (cutbox-door.mjs). By AI agents, Wed Nov 11 2026. No macro, syntax, notation, axiom, sorry.
-/
import Derived.Test.YtdhmglmccafbnaaGreatDoorRows
import GoSem.ClaimSeven
namespace Go.Proofs.YtdhmglmccafbnaaGreatDoor
namespace Rows

/-- THE TIED CARD OF 'dioptralaw17.SolveExact'. -/
def solveExactCard : Claim7 := { stood := { row := solveExactRow, standIns := [], harness := (true, "6383be1f457d2b4f47c7b7bc07a67c574901e66626b9cd53c5dab25cbfee904b"), looks := false }, kinds := [], alts := [], laidByText := true, laidKinds := [.data], laidTests := true, laidLooks := .later }
def SolveExactCardSaid : Prop := Claim7.holds Tryz.pinned (.plain (OpenSpec.ofChange solveExactSpec)) solveExactCard

/-- THE TIED CARD OF 'dioptralaw17.SolveUpright'. -/
def solveUprightCard : Claim7 := { stood := { row := solveUprightRow, standIns := [], harness := (true, "6383be1f457d2b4f47c7b7bc07a67c574901e66626b9cd53c5dab25cbfee904b"), looks := false }, kinds := [], alts := [], laidByText := true, laidKinds := [.data], laidTests := true, laidLooks := .later }
def SolveUprightCardSaid : Prop := Claim7.holds Tryz.pinned (.plain (OpenSpec.ofChange solveUprightSpec)) solveUprightCard

/-- THE TIED CARD OF 'dioptralaw17.SolveBack'. -/
def solveBackCard : Claim7 := { stood := { row := solveBackRow, standIns := [], harness := (true, "6383be1f457d2b4f47c7b7bc07a67c574901e66626b9cd53c5dab25cbfee904b"), looks := false }, kinds := [], alts := [], laidByText := true, laidKinds := [.data], laidTests := true, laidLooks := .later }
def SolveBackCardSaid : Prop := Claim7.holds Tryz.pinned (.plain (OpenSpec.ofChange solveBackSpec)) solveBackCard

/-- THE TIED CARD OF 'dioptralaw18.HessBrings'. -/
def hessBringsCard : Claim7 := { stood := { row := hessBringsRow, standIns := [], harness := (true, "6383be1f457d2b4f47c7b7bc07a67c574901e66626b9cd53c5dab25cbfee904b"), looks := false }, kinds := [], alts := [], laidByText := true, laidKinds := [.data], laidTests := true, laidLooks := .later }
def HessBringsCardSaid : Prop := Claim7.holds Tryz.pinned (.plain (OpenSpec.ofChange hessBringsSpec)) hessBringsCard

/-- THE TIED CARD OF 'dioptralaw19.SvdUprights'. -/
def svdUprightsCard : Claim7 := { stood := { row := svdUprightsRow, standIns := [], harness := (true, "6383be1f457d2b4f47c7b7bc07a67c574901e66626b9cd53c5dab25cbfee904b"), looks := false }, kinds := [], alts := [], laidByText := true, laidKinds := [.data], laidTests := true, laidLooks := .later }
def SvdUprightsCardSaid : Prop := Claim7.holds Tryz.pinned (.plain (OpenSpec.ofChange svdUprightsSpec)) svdUprightsCard

/-- THE TIED CARD OF 'dioptralaw19.SvdRanks'. -/
def svdRanksCard : Claim7 := { stood := { row := svdRanksRow, standIns := [], harness := (true, "6383be1f457d2b4f47c7b7bc07a67c574901e66626b9cd53c5dab25cbfee904b"), looks := false }, kinds := [], alts := [], laidByText := true, laidKinds := [.data], laidTests := true, laidLooks := .later }
def SvdRanksCardSaid : Prop := Claim7.holds Tryz.pinned (.plain (OpenSpec.ofChange svdRanksSpec)) svdRanksCard

/-- THE TIED CARD OF 'dioptralaw19.SvdRight'. -/
def svdRightCard : Claim7 := { stood := { row := svdRightRow, standIns := [], harness := (true, "6383be1f457d2b4f47c7b7bc07a67c574901e66626b9cd53c5dab25cbfee904b"), looks := false }, kinds := [], alts := [], laidByText := true, laidKinds := [.data], laidTests := true, laidLooks := .later }
def SvdRightCardSaid : Prop := Claim7.holds Tryz.pinned (.plain (OpenSpec.ofChange svdRightSpec)) svdRightCard

/-- THE TIED CARD OF 'dioptralaw19.SvdTurns'. -/
def svdTurnsCard : Claim7 := { stood := { row := svdTurnsRow, standIns := [], harness := (true, "6383be1f457d2b4f47c7b7bc07a67c574901e66626b9cd53c5dab25cbfee904b"), looks := false }, kinds := [], alts := [], laidByText := true, laidKinds := [.data], laidTests := true, laidLooks := .later }
def SvdTurnsCardSaid : Prop := Claim7.holds Tryz.pinned (.plain (OpenSpec.ofChange svdTurnsSpec)) svdTurnsCard

/-- THE TIED CARD OF 'dioptralaw19.SvdPairs'. -/
def svdPairsCard : Claim7 := { stood := { row := svdPairsRow, standIns := [], harness := (true, "6383be1f457d2b4f47c7b7bc07a67c574901e66626b9cd53c5dab25cbfee904b"), looks := false }, kinds := [], alts := [], laidByText := true, laidKinds := [.data], laidTests := true, laidLooks := .later }
def SvdPairsCardSaid : Prop := Claim7.holds Tryz.pinned (.plain (OpenSpec.ofChange svdPairsSpec)) svdPairsCard

/-- THE TIED CARD OF 'dioptralaw19.SvdSizes'. -/
def svdSizesCard : Claim7 := { stood := { row := svdSizesRow, standIns := [], harness := (true, "6383be1f457d2b4f47c7b7bc07a67c574901e66626b9cd53c5dab25cbfee904b"), looks := false }, kinds := [], alts := [], laidByText := true, laidKinds := [.data], laidTests := true, laidLooks := .later }
def SvdSizesCardSaid : Prop := Claim7.holds Tryz.pinned (.plain (OpenSpec.ofChange svdSizesSpec)) svdSizesCard

/-- THE SECOND FORM's CARD OF 'dioptralaw17.SolveExact'. -/
def solveExactUptoCard : Claim7 := { stood := { row := solveExactUptoRow, standIns := [], harness := (true, "6383be1f457d2b4f47c7b7bc07a67c574901e66626b9cd53c5dab25cbfee904b"), looks := false }, kinds := [], alts := [], laidByText := true, laidKinds := [.data], laidTests := true, laidLooks := .later }
def SolveExactUptoCardSaid : Prop := Claim7.holds Tryz.pinned (.plain (OpenSpec.upto solveExactSpec)) solveExactUptoCard

/-- THE SECOND FORM's CARD OF 'dioptralaw17.SolveUpright'. -/
def solveUprightUptoCard : Claim7 := { stood := { row := solveUprightUptoRow, standIns := [], harness := (true, "6383be1f457d2b4f47c7b7bc07a67c574901e66626b9cd53c5dab25cbfee904b"), looks := false }, kinds := [], alts := [], laidByText := true, laidKinds := [.data], laidTests := true, laidLooks := .later }
def SolveUprightUptoCardSaid : Prop := Claim7.holds Tryz.pinned (.plain (OpenSpec.upto solveUprightSpec)) solveUprightUptoCard

/-- THE SECOND FORM's CARD OF 'dioptralaw17.SolveBack'. -/
def solveBackUptoCard : Claim7 := { stood := { row := solveBackUptoRow, standIns := [], harness := (true, "6383be1f457d2b4f47c7b7bc07a67c574901e66626b9cd53c5dab25cbfee904b"), looks := false }, kinds := [], alts := [], laidByText := true, laidKinds := [.data], laidTests := true, laidLooks := .later }
def SolveBackUptoCardSaid : Prop := Claim7.holds Tryz.pinned (.plain (OpenSpec.upto solveBackSpec)) solveBackUptoCard

/-- THE SECOND FORM's CARD OF 'dioptralaw18.HessBrings'. -/
def hessBringsUptoCard : Claim7 := { stood := { row := hessBringsUptoRow, standIns := [], harness := (true, "6383be1f457d2b4f47c7b7bc07a67c574901e66626b9cd53c5dab25cbfee904b"), looks := false }, kinds := [], alts := [], laidByText := true, laidKinds := [.data], laidTests := true, laidLooks := .later }
def HessBringsUptoCardSaid : Prop := Claim7.holds Tryz.pinned (.plain (OpenSpec.upto hessBringsSpec)) hessBringsUptoCard

/-- THE SECOND FORM's CARD OF 'dioptralaw19.SvdUprights'. -/
def svdUprightsUptoCard : Claim7 := { stood := { row := svdUprightsUptoRow, standIns := [], harness := (true, "6383be1f457d2b4f47c7b7bc07a67c574901e66626b9cd53c5dab25cbfee904b"), looks := false }, kinds := [], alts := [], laidByText := true, laidKinds := [.data], laidTests := true, laidLooks := .later }
def SvdUprightsUptoCardSaid : Prop := Claim7.holds Tryz.pinned (.plain (OpenSpec.upto svdUprightsSpec)) svdUprightsUptoCard

/-- THE SECOND FORM's CARD OF 'dioptralaw19.SvdRanks'. -/
def svdRanksUptoCard : Claim7 := { stood := { row := svdRanksUptoRow, standIns := [], harness := (true, "6383be1f457d2b4f47c7b7bc07a67c574901e66626b9cd53c5dab25cbfee904b"), looks := false }, kinds := [], alts := [], laidByText := true, laidKinds := [.data], laidTests := true, laidLooks := .later }
def SvdRanksUptoCardSaid : Prop := Claim7.holds Tryz.pinned (.plain (OpenSpec.upto svdRanksSpec)) svdRanksUptoCard

/-- THE SECOND FORM's CARD OF 'dioptralaw19.SvdRight'. -/
def svdRightUptoCard : Claim7 := { stood := { row := svdRightUptoRow, standIns := [], harness := (true, "6383be1f457d2b4f47c7b7bc07a67c574901e66626b9cd53c5dab25cbfee904b"), looks := false }, kinds := [], alts := [], laidByText := true, laidKinds := [.data], laidTests := true, laidLooks := .later }
def SvdRightUptoCardSaid : Prop := Claim7.holds Tryz.pinned (.plain (OpenSpec.upto svdRightSpec)) svdRightUptoCard

/-- THE SECOND FORM's CARD OF 'dioptralaw19.SvdTurns'. -/
def svdTurnsUptoCard : Claim7 := { stood := { row := svdTurnsUptoRow, standIns := [], harness := (true, "6383be1f457d2b4f47c7b7bc07a67c574901e66626b9cd53c5dab25cbfee904b"), looks := false }, kinds := [], alts := [], laidByText := true, laidKinds := [.data], laidTests := true, laidLooks := .later }
def SvdTurnsUptoCardSaid : Prop := Claim7.holds Tryz.pinned (.plain (OpenSpec.upto svdTurnsSpec)) svdTurnsUptoCard

/-- THE SECOND FORM's CARD OF 'dioptralaw19.SvdPairs'. -/
def svdPairsUptoCard : Claim7 := { stood := { row := svdPairsUptoRow, standIns := [], harness := (true, "6383be1f457d2b4f47c7b7bc07a67c574901e66626b9cd53c5dab25cbfee904b"), looks := false }, kinds := [], alts := [], laidByText := true, laidKinds := [.data], laidTests := true, laidLooks := .later }
def SvdPairsUptoCardSaid : Prop := Claim7.holds Tryz.pinned (.plain (OpenSpec.upto svdPairsSpec)) svdPairsUptoCard

/-- THE SECOND FORM's CARD OF 'dioptralaw19.SvdSizes'. -/
def svdSizesUptoCard : Claim7 := { stood := { row := svdSizesUptoRow, standIns := [], harness := (true, "6383be1f457d2b4f47c7b7bc07a67c574901e66626b9cd53c5dab25cbfee904b"), looks := false }, kinds := [], alts := [], laidByText := true, laidKinds := [.data], laidTests := true, laidLooks := .later }
def SvdSizesUptoCardSaid : Prop := Claim7.holds Tryz.pinned (.plain (OpenSpec.upto svdSizesSpec)) svdSizesUptoCard
end Rows
end Go.Proofs.YtdhmglmccafbnaaGreatDoor
