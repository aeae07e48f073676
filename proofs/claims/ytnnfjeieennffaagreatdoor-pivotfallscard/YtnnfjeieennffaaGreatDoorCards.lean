/-
  DERIVED. GIVEN WITH THE SEED: THE CARDS: each row of YtnnfjeieennffaaGreatDoorRows.lean that lists a variable, with what it lists TIED to the program's text (the seventh form; the later family's looks); each row that meets fmt, with fmt's text TOLD by the authors' own Lean function (tested against real Go, not proved from fmt's source: count such statements apart). THE CARD IS WHAT COUNTS. Prove the row's statement (the work); the ties are given (YtnnfjeieennffaaGreatDoorTie.lean); close each card by the builder's one call (the guide's Derived/Test/ToyasCard.lean, 'card_holds'). Laid BY PROGRAM, IN A SANDBOX (cutbox-door.mjs). By AI agents, Wed Nov 11 2026. No macro, syntax, notation, axiom, sorry.
-/
import Derived.Test.YtnnfjeieennffaaGreatDoorRows
import GoSem.ClaimSeven
namespace Go.Proofs.YtnnfjeieennffaaGreatDoor
namespace Rows

/-- THE TIED CARD OF 'dioptralaw16.PivotFactors'. -/
def pivotFactorsCard : Claim7 := { stood := { row := pivotFactorsRow, standIns := [], harness := (true, "de109d04e60b6158c9bacd092366aa6c00e167290a7138d553147ef11f9bc82a"), looks := false }, kinds := [], alts := [], laidByText := true, laidKinds := [.data], laidTests := true, laidLooks := .later }
def PivotFactorsCardSaid : Prop := Claim7.holds Tryz.pinned (.plain (OpenSpec.ofChange pivotFactorsSpec)) pivotFactorsCard

/-- THE TIED CARD OF 'dioptralaw16.PivotTolds'. -/
def pivotToldsCard : Claim7 := { stood := { row := pivotToldsRow, standIns := [], harness := (true, "de109d04e60b6158c9bacd092366aa6c00e167290a7138d553147ef11f9bc82a"), looks := false }, kinds := [], alts := [], laidByText := true, laidKinds := [.data], laidTests := true, laidLooks := .later }
def PivotToldsCardSaid : Prop := Claim7.holds Tryz.pinned (.plain (OpenSpec.ofChange pivotToldsSpec)) pivotToldsCard

/-- THE TIED CARD OF 'dioptralaw16.PivotPlaces'. -/
def pivotPlacesCard : Claim7 := { stood := { row := pivotPlacesRow, standIns := [], harness := (true, "de109d04e60b6158c9bacd092366aa6c00e167290a7138d553147ef11f9bc82a"), looks := false }, kinds := [], alts := [], laidByText := true, laidKinds := [.data], laidTests := true, laidLooks := .later }
def PivotPlacesCardSaid : Prop := Claim7.holds Tryz.pinned (.plain (OpenSpec.ofChange pivotPlacesSpec)) pivotPlacesCard

/-- THE TIED CARD OF 'dioptralaw16.PivotFalls'. -/
def pivotFallsCard : Claim7 := { stood := { row := pivotFallsRow, standIns := [], harness := (true, "de109d04e60b6158c9bacd092366aa6c00e167290a7138d553147ef11f9bc82a"), looks := false }, kinds := [], alts := [], laidByText := true, laidKinds := [.data], laidTests := true, laidLooks := .later }
def PivotFallsCardSaid : Prop := Claim7.holds Tryz.pinned (.plain (OpenSpec.ofChange pivotFallsSpec)) pivotFallsCard

/-- THE TIED CARD OF 'dioptralaw16.PivotWhole'. -/
def pivotWholeCard : Claim7 := { stood := { row := pivotWholeRow, standIns := [], harness := (true, "de109d04e60b6158c9bacd092366aa6c00e167290a7138d553147ef11f9bc82a"), looks := false }, kinds := [], alts := [], laidByText := true, laidKinds := [.data], laidTests := true, laidLooks := .later }
def PivotWholeCardSaid : Prop := Claim7.holds Tryz.pinned (.plain (OpenSpec.ofChange pivotWholeSpec)) pivotWholeCard

/-- THE SECOND FORM's CARD OF 'dioptralaw16.PivotFactors'. -/
def pivotFactorsUptoCard : Claim7 := { stood := { row := pivotFactorsUptoRow, standIns := [], harness := (true, "de109d04e60b6158c9bacd092366aa6c00e167290a7138d553147ef11f9bc82a"), looks := false }, kinds := [], alts := [], laidByText := true, laidKinds := [.data], laidTests := true, laidLooks := .later }
def PivotFactorsUptoCardSaid : Prop := Claim7.holds Tryz.pinned (.plain (OpenSpec.upto pivotFactorsSpec)) pivotFactorsUptoCard

/-- THE SECOND FORM's CARD OF 'dioptralaw16.PivotTolds'. -/
def pivotToldsUptoCard : Claim7 := { stood := { row := pivotToldsUptoRow, standIns := [], harness := (true, "de109d04e60b6158c9bacd092366aa6c00e167290a7138d553147ef11f9bc82a"), looks := false }, kinds := [], alts := [], laidByText := true, laidKinds := [.data], laidTests := true, laidLooks := .later }
def PivotToldsUptoCardSaid : Prop := Claim7.holds Tryz.pinned (.plain (OpenSpec.upto pivotToldsSpec)) pivotToldsUptoCard

/-- THE SECOND FORM's CARD OF 'dioptralaw16.PivotPlaces'. -/
def pivotPlacesUptoCard : Claim7 := { stood := { row := pivotPlacesUptoRow, standIns := [], harness := (true, "de109d04e60b6158c9bacd092366aa6c00e167290a7138d553147ef11f9bc82a"), looks := false }, kinds := [], alts := [], laidByText := true, laidKinds := [.data], laidTests := true, laidLooks := .later }
def PivotPlacesUptoCardSaid : Prop := Claim7.holds Tryz.pinned (.plain (OpenSpec.upto pivotPlacesSpec)) pivotPlacesUptoCard

/-- THE SECOND FORM's CARD OF 'dioptralaw16.PivotFalls'. -/
def pivotFallsUptoCard : Claim7 := { stood := { row := pivotFallsUptoRow, standIns := [], harness := (true, "de109d04e60b6158c9bacd092366aa6c00e167290a7138d553147ef11f9bc82a"), looks := false }, kinds := [], alts := [], laidByText := true, laidKinds := [.data], laidTests := true, laidLooks := .later }
def PivotFallsUptoCardSaid : Prop := Claim7.holds Tryz.pinned (.plain (OpenSpec.upto pivotFallsSpec)) pivotFallsUptoCard

/-- THE SECOND FORM's CARD OF 'dioptralaw16.PivotWhole'. -/
def pivotWholeUptoCard : Claim7 := { stood := { row := pivotWholeUptoRow, standIns := [], harness := (true, "de109d04e60b6158c9bacd092366aa6c00e167290a7138d553147ef11f9bc82a"), looks := false }, kinds := [], alts := [], laidByText := true, laidKinds := [.data], laidTests := true, laidLooks := .later }
def PivotWholeUptoCardSaid : Prop := Claim7.holds Tryz.pinned (.plain (OpenSpec.upto pivotWholeSpec)) pivotWholeUptoCard
end Rows
end Go.Proofs.YtnnfjeieennffaaGreatDoor
