/-
  DERIVED. GIVEN WITH THE SEED: THE CARDS: each row of YtmpkkhackbpflaaGreatDoorRows.lean that lists a variable, with what it lists TIED to the program's text (the seventh form; the later family's looks); each row that meets fmt, with fmt's text TOLD by the authors' own Lean function (tested against real Go, not proved from fmt's source: count such statements apart). THE CARD IS WHAT COUNTS. Prove the row's statement (the work); the ties are given (YtmpkkhackbpflaaGreatDoorTie.lean); close each card by the builder's one call (the guide's Derived/Test/ToyasCard.lean, 'card_holds'). Laid BY PROGRAM, IN A SANDBOX (cutbox-door.mjs). By AI agents, Wed Nov 11 2026. No macro, syntax, notation, axiom, sorry.
-/
import Derived.Test.YtmpkkhackbpflaaGreatDoorRows
import GoSem.ClaimSeven
namespace Go.Proofs.YtmpkkhackbpflaaGreatDoor
namespace Rows

/-- THE TIED CARD OF 'dioptralaw16.PivotWhole'. -/
def pivotWholeCard : Claim7 := { stood := { row := pivotWholeRow, standIns := [], harness := (true, "17b971bab6c64aa761b75323c17ad5b1c1dfb79cc022ba98ec45b22f39a1b45c"), looks := false }, kinds := [], alts := [], laidByText := true, laidKinds := [.data], laidTests := true, laidLooks := .later }
def PivotWholeCardSaid : Prop := Claim7.holds Tryz.pinned (.plain (OpenSpec.ofChange pivotWholeSpec)) pivotWholeCard

/-- THE TIED CARD OF 'dioptralaw17.SolveUppers'. -/
def solveUppersCard : Claim7 := { stood := { row := solveUppersRow, standIns := [], harness := (true, "17b971bab6c64aa761b75323c17ad5b1c1dfb79cc022ba98ec45b22f39a1b45c"), looks := false }, kinds := [], alts := [], laidByText := true, laidKinds := [.data], laidTests := true, laidLooks := .later }
def SolveUppersCardSaid : Prop := Claim7.holds Tryz.pinned (.plain (OpenSpec.ofChange solveUppersSpec)) solveUppersCard

/-- THE TIED CARD OF 'dioptralaw17.SolveLowers'. -/
def solveLowersCard : Claim7 := { stood := { row := solveLowersRow, standIns := [], harness := (true, "17b971bab6c64aa761b75323c17ad5b1c1dfb79cc022ba98ec45b22f39a1b45c"), looks := false }, kinds := [], alts := [], laidByText := true, laidKinds := [.data], laidTests := true, laidLooks := .later }
def SolveLowersCardSaid : Prop := Claim7.holds Tryz.pinned (.plain (OpenSpec.ofChange solveLowersSpec)) solveLowersCard

/-- THE TIED CARD OF 'dioptralaw17.SolveLeasts'. -/
def solveLeastsCard : Claim7 := { stood := { row := solveLeastsRow, standIns := [], harness := (true, "17b971bab6c64aa761b75323c17ad5b1c1dfb79cc022ba98ec45b22f39a1b45c"), looks := false }, kinds := [], alts := [], laidByText := true, laidKinds := [.data], laidTests := true, laidLooks := .later }
def SolveLeastsCardSaid : Prop := Claim7.holds Tryz.pinned (.plain (OpenSpec.ofChange solveLeastsSpec)) solveLeastsCard

/-- THE TIED CARD OF 'dioptralaw17.SolveExact'. -/
def solveExactCard : Claim7 := { stood := { row := solveExactRow, standIns := [], harness := (true, "17b971bab6c64aa761b75323c17ad5b1c1dfb79cc022ba98ec45b22f39a1b45c"), looks := false }, kinds := [], alts := [], laidByText := true, laidKinds := [.data], laidTests := true, laidLooks := .later }
def SolveExactCardSaid : Prop := Claim7.holds Tryz.pinned (.plain (OpenSpec.ofChange solveExactSpec)) solveExactCard

/-- THE TIED CARD OF 'dioptralaw17.SolveUpright'. -/
def solveUprightCard : Claim7 := { stood := { row := solveUprightRow, standIns := [], harness := (true, "17b971bab6c64aa761b75323c17ad5b1c1dfb79cc022ba98ec45b22f39a1b45c"), looks := false }, kinds := [], alts := [], laidByText := true, laidKinds := [.data], laidTests := true, laidLooks := .later }
def SolveUprightCardSaid : Prop := Claim7.holds Tryz.pinned (.plain (OpenSpec.ofChange solveUprightSpec)) solveUprightCard

/-- THE SECOND FORM's CARD OF 'dioptralaw16.PivotWhole'. -/
def pivotWholeUptoCard : Claim7 := { stood := { row := pivotWholeUptoRow, standIns := [], harness := (true, "17b971bab6c64aa761b75323c17ad5b1c1dfb79cc022ba98ec45b22f39a1b45c"), looks := false }, kinds := [], alts := [], laidByText := true, laidKinds := [.data], laidTests := true, laidLooks := .later }
def PivotWholeUptoCardSaid : Prop := Claim7.holds Tryz.pinned (.plain (OpenSpec.upto pivotWholeSpec)) pivotWholeUptoCard

/-- THE SECOND FORM's CARD OF 'dioptralaw17.SolveUppers'. -/
def solveUppersUptoCard : Claim7 := { stood := { row := solveUppersUptoRow, standIns := [], harness := (true, "17b971bab6c64aa761b75323c17ad5b1c1dfb79cc022ba98ec45b22f39a1b45c"), looks := false }, kinds := [], alts := [], laidByText := true, laidKinds := [.data], laidTests := true, laidLooks := .later }
def SolveUppersUptoCardSaid : Prop := Claim7.holds Tryz.pinned (.plain (OpenSpec.upto solveUppersSpec)) solveUppersUptoCard

/-- THE SECOND FORM's CARD OF 'dioptralaw17.SolveLowers'. -/
def solveLowersUptoCard : Claim7 := { stood := { row := solveLowersUptoRow, standIns := [], harness := (true, "17b971bab6c64aa761b75323c17ad5b1c1dfb79cc022ba98ec45b22f39a1b45c"), looks := false }, kinds := [], alts := [], laidByText := true, laidKinds := [.data], laidTests := true, laidLooks := .later }
def SolveLowersUptoCardSaid : Prop := Claim7.holds Tryz.pinned (.plain (OpenSpec.upto solveLowersSpec)) solveLowersUptoCard

/-- THE SECOND FORM's CARD OF 'dioptralaw17.SolveLeasts'. -/
def solveLeastsUptoCard : Claim7 := { stood := { row := solveLeastsUptoRow, standIns := [], harness := (true, "17b971bab6c64aa761b75323c17ad5b1c1dfb79cc022ba98ec45b22f39a1b45c"), looks := false }, kinds := [], alts := [], laidByText := true, laidKinds := [.data], laidTests := true, laidLooks := .later }
def SolveLeastsUptoCardSaid : Prop := Claim7.holds Tryz.pinned (.plain (OpenSpec.upto solveLeastsSpec)) solveLeastsUptoCard

/-- THE SECOND FORM's CARD OF 'dioptralaw17.SolveExact'. -/
def solveExactUptoCard : Claim7 := { stood := { row := solveExactUptoRow, standIns := [], harness := (true, "17b971bab6c64aa761b75323c17ad5b1c1dfb79cc022ba98ec45b22f39a1b45c"), looks := false }, kinds := [], alts := [], laidByText := true, laidKinds := [.data], laidTests := true, laidLooks := .later }
def SolveExactUptoCardSaid : Prop := Claim7.holds Tryz.pinned (.plain (OpenSpec.upto solveExactSpec)) solveExactUptoCard

/-- THE SECOND FORM's CARD OF 'dioptralaw17.SolveUpright'. -/
def solveUprightUptoCard : Claim7 := { stood := { row := solveUprightUptoRow, standIns := [], harness := (true, "17b971bab6c64aa761b75323c17ad5b1c1dfb79cc022ba98ec45b22f39a1b45c"), looks := false }, kinds := [], alts := [], laidByText := true, laidKinds := [.data], laidTests := true, laidLooks := .later }
def SolveUprightUptoCardSaid : Prop := Claim7.holds Tryz.pinned (.plain (OpenSpec.upto solveUprightSpec)) solveUprightUptoCard
end Rows
end Go.Proofs.YtmpkkhackbpflaaGreatDoor
