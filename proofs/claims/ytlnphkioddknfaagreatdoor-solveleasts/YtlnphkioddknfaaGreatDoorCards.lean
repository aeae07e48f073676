/-
  DERIVED. GIVEN WITH THE SEED: THE CARDS: each row of YtlnphkioddknfaaGreatDoorRows.lean that lists a variable, with what it lists TIED to the program's text (the seventh form; the later family's looks); each row that meets fmt, with fmt's text TOLD by the authors' own Lean function (tested against real Go, not proved from fmt's source: count such statements apart). THE CARD IS WHAT COUNTS. Prove the row's statement (the work); the ties are given (YtlnphkioddknfaaGreatDoorTie.lean); close each card by the builder's one call (the guide's Derived/Test/ToyasCard.lean, 'card_holds'). Laid BY PROGRAM, IN A SANDBOX (cutbox-door.mjs). By AI agents, Wed Nov 11 2026. No macro, syntax, notation, axiom, sorry.
-/
import Derived.Test.YtlnphkioddknfaaGreatDoorRows
import GoSem.ClaimSeven
namespace Go.Proofs.YtlnphkioddknfaaGreatDoor
namespace Rows

/-- THE TIED CARD OF 'dioptralaw17.SolveUppers'. -/
def solveUppersCard : Claim7 := { stood := { row := solveUppersRow, standIns := [], harness := (true, "41196a97873526549a8fdfb879d6cc1585467bbc7ddd6b79d0458c1c88087561"), looks := false }, kinds := [], alts := [], laidByText := true, laidKinds := [.data], laidTests := true, laidLooks := .later }
def SolveUppersCardSaid : Prop := Claim7.holds Tryz.pinned (.plain (OpenSpec.ofChange solveUppersSpec)) solveUppersCard

/-- THE TIED CARD OF 'dioptralaw17.SolveLowers'. -/
def solveLowersCard : Claim7 := { stood := { row := solveLowersRow, standIns := [], harness := (true, "41196a97873526549a8fdfb879d6cc1585467bbc7ddd6b79d0458c1c88087561"), looks := false }, kinds := [], alts := [], laidByText := true, laidKinds := [.data], laidTests := true, laidLooks := .later }
def SolveLowersCardSaid : Prop := Claim7.holds Tryz.pinned (.plain (OpenSpec.ofChange solveLowersSpec)) solveLowersCard

/-- THE TIED CARD OF 'dioptralaw17.SolveLeasts'. -/
def solveLeastsCard : Claim7 := { stood := { row := solveLeastsRow, standIns := [], harness := (true, "41196a97873526549a8fdfb879d6cc1585467bbc7ddd6b79d0458c1c88087561"), looks := false }, kinds := [], alts := [], laidByText := true, laidKinds := [.data], laidTests := true, laidLooks := .later }
def SolveLeastsCardSaid : Prop := Claim7.holds Tryz.pinned (.plain (OpenSpec.ofChange solveLeastsSpec)) solveLeastsCard

/-- THE TIED CARD OF 'dioptralaw17.SolveExact'. -/
def solveExactCard : Claim7 := { stood := { row := solveExactRow, standIns := [], harness := (true, "41196a97873526549a8fdfb879d6cc1585467bbc7ddd6b79d0458c1c88087561"), looks := false }, kinds := [], alts := [], laidByText := true, laidKinds := [.data], laidTests := true, laidLooks := .later }
def SolveExactCardSaid : Prop := Claim7.holds Tryz.pinned (.plain (OpenSpec.ofChange solveExactSpec)) solveExactCard

/-- THE TIED CARD OF 'dioptralaw17.SolveUpright'. -/
def solveUprightCard : Claim7 := { stood := { row := solveUprightRow, standIns := [], harness := (true, "41196a97873526549a8fdfb879d6cc1585467bbc7ddd6b79d0458c1c88087561"), looks := false }, kinds := [], alts := [], laidByText := true, laidKinds := [.data], laidTests := true, laidLooks := .later }
def SolveUprightCardSaid : Prop := Claim7.holds Tryz.pinned (.plain (OpenSpec.ofChange solveUprightSpec)) solveUprightCard

/-- THE TIED CARD OF 'dioptralaw17.SolveBack'. -/
def solveBackCard : Claim7 := { stood := { row := solveBackRow, standIns := [], harness := (true, "41196a97873526549a8fdfb879d6cc1585467bbc7ddd6b79d0458c1c88087561"), looks := false }, kinds := [], alts := [], laidByText := true, laidKinds := [.data], laidTests := true, laidLooks := .later }
def SolveBackCardSaid : Prop := Claim7.holds Tryz.pinned (.plain (OpenSpec.ofChange solveBackSpec)) solveBackCard

/-- THE TIED CARD OF 'dioptralaw18.HessBrings'. -/
def hessBringsCard : Claim7 := { stood := { row := hessBringsRow, standIns := [], harness := (true, "41196a97873526549a8fdfb879d6cc1585467bbc7ddd6b79d0458c1c88087561"), looks := false }, kinds := [], alts := [], laidByText := true, laidKinds := [.data], laidTests := true, laidLooks := .later }
def HessBringsCardSaid : Prop := Claim7.holds Tryz.pinned (.plain (OpenSpec.ofChange hessBringsSpec)) hessBringsCard

/-- THE TIED CARD OF 'dioptralaw18.HessZeros'. -/
def hessZerosCard : Claim7 := { stood := { row := hessZerosRow, standIns := [], harness := (true, "41196a97873526549a8fdfb879d6cc1585467bbc7ddd6b79d0458c1c88087561"), looks := false }, kinds := [], alts := [], laidByText := true, laidKinds := [.data], laidTests := true, laidLooks := .later }
def HessZerosCardSaid : Prop := Claim7.holds Tryz.pinned (.plain (OpenSpec.ofChange hessZerosSpec)) hessZerosCard

/-- THE TIED CARD OF 'dioptralaw18.HessInfinite'. -/
def hessInfiniteCard : Claim7 := { stood := { row := hessInfiniteRow, standIns := [], harness := (true, "41196a97873526549a8fdfb879d6cc1585467bbc7ddd6b79d0458c1c88087561"), looks := false }, kinds := [], alts := [], laidByText := true, laidKinds := [.data], laidTests := true, laidLooks := .later }
def HessInfiniteCardSaid : Prop := Claim7.holds Tryz.pinned (.plain (OpenSpec.ofChange hessInfiniteSpec)) hessInfiniteCard

/-- THE SECOND FORM's CARD OF 'dioptralaw17.SolveUppers'. -/
def solveUppersUptoCard : Claim7 := { stood := { row := solveUppersUptoRow, standIns := [], harness := (true, "41196a97873526549a8fdfb879d6cc1585467bbc7ddd6b79d0458c1c88087561"), looks := false }, kinds := [], alts := [], laidByText := true, laidKinds := [.data], laidTests := true, laidLooks := .later }
def SolveUppersUptoCardSaid : Prop := Claim7.holds Tryz.pinned (.plain (OpenSpec.upto solveUppersSpec)) solveUppersUptoCard

/-- THE SECOND FORM's CARD OF 'dioptralaw17.SolveLowers'. -/
def solveLowersUptoCard : Claim7 := { stood := { row := solveLowersUptoRow, standIns := [], harness := (true, "41196a97873526549a8fdfb879d6cc1585467bbc7ddd6b79d0458c1c88087561"), looks := false }, kinds := [], alts := [], laidByText := true, laidKinds := [.data], laidTests := true, laidLooks := .later }
def SolveLowersUptoCardSaid : Prop := Claim7.holds Tryz.pinned (.plain (OpenSpec.upto solveLowersSpec)) solveLowersUptoCard

/-- THE SECOND FORM's CARD OF 'dioptralaw17.SolveLeasts'. -/
def solveLeastsUptoCard : Claim7 := { stood := { row := solveLeastsUptoRow, standIns := [], harness := (true, "41196a97873526549a8fdfb879d6cc1585467bbc7ddd6b79d0458c1c88087561"), looks := false }, kinds := [], alts := [], laidByText := true, laidKinds := [.data], laidTests := true, laidLooks := .later }
def SolveLeastsUptoCardSaid : Prop := Claim7.holds Tryz.pinned (.plain (OpenSpec.upto solveLeastsSpec)) solveLeastsUptoCard

/-- THE SECOND FORM's CARD OF 'dioptralaw17.SolveExact'. -/
def solveExactUptoCard : Claim7 := { stood := { row := solveExactUptoRow, standIns := [], harness := (true, "41196a97873526549a8fdfb879d6cc1585467bbc7ddd6b79d0458c1c88087561"), looks := false }, kinds := [], alts := [], laidByText := true, laidKinds := [.data], laidTests := true, laidLooks := .later }
def SolveExactUptoCardSaid : Prop := Claim7.holds Tryz.pinned (.plain (OpenSpec.upto solveExactSpec)) solveExactUptoCard

/-- THE SECOND FORM's CARD OF 'dioptralaw17.SolveUpright'. -/
def solveUprightUptoCard : Claim7 := { stood := { row := solveUprightUptoRow, standIns := [], harness := (true, "41196a97873526549a8fdfb879d6cc1585467bbc7ddd6b79d0458c1c88087561"), looks := false }, kinds := [], alts := [], laidByText := true, laidKinds := [.data], laidTests := true, laidLooks := .later }
def SolveUprightUptoCardSaid : Prop := Claim7.holds Tryz.pinned (.plain (OpenSpec.upto solveUprightSpec)) solveUprightUptoCard

/-- THE SECOND FORM's CARD OF 'dioptralaw17.SolveBack'. -/
def solveBackUptoCard : Claim7 := { stood := { row := solveBackUptoRow, standIns := [], harness := (true, "41196a97873526549a8fdfb879d6cc1585467bbc7ddd6b79d0458c1c88087561"), looks := false }, kinds := [], alts := [], laidByText := true, laidKinds := [.data], laidTests := true, laidLooks := .later }
def SolveBackUptoCardSaid : Prop := Claim7.holds Tryz.pinned (.plain (OpenSpec.upto solveBackSpec)) solveBackUptoCard

/-- THE SECOND FORM's CARD OF 'dioptralaw18.HessBrings'. -/
def hessBringsUptoCard : Claim7 := { stood := { row := hessBringsUptoRow, standIns := [], harness := (true, "41196a97873526549a8fdfb879d6cc1585467bbc7ddd6b79d0458c1c88087561"), looks := false }, kinds := [], alts := [], laidByText := true, laidKinds := [.data], laidTests := true, laidLooks := .later }
def HessBringsUptoCardSaid : Prop := Claim7.holds Tryz.pinned (.plain (OpenSpec.upto hessBringsSpec)) hessBringsUptoCard

/-- THE SECOND FORM's CARD OF 'dioptralaw18.HessZeros'. -/
def hessZerosUptoCard : Claim7 := { stood := { row := hessZerosUptoRow, standIns := [], harness := (true, "41196a97873526549a8fdfb879d6cc1585467bbc7ddd6b79d0458c1c88087561"), looks := false }, kinds := [], alts := [], laidByText := true, laidKinds := [.data], laidTests := true, laidLooks := .later }
def HessZerosUptoCardSaid : Prop := Claim7.holds Tryz.pinned (.plain (OpenSpec.upto hessZerosSpec)) hessZerosUptoCard

/-- THE SECOND FORM's CARD OF 'dioptralaw18.HessInfinite'. -/
def hessInfiniteUptoCard : Claim7 := { stood := { row := hessInfiniteUptoRow, standIns := [], harness := (true, "41196a97873526549a8fdfb879d6cc1585467bbc7ddd6b79d0458c1c88087561"), looks := false }, kinds := [], alts := [], laidByText := true, laidKinds := [.data], laidTests := true, laidLooks := .later }
def HessInfiniteUptoCardSaid : Prop := Claim7.holds Tryz.pinned (.plain (OpenSpec.upto hessInfiniteSpec)) hessInfiniteUptoCard
end Rows
end Go.Proofs.YtlnphkioddknfaaGreatDoor
