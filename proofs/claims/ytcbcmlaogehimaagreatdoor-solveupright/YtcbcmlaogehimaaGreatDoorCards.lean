/-
  DERIVED. GIVEN WITH THE SEED: THE CARDS: each row of YtcbcmlaogehimaaGreatDoorRows.lean that lists a variable, with what it lists TIED to the program's text (the seventh form; the later family's looks); each row that meets fmt, with fmt's text TOLD by the authors' own Lean function (tested against real Go, not proved from fmt's source: count such statements apart). THE CARD IS WHAT COUNTS. Prove the row's statement (the work); the ties are given (YtcbcmlaogehimaaGreatDoorTie.lean); close each card by the builder's one call (the guide's Derived/Test/ToyasCard.lean, 'card_holds'). Laid BY PROGRAM, IN A SANDBOX (cutbox-door.mjs). By AI agents, Wed Nov 11 2026. No macro, syntax, notation, axiom, sorry.
-/
import Derived.Test.YtcbcmlaogehimaaGreatDoorRows
import GoSem.ClaimSeven
namespace Go.Proofs.YtcbcmlaogehimaaGreatDoor
namespace Rows

/-- THE TIED CARD OF 'dioptralaw17.SolveUpright'. -/
def solveUprightCard : Claim7 := { stood := { row := solveUprightRow, standIns := [], harness := (true, "c1a4c1334c5852dfdbbd0c7ee59d597d5fbdaf5be43cc3e65700c66e0ddef4c9"), looks := false }, kinds := [], alts := [], laidByText := true, laidKinds := [.data], laidTests := true, laidLooks := .later }
def SolveUprightCardSaid : Prop := Claim7.holds Tryz.pinned (.plain (OpenSpec.ofChange solveUprightSpec)) solveUprightCard

/-- THE TIED CARD OF 'dioptralaw19.SvdRight'. -/
def svdRightCard : Claim7 := { stood := { row := svdRightRow, standIns := [], harness := (true, "c1a4c1334c5852dfdbbd0c7ee59d597d5fbdaf5be43cc3e65700c66e0ddef4c9"), looks := false }, kinds := [], alts := [], laidByText := true, laidKinds := [.data], laidTests := true, laidLooks := .later }
def SvdRightCardSaid : Prop := Claim7.holds Tryz.pinned (.plain (OpenSpec.ofChange svdRightSpec)) svdRightCard

/-- THE TIED CARD OF 'dioptralaw19.SvdTurns'. -/
def svdTurnsCard : Claim7 := { stood := { row := svdTurnsRow, standIns := [], harness := (true, "c1a4c1334c5852dfdbbd0c7ee59d597d5fbdaf5be43cc3e65700c66e0ddef4c9"), looks := false }, kinds := [], alts := [], laidByText := true, laidKinds := [.data], laidTests := true, laidLooks := .later }
def SvdTurnsCardSaid : Prop := Claim7.holds Tryz.pinned (.plain (OpenSpec.ofChange svdTurnsSpec)) svdTurnsCard

/-- THE TIED CARD OF 'dioptralaw19.SvdPairs'. -/
def svdPairsCard : Claim7 := { stood := { row := svdPairsRow, standIns := [], harness := (true, "c1a4c1334c5852dfdbbd0c7ee59d597d5fbdaf5be43cc3e65700c66e0ddef4c9"), looks := false }, kinds := [], alts := [], laidByText := true, laidKinds := [.data], laidTests := true, laidLooks := .later }
def SvdPairsCardSaid : Prop := Claim7.holds Tryz.pinned (.plain (OpenSpec.ofChange svdPairsSpec)) svdPairsCard

/-- THE TIED CARD OF 'dioptralaw20.LseChecks'. -/
def lseChecksCard : Claim7 := { stood := { row := lseChecksRow, standIns := [], harness := (true, "c1a4c1334c5852dfdbbd0c7ee59d597d5fbdaf5be43cc3e65700c66e0ddef4c9"), looks := false }, kinds := [], alts := [], laidByText := true, laidKinds := [.data], laidTests := true, laidLooks := .later }
def LseChecksCardSaid : Prop := Claim7.holds Tryz.pinned (.plain (OpenSpec.ofChange lseChecksSpec)) lseChecksCard

/-- THE TIED CARD OF 'dioptralaw20.LseSolves'. -/
def lseSolvesCard : Claim7 := { stood := { row := lseSolvesRow, standIns := [], harness := (true, "c1a4c1334c5852dfdbbd0c7ee59d597d5fbdaf5be43cc3e65700c66e0ddef4c9"), looks := false }, kinds := [], alts := [], laidByText := true, laidKinds := [.data], laidTests := true, laidLooks := .later }
def LseSolvesCardSaid : Prop := Claim7.holds Tryz.pinned (.plain (OpenSpec.ofChange lseSolvesSpec)) lseSolvesCard

/-- THE TIED CARD OF 'dioptralaw20.LseHolds'. -/
def lseHoldsCard : Claim7 := { stood := { row := lseHoldsRow, standIns := [], harness := (true, "c1a4c1334c5852dfdbbd0c7ee59d597d5fbdaf5be43cc3e65700c66e0ddef4c9"), looks := false }, kinds := [], alts := [], laidByText := true, laidKinds := [.data], laidTests := true, laidLooks := .later }
def LseHoldsCardSaid : Prop := Claim7.holds Tryz.pinned (.plain (OpenSpec.ofChange lseHoldsSpec)) lseHoldsCard

/-- THE TIED CARD OF 'dioptralaw20.LseFree'. -/
def lseFreeCard : Claim7 := { stood := { row := lseFreeRow, standIns := [], harness := (true, "c1a4c1334c5852dfdbbd0c7ee59d597d5fbdaf5be43cc3e65700c66e0ddef4c9"), looks := false }, kinds := [], alts := [], laidByText := true, laidKinds := [.data], laidTests := true, laidLooks := .later }
def LseFreeCardSaid : Prop := Claim7.holds Tryz.pinned (.plain (OpenSpec.ofChange lseFreeSpec)) lseFreeCard

/-- THE TIED CARD OF 'dioptralaw20.LseBound'. -/
def lseBoundCard : Claim7 := { stood := { row := lseBoundRow, standIns := [], harness := (true, "c1a4c1334c5852dfdbbd0c7ee59d597d5fbdaf5be43cc3e65700c66e0ddef4c9"), looks := false }, kinds := [], alts := [], laidByText := true, laidKinds := [.data], laidTests := true, laidLooks := .later }
def LseBoundCardSaid : Prop := Claim7.holds Tryz.pinned (.plain (OpenSpec.ofChange lseBoundSpec)) lseBoundCard

/-- THE TIED CARD OF 'dioptralaw20.LseExact'. -/
def lseExactCard : Claim7 := { stood := { row := lseExactRow, standIns := [], harness := (true, "c1a4c1334c5852dfdbbd0c7ee59d597d5fbdaf5be43cc3e65700c66e0ddef4c9"), looks := false }, kinds := [], alts := [], laidByText := true, laidKinds := [.data], laidTests := true, laidLooks := .later }
def LseExactCardSaid : Prop := Claim7.holds Tryz.pinned (.plain (OpenSpec.ofChange lseExactSpec)) lseExactCard

/-- THE SECOND FORM's CARD OF 'dioptralaw17.SolveUpright'. -/
def solveUprightUptoCard : Claim7 := { stood := { row := solveUprightUptoRow, standIns := [], harness := (true, "c1a4c1334c5852dfdbbd0c7ee59d597d5fbdaf5be43cc3e65700c66e0ddef4c9"), looks := false }, kinds := [], alts := [], laidByText := true, laidKinds := [.data], laidTests := true, laidLooks := .later }
def SolveUprightUptoCardSaid : Prop := Claim7.holds Tryz.pinned (.plain (OpenSpec.upto solveUprightSpec)) solveUprightUptoCard

/-- THE SECOND FORM's CARD OF 'dioptralaw19.SvdRight'. -/
def svdRightUptoCard : Claim7 := { stood := { row := svdRightUptoRow, standIns := [], harness := (true, "c1a4c1334c5852dfdbbd0c7ee59d597d5fbdaf5be43cc3e65700c66e0ddef4c9"), looks := false }, kinds := [], alts := [], laidByText := true, laidKinds := [.data], laidTests := true, laidLooks := .later }
def SvdRightUptoCardSaid : Prop := Claim7.holds Tryz.pinned (.plain (OpenSpec.upto svdRightSpec)) svdRightUptoCard

/-- THE SECOND FORM's CARD OF 'dioptralaw19.SvdTurns'. -/
def svdTurnsUptoCard : Claim7 := { stood := { row := svdTurnsUptoRow, standIns := [], harness := (true, "c1a4c1334c5852dfdbbd0c7ee59d597d5fbdaf5be43cc3e65700c66e0ddef4c9"), looks := false }, kinds := [], alts := [], laidByText := true, laidKinds := [.data], laidTests := true, laidLooks := .later }
def SvdTurnsUptoCardSaid : Prop := Claim7.holds Tryz.pinned (.plain (OpenSpec.upto svdTurnsSpec)) svdTurnsUptoCard

/-- THE SECOND FORM's CARD OF 'dioptralaw19.SvdPairs'. -/
def svdPairsUptoCard : Claim7 := { stood := { row := svdPairsUptoRow, standIns := [], harness := (true, "c1a4c1334c5852dfdbbd0c7ee59d597d5fbdaf5be43cc3e65700c66e0ddef4c9"), looks := false }, kinds := [], alts := [], laidByText := true, laidKinds := [.data], laidTests := true, laidLooks := .later }
def SvdPairsUptoCardSaid : Prop := Claim7.holds Tryz.pinned (.plain (OpenSpec.upto svdPairsSpec)) svdPairsUptoCard

/-- THE SECOND FORM's CARD OF 'dioptralaw20.LseChecks'. -/
def lseChecksUptoCard : Claim7 := { stood := { row := lseChecksUptoRow, standIns := [], harness := (true, "c1a4c1334c5852dfdbbd0c7ee59d597d5fbdaf5be43cc3e65700c66e0ddef4c9"), looks := false }, kinds := [], alts := [], laidByText := true, laidKinds := [.data], laidTests := true, laidLooks := .later }
def LseChecksUptoCardSaid : Prop := Claim7.holds Tryz.pinned (.plain (OpenSpec.upto lseChecksSpec)) lseChecksUptoCard

/-- THE SECOND FORM's CARD OF 'dioptralaw20.LseSolves'. -/
def lseSolvesUptoCard : Claim7 := { stood := { row := lseSolvesUptoRow, standIns := [], harness := (true, "c1a4c1334c5852dfdbbd0c7ee59d597d5fbdaf5be43cc3e65700c66e0ddef4c9"), looks := false }, kinds := [], alts := [], laidByText := true, laidKinds := [.data], laidTests := true, laidLooks := .later }
def LseSolvesUptoCardSaid : Prop := Claim7.holds Tryz.pinned (.plain (OpenSpec.upto lseSolvesSpec)) lseSolvesUptoCard

/-- THE SECOND FORM's CARD OF 'dioptralaw20.LseHolds'. -/
def lseHoldsUptoCard : Claim7 := { stood := { row := lseHoldsUptoRow, standIns := [], harness := (true, "c1a4c1334c5852dfdbbd0c7ee59d597d5fbdaf5be43cc3e65700c66e0ddef4c9"), looks := false }, kinds := [], alts := [], laidByText := true, laidKinds := [.data], laidTests := true, laidLooks := .later }
def LseHoldsUptoCardSaid : Prop := Claim7.holds Tryz.pinned (.plain (OpenSpec.upto lseHoldsSpec)) lseHoldsUptoCard

/-- THE SECOND FORM's CARD OF 'dioptralaw20.LseFree'. -/
def lseFreeUptoCard : Claim7 := { stood := { row := lseFreeUptoRow, standIns := [], harness := (true, "c1a4c1334c5852dfdbbd0c7ee59d597d5fbdaf5be43cc3e65700c66e0ddef4c9"), looks := false }, kinds := [], alts := [], laidByText := true, laidKinds := [.data], laidTests := true, laidLooks := .later }
def LseFreeUptoCardSaid : Prop := Claim7.holds Tryz.pinned (.plain (OpenSpec.upto lseFreeSpec)) lseFreeUptoCard

/-- THE SECOND FORM's CARD OF 'dioptralaw20.LseBound'. -/
def lseBoundUptoCard : Claim7 := { stood := { row := lseBoundUptoRow, standIns := [], harness := (true, "c1a4c1334c5852dfdbbd0c7ee59d597d5fbdaf5be43cc3e65700c66e0ddef4c9"), looks := false }, kinds := [], alts := [], laidByText := true, laidKinds := [.data], laidTests := true, laidLooks := .later }
def LseBoundUptoCardSaid : Prop := Claim7.holds Tryz.pinned (.plain (OpenSpec.upto lseBoundSpec)) lseBoundUptoCard

/-- THE SECOND FORM's CARD OF 'dioptralaw20.LseExact'. -/
def lseExactUptoCard : Claim7 := { stood := { row := lseExactUptoRow, standIns := [], harness := (true, "c1a4c1334c5852dfdbbd0c7ee59d597d5fbdaf5be43cc3e65700c66e0ddef4c9"), looks := false }, kinds := [], alts := [], laidByText := true, laidKinds := [.data], laidTests := true, laidLooks := .later }
def LseExactUptoCardSaid : Prop := Claim7.holds Tryz.pinned (.plain (OpenSpec.upto lseExactSpec)) lseExactUptoCard
end Rows
end Go.Proofs.YtcbcmlaogehimaaGreatDoor
