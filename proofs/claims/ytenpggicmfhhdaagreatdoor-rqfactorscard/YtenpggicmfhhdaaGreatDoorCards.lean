/-
  DERIVED. GIVEN WITH THE SEED: THE CARDS: each row of YtenpggicmfhhdaaGreatDoorRows.lean that lists a variable, with what it lists TIED to the program's text (the seventh form; the later family's looks); each row that meets fmt, with fmt's text TOLD by the authors' own Lean function (tested against real Go, not proved from fmt's source: count such statements apart). THE CARD IS WHAT COUNTS. Prove the row's statement (the work); the ties are given (YtenpggicmfhhdaaGreatDoorTie.lean); close each card by the builder's one call (the guide's Derived/Test/ToyasCard.lean, 'card_holds'). Laid BY PROGRAM, IN A SANDBOX (cutbox-door.mjs). By AI agents, Wed Nov 11 2026. No macro, syntax, notation, axiom, sorry.
-/
import Derived.Test.YtenpggicmfhhdaaGreatDoorRows
import GoSem.ClaimSeven
namespace Go.Proofs.YtenpggicmfhhdaaGreatDoor
namespace Rows

/-- THE TIED CARD OF 'dioptralaw15.RqFlips'. -/
def rqFlipsCard : Claim7 := { stood := { row := rqFlipsRow, standIns := [], harness := (true, "af634ee35042733abd91cacaea99fd44ffc91fe8e2b2c1dadb4eba2202fd4a49"), looks := false }, kinds := [], alts := [], laidByText := true, laidKinds := [.data], laidTests := true, laidLooks := .later }
def RqFlipsCardSaid : Prop := Claim7.holds Tryz.pinned (.plain (OpenSpec.ofChange rqFlipsSpec)) rqFlipsCard

/-- THE TIED CARD OF 'dioptralaw15.RqFactors'. -/
def rqFactorsCard : Claim7 := { stood := { row := rqFactorsRow, standIns := [], harness := (true, "af634ee35042733abd91cacaea99fd44ffc91fe8e2b2c1dadb4eba2202fd4a49"), looks := false }, kinds := [], alts := [], laidByText := true, laidKinds := [.data], laidTests := true, laidLooks := .later }
def RqFactorsCardSaid : Prop := Claim7.holds Tryz.pinned (.plain (OpenSpec.ofChange rqFactorsSpec)) rqFactorsCard

/-- THE TIED CARD OF 'dioptralaw15.RqZeros'. -/
def rqZerosCard : Claim7 := { stood := { row := rqZerosRow, standIns := [], harness := (true, "af634ee35042733abd91cacaea99fd44ffc91fe8e2b2c1dadb4eba2202fd4a49"), looks := false }, kinds := [], alts := [], laidByText := true, laidKinds := [.data], laidTests := true, laidLooks := .later }
def RqZerosCardSaid : Prop := Claim7.holds Tryz.pinned (.plain (OpenSpec.ofChange rqZerosSpec)) rqZerosCard

/-- THE SECOND FORM's CARD OF 'dioptralaw15.RqFlips'. -/
def rqFlipsUptoCard : Claim7 := { stood := { row := rqFlipsUptoRow, standIns := [], harness := (true, "af634ee35042733abd91cacaea99fd44ffc91fe8e2b2c1dadb4eba2202fd4a49"), looks := false }, kinds := [], alts := [], laidByText := true, laidKinds := [.data], laidTests := true, laidLooks := .later }
def RqFlipsUptoCardSaid : Prop := Claim7.holds Tryz.pinned (.plain (OpenSpec.upto rqFlipsSpec)) rqFlipsUptoCard

/-- THE SECOND FORM's CARD OF 'dioptralaw15.RqFactors'. -/
def rqFactorsUptoCard : Claim7 := { stood := { row := rqFactorsUptoRow, standIns := [], harness := (true, "af634ee35042733abd91cacaea99fd44ffc91fe8e2b2c1dadb4eba2202fd4a49"), looks := false }, kinds := [], alts := [], laidByText := true, laidKinds := [.data], laidTests := true, laidLooks := .later }
def RqFactorsUptoCardSaid : Prop := Claim7.holds Tryz.pinned (.plain (OpenSpec.upto rqFactorsSpec)) rqFactorsUptoCard

/-- THE SECOND FORM's CARD OF 'dioptralaw15.RqZeros'. -/
def rqZerosUptoCard : Claim7 := { stood := { row := rqZerosUptoRow, standIns := [], harness := (true, "af634ee35042733abd91cacaea99fd44ffc91fe8e2b2c1dadb4eba2202fd4a49"), looks := false }, kinds := [], alts := [], laidByText := true, laidKinds := [.data], laidTests := true, laidLooks := .later }
def RqZerosUptoCardSaid : Prop := Claim7.holds Tryz.pinned (.plain (OpenSpec.upto rqZerosSpec)) rqZerosUptoCard
end Rows
end Go.Proofs.YtenpggicmfhhdaaGreatDoor
