/-
  DERIVED. GIVEN WITH THE SEED: THE CARDS: each row of YtenckfflpdgmnabDoorRows.lean that lists a variable, with what it lists TIED to the program's text (the seventh form; the later family's looks); each row that meets fmt, with fmt's text TOLD by the authors' own Lean function (tested against real Go, not proved from fmt's source: count such statements apart). THE CARD IS WHAT COUNTS. Prove the row's statement (the work); the ties are given (YtenckfflpdgmnabDoorTie.lean); close each card by the builder's one call (the guide's Derived/Test/ToyasCard.lean, 'card_holds'). Laid BY PROGRAM, IN A SANDBOX (cutbox-door.mjs). By AI agents, Wed Nov 11 2026. No macro, syntax, notation, axiom, sorry.
-/
import Derived.Test.YtenckfflpdgmnabDoorRows
import GoSem.ClaimSeven
namespace Go.Proofs.YtenckfflpdgmnabDoor
namespace Rows

/-- THE TIED CARD OF 'dioptralaw05.SumAlls'. -/
def sumAllsCard : Claim7 := { stood := { row := sumAllsRow, standIns := [], harness := (true, "177eaa1e193da5b7c899ae1ef6687f57e7dba16a90ab3899a018c89370655b00"), looks := false }, kinds := [], alts := [], laidByText := true, laidKinds := [.data], laidTests := true, laidLooks := .later }
def SumAllsCardSaid : Prop := Claim7.holds Tryd.pinned (.plain (OpenSpec.ofChange sumAllsSpec)) sumAllsCard

/-- THE SECOND FORM's CARD OF 'dioptralaw05.SumAlls'. -/
def sumAllsUptoCard : Claim7 := { stood := { row := sumAllsUptoRow, standIns := [], harness := (true, "177eaa1e193da5b7c899ae1ef6687f57e7dba16a90ab3899a018c89370655b00"), looks := false }, kinds := [], alts := [], laidByText := true, laidKinds := [.data], laidTests := true, laidLooks := .later }
def SumAllsUptoCardSaid : Prop := Claim7.holds Tryd.pinned (.plain (OpenSpec.upto sumAllsSpec)) sumAllsUptoCard
end Rows
end Go.Proofs.YtenckfflpdgmnabDoor
