/-
  DERIVED. GIVEN WITH THE SEED: THE CARDS: each row of YtkmkjeoblkdmnabDoorRows.lean that lists a variable, with what it lists TIED to the program's text (the seventh form; the later family's looks); each row that meets fmt, with fmt's text TOLD by the authors' own Lean function (tested against real Go, not proved from fmt's source: count such statements apart). THE CARD IS WHAT COUNTS. Prove the row's statement (the work); the ties are given (YtkmkjeoblkdmnabDoorTie.lean); close each card by the builder's one call (the guide's Derived/Test/ToyasCard.lean, 'card_holds'). Laid BY PROGRAM, IN A SANDBOX (cutbox-door.mjs). By AI agents, Wed Nov 11 2026. No macro, syntax, notation, axiom, sorry.
-/
import Derived.Test.YtkmkjeoblkdmnabDoorRows
import GoSem.ClaimSeven
namespace Go.Proofs.YtkmkjeoblkdmnabDoor
namespace Rows

/-- THE TIED CARD OF 'dioptralaw04.SoftUp'. -/
def softUpCard : Claim7 := { stood := { row := softUpRow, standIns := [], harness := (true, "ae6ab4fce77928829530e7f0d634148aed81799f1afc71ed6d85981641b3bd79"), looks := false }, kinds := [], alts := [], laidByText := true, laidKinds := [.data], laidTests := true, laidLooks := .later }
def SoftUpCardSaid : Prop := Claim7.holds Tryd.pinned (.plain (OpenSpec.ofChange softUpSpec)) softUpCard

/-- THE SECOND FORM's CARD OF 'dioptralaw04.SoftUp'. -/
def softUpUptoCard : Claim7 := { stood := { row := softUpUptoRow, standIns := [], harness := (true, "ae6ab4fce77928829530e7f0d634148aed81799f1afc71ed6d85981641b3bd79"), looks := false }, kinds := [], alts := [], laidByText := true, laidKinds := [.data], laidTests := true, laidLooks := .later }
def SoftUpUptoCardSaid : Prop := Claim7.holds Tryd.pinned (.plain (OpenSpec.upto softUpSpec)) softUpUptoCard
end Rows
end Go.Proofs.YtkmkjeoblkdmnabDoor
