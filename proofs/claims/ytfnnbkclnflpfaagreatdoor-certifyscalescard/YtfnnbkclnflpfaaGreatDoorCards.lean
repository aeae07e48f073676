/-
  DERIVED. GIVEN WITH THE SEED: THE CARDS: each row of YtfnnbkclnflpfaaGreatDoorRows.lean that lists a variable, with what it lists TIED to the program's text (the seventh form; the later family's looks); each row that meets fmt, with fmt's text TOLD by the authors' own Lean function (tested against real Go, not proved from fmt's source: count such statements apart). THE CARD IS WHAT COUNTS. Prove the row's statement (the work); the ties are given (YtfnnbkclnflpfaaGreatDoorTie.lean); close each card by the builder's one call (the guide's Derived/Test/ToyasCard.lean, 'card_holds'). Laid BY PROGRAM, IN A SANDBOX (cutbox-door.mjs). By AI agents, Wed Nov 11 2026. No macro, syntax, notation, axiom, sorry.
-/
import Derived.Test.YtfnnbkclnflpfaaGreatDoorRows
import GoSem.ClaimSeven
namespace Go.Proofs.YtfnnbkclnflpfaaGreatDoor
namespace Rows

/-- THE TIED CARD OF 'dioptralaw11.CertifySquares'. -/
def certifySquaresCard : Claim7 := { stood := { row := certifySquaresRow, standIns := [], harness := (true, "8881fc0aa9b706f9437fa79fa1ec2b5431ba91fae66468593be04f1aada49384"), looks := false }, kinds := [], alts := [], laidByText := true, laidKinds := [.data], laidTests := true, laidLooks := .later }
def CertifySquaresCardSaid : Prop := Claim7.holds Tryz.pinned (.plain (OpenSpec.ofChange certifySquaresSpec)) certifySquaresCard

/-- THE TIED CARD OF 'dioptralaw11.CertifyResiduals'. -/
def certifyResidualsCard : Claim7 := { stood := { row := certifyResidualsRow, standIns := [], harness := (true, "8881fc0aa9b706f9437fa79fa1ec2b5431ba91fae66468593be04f1aada49384"), looks := false }, kinds := [], alts := [], laidByText := true, laidKinds := [.data], laidTests := true, laidLooks := .later }
def CertifyResidualsCardSaid : Prop := Claim7.holds Tryz.pinned (.plain (OpenSpec.ofChange certifyResidualsSpec)) certifyResidualsCard

/-- THE TIED CARD OF 'dioptralaw11.CertifyWithins'. -/
def certifyWithinsCard : Claim7 := { stood := { row := certifyWithinsRow, standIns := [], harness := (true, "8881fc0aa9b706f9437fa79fa1ec2b5431ba91fae66468593be04f1aada49384"), looks := false }, kinds := [], alts := [], laidByText := true, laidKinds := [.data], laidTests := true, laidLooks := .later }
def CertifyWithinsCardSaid : Prop := Claim7.holds Tryz.pinned (.plain (OpenSpec.ofChange certifyWithinsSpec)) certifyWithinsCard

/-- THE TIED CARD OF 'dioptralaw11.CertifyRanks'. -/
def certifyRanksCard : Claim7 := { stood := { row := certifyRanksRow, standIns := [], harness := (true, "8881fc0aa9b706f9437fa79fa1ec2b5431ba91fae66468593be04f1aada49384"), looks := false }, kinds := [], alts := [], laidByText := true, laidKinds := [.data], laidTests := true, laidLooks := .later }
def CertifyRanksCardSaid : Prop := Claim7.holds Tryz.pinned (.plain (OpenSpec.ofChange certifyRanksSpec)) certifyRanksCard

/-- THE TIED CARD OF 'dioptralaw11.CertifyNoughts'. -/
def certifyNoughtsCard : Claim7 := { stood := { row := certifyNoughtsRow, standIns := [], harness := (true, "8881fc0aa9b706f9437fa79fa1ec2b5431ba91fae66468593be04f1aada49384"), looks := false }, kinds := [], alts := [], laidByText := true, laidKinds := [.data], laidTests := true, laidLooks := .later }
def CertifyNoughtsCardSaid : Prop := Claim7.holds Tryz.pinned (.plain (OpenSpec.ofChange certifyNoughtsSpec)) certifyNoughtsCard

/-- THE TIED CARD OF 'dioptralaw11.CertifyScales'. -/
def certifyScalesCard : Claim7 := { stood := { row := certifyScalesRow, standIns := [], harness := (true, "8881fc0aa9b706f9437fa79fa1ec2b5431ba91fae66468593be04f1aada49384"), looks := false }, kinds := [], alts := [], laidByText := true, laidKinds := [.data], laidTests := true, laidLooks := .later }
def CertifyScalesCardSaid : Prop := Claim7.holds Tryz.pinned (.plain (OpenSpec.ofChange certifyScalesSpec)) certifyScalesCard

/-- THE SECOND FORM's CARD OF 'dioptralaw11.CertifySquares'. -/
def certifySquaresUptoCard : Claim7 := { stood := { row := certifySquaresUptoRow, standIns := [], harness := (true, "8881fc0aa9b706f9437fa79fa1ec2b5431ba91fae66468593be04f1aada49384"), looks := false }, kinds := [], alts := [], laidByText := true, laidKinds := [.data], laidTests := true, laidLooks := .later }
def CertifySquaresUptoCardSaid : Prop := Claim7.holds Tryz.pinned (.plain (OpenSpec.upto certifySquaresSpec)) certifySquaresUptoCard

/-- THE SECOND FORM's CARD OF 'dioptralaw11.CertifyResiduals'. -/
def certifyResidualsUptoCard : Claim7 := { stood := { row := certifyResidualsUptoRow, standIns := [], harness := (true, "8881fc0aa9b706f9437fa79fa1ec2b5431ba91fae66468593be04f1aada49384"), looks := false }, kinds := [], alts := [], laidByText := true, laidKinds := [.data], laidTests := true, laidLooks := .later }
def CertifyResidualsUptoCardSaid : Prop := Claim7.holds Tryz.pinned (.plain (OpenSpec.upto certifyResidualsSpec)) certifyResidualsUptoCard

/-- THE SECOND FORM's CARD OF 'dioptralaw11.CertifyWithins'. -/
def certifyWithinsUptoCard : Claim7 := { stood := { row := certifyWithinsUptoRow, standIns := [], harness := (true, "8881fc0aa9b706f9437fa79fa1ec2b5431ba91fae66468593be04f1aada49384"), looks := false }, kinds := [], alts := [], laidByText := true, laidKinds := [.data], laidTests := true, laidLooks := .later }
def CertifyWithinsUptoCardSaid : Prop := Claim7.holds Tryz.pinned (.plain (OpenSpec.upto certifyWithinsSpec)) certifyWithinsUptoCard

/-- THE SECOND FORM's CARD OF 'dioptralaw11.CertifyRanks'. -/
def certifyRanksUptoCard : Claim7 := { stood := { row := certifyRanksUptoRow, standIns := [], harness := (true, "8881fc0aa9b706f9437fa79fa1ec2b5431ba91fae66468593be04f1aada49384"), looks := false }, kinds := [], alts := [], laidByText := true, laidKinds := [.data], laidTests := true, laidLooks := .later }
def CertifyRanksUptoCardSaid : Prop := Claim7.holds Tryz.pinned (.plain (OpenSpec.upto certifyRanksSpec)) certifyRanksUptoCard

/-- THE SECOND FORM's CARD OF 'dioptralaw11.CertifyNoughts'. -/
def certifyNoughtsUptoCard : Claim7 := { stood := { row := certifyNoughtsUptoRow, standIns := [], harness := (true, "8881fc0aa9b706f9437fa79fa1ec2b5431ba91fae66468593be04f1aada49384"), looks := false }, kinds := [], alts := [], laidByText := true, laidKinds := [.data], laidTests := true, laidLooks := .later }
def CertifyNoughtsUptoCardSaid : Prop := Claim7.holds Tryz.pinned (.plain (OpenSpec.upto certifyNoughtsSpec)) certifyNoughtsUptoCard

/-- THE SECOND FORM's CARD OF 'dioptralaw11.CertifyScales'. -/
def certifyScalesUptoCard : Claim7 := { stood := { row := certifyScalesUptoRow, standIns := [], harness := (true, "8881fc0aa9b706f9437fa79fa1ec2b5431ba91fae66468593be04f1aada49384"), looks := false }, kinds := [], alts := [], laidByText := true, laidKinds := [.data], laidTests := true, laidLooks := .later }
def CertifyScalesUptoCardSaid : Prop := Claim7.holds Tryz.pinned (.plain (OpenSpec.upto certifyScalesSpec)) certifyScalesUptoCard
end Rows
end Go.Proofs.YtfnnbkclnflpfaaGreatDoor
