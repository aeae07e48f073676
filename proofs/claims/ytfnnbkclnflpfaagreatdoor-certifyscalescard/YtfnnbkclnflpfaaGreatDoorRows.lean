/-
  NARROWER THAN 'FOR EVERY INPUT', by the rows' own cells (each row's printed sentence says how): CertifySquares: laid · CertifyResiduals: laid · CertifyWithins: laid · CertifyRanks: laid · CertifyNoughts: laid · CertifyScales: laid.
  DERIVED. THE GIVEN ROWS OF THIS SEAT. 6 by the template 'for every input the law returns true; each argument reads behind the call as it read before'; 0 by the template 'total and deterministic' (their statements: YtfnnbkclnflpfaaGreatDoorTotals.lean).
  GIVEN WITH THE SEED: the statements are not yours to turn. If you find one false, say at which input.
  Laid BY PROGRAM, IN A SANDBOX (cutbox-rows.mjs): the forced cells as the released guide's own fill.sh prints them over the translation b0a3862f9d5d7130… (all of the seat's roots in one cut). By AI agents, Wed Nov 11 2026. No macro, syntax, notation, axiom, sorry.
-/
import Derived.Test.YtfnnbkclnflpfaaGreatDoorChecked
import GoSem.Claim
import GoSem.ClaimJoined
import GoSem.ClaimMapViews
import Derived.JoinedTies
import Derived.KernelRfl
namespace Go.Proofs.YtfnnbkclnflpfaaGreatDoor
/- THE CELL 'sum', in the pinned program and in every row, IS THE sha256 OF THE DUMP (.gsa) THAT YtfnnbkclnflpfaaGreatDoorProg.lean LOADS. Nothing in Lean hashes anything: it is a label: what it is worth is what the hold of that sum in a sandbox is worth. -/
noncomputable def Tryz.pinned : Pinned := { name := "ytfnnbkclnflpfaagreatdoor", sum := "b0a3862f9d5d713071c9981b248abf91782e29a262bba0fa93e8c6c0c580aabb", checked := Tryz.checked }
namespace Rows
def none {H : Type} : Left H := { results := [], args := [] }

/- WHAT THE LISTED PACKAGE-LEVEL VARIABLES READ AS WHEN THE CALL BEGINS. Each datum BY PROGRAM (the guide's laid-datum.mjs) off the statement by which the dump's own 'gosem.cut.vars' lays the variable. In a bare row this is a premise. The card (YtfnnbkclnflpfaaGreatDoorCards.lean) ties it to the program's text. -/
def laid_math_bits_deBruijn32tab {H : Type} : DataW H := .agg [.lit (.int .u8 0), .lit (.int .u8 1), .lit (.int .u8 28), .lit (.int .u8 2), .lit (.int .u8 29), .lit (.int .u8 14), .lit (.int .u8 24), .lit (.int .u8 3), .lit (.int .u8 30), .lit (.int .u8 22), .lit (.int .u8 20), .lit (.int .u8 15), .lit (.int .u8 25), .lit (.int .u8 17), .lit (.int .u8 4), .lit (.int .u8 8), .lit (.int .u8 31), .lit (.int .u8 27), .lit (.int .u8 13), .lit (.int .u8 23), .lit (.int .u8 21), .lit (.int .u8 19), .lit (.int .u8 16), .lit (.int .u8 7), .lit (.int .u8 26), .lit (.int .u8 12), .lit (.int .u8 18), .lit (.int .u8 6), .lit (.int .u8 11), .lit (.int .u8 5), .lit (.int .u8 10), .lit (.int .u8 9)]

/-- 'dioptralaw11.CertifySquares': WHATEVER THE INPUT: true; the input reads as it did. -/
def certifySquaresSpec : ChangeSpec := { name := "certifySquares", fn := fun _ => fun
  | [d] => { results := [.lit (.bool true)], args := [d] }
  | _ => none }
def certifySquaresRow : OpenClaim := { program := "ytfnnbkclnflpfaagreatdoor", sum := "b0a3862f9d5d713071c9981b248abf91782e29a262bba0fa93e8c6c0c580aabb", func := "dioptra/dioptralaw11.CertifySquares", spec := "certifySquares", unfollowed := true, recurses := true, named := ["math/bits.deBruijn32tab"], plainKeys := false, apart := false, laid := [("math/bits.deBruijn32tab", laid_math_bits_deBruijn32tab)] }
def CertifySquaresSaid : Prop := certifySquaresRow.holds Tryz.pinned (OpenSpec.ofChange certifySquaresSpec)

/-- ITS FALSE NEIGHBOUR: 'it returns false'. Refute it at one input. -/
def certifySquaresWrong : ChangeSpec := { name := "certifySquares", fn := fun _ => fun
  | [d] => { results := [.lit (.bool false)], args := [d] }
  | _ => none }
def CertifySquaresWrongFalsely : Prop := certifySquaresRow.holds Tryz.pinned (OpenSpec.ofChange certifySquaresWrong)

/-- 'dioptralaw11.CertifyResiduals': WHATEVER THE INPUT: true; the input reads as it did. -/
def certifyResidualsSpec : ChangeSpec := { name := "certifyResiduals", fn := fun _ => fun
  | [d1, d2, d3] => { results := [.lit (.bool true)], args := [d1, d2, d3] }
  | _ => none }
def certifyResidualsRow : OpenClaim := { program := "ytfnnbkclnflpfaagreatdoor", sum := "b0a3862f9d5d713071c9981b248abf91782e29a262bba0fa93e8c6c0c580aabb", func := "dioptra/dioptralaw11.CertifyResiduals", spec := "certifyResiduals", unfollowed := true, recurses := true, named := ["math/bits.deBruijn32tab"], plainKeys := false, apart := false, laid := [("math/bits.deBruijn32tab", laid_math_bits_deBruijn32tab)] }
def CertifyResidualsSaid : Prop := certifyResidualsRow.holds Tryz.pinned (OpenSpec.ofChange certifyResidualsSpec)

/-- ITS FALSE NEIGHBOUR: 'it returns false'. Refute it at one input. -/
def certifyResidualsWrong : ChangeSpec := { name := "certifyResiduals", fn := fun _ => fun
  | [d1, d2, d3] => { results := [.lit (.bool false)], args := [d1, d2, d3] }
  | _ => none }
def CertifyResidualsWrongFalsely : Prop := certifyResidualsRow.holds Tryz.pinned (OpenSpec.ofChange certifyResidualsWrong)

/-- 'dioptralaw11.CertifyWithins': WHATEVER THE INPUT: true; the input reads as it did. -/
def certifyWithinsSpec : ChangeSpec := { name := "certifyWithins", fn := fun _ => fun
  | [d1, d2, d3] => { results := [.lit (.bool true)], args := [d1, d2, d3] }
  | _ => none }
def certifyWithinsRow : OpenClaim := { program := "ytfnnbkclnflpfaagreatdoor", sum := "b0a3862f9d5d713071c9981b248abf91782e29a262bba0fa93e8c6c0c580aabb", func := "dioptra/dioptralaw11.CertifyWithins", spec := "certifyWithins", unfollowed := true, recurses := true, named := ["math/bits.deBruijn32tab"], plainKeys := false, apart := false, laid := [("math/bits.deBruijn32tab", laid_math_bits_deBruijn32tab)] }
def CertifyWithinsSaid : Prop := certifyWithinsRow.holds Tryz.pinned (OpenSpec.ofChange certifyWithinsSpec)

/-- ITS FALSE NEIGHBOUR: 'it returns false'. Refute it at one input. -/
def certifyWithinsWrong : ChangeSpec := { name := "certifyWithins", fn := fun _ => fun
  | [d1, d2, d3] => { results := [.lit (.bool false)], args := [d1, d2, d3] }
  | _ => none }
def CertifyWithinsWrongFalsely : Prop := certifyWithinsRow.holds Tryz.pinned (OpenSpec.ofChange certifyWithinsWrong)

/-- 'dioptralaw11.CertifyRanks': WHATEVER THE INPUT: true; the input reads as it did. -/
def certifyRanksSpec : ChangeSpec := { name := "certifyRanks", fn := fun _ => fun
  | [d] => { results := [.lit (.bool true)], args := [d] }
  | _ => none }
def certifyRanksRow : OpenClaim := { program := "ytfnnbkclnflpfaagreatdoor", sum := "b0a3862f9d5d713071c9981b248abf91782e29a262bba0fa93e8c6c0c580aabb", func := "dioptra/dioptralaw11.CertifyRanks", spec := "certifyRanks", unfollowed := true, recurses := true, named := ["math/bits.deBruijn32tab"], plainKeys := false, apart := false, laid := [("math/bits.deBruijn32tab", laid_math_bits_deBruijn32tab)] }
def CertifyRanksSaid : Prop := certifyRanksRow.holds Tryz.pinned (OpenSpec.ofChange certifyRanksSpec)

/-- ITS FALSE NEIGHBOUR: 'it returns false'. Refute it at one input. -/
def certifyRanksWrong : ChangeSpec := { name := "certifyRanks", fn := fun _ => fun
  | [d] => { results := [.lit (.bool false)], args := [d] }
  | _ => none }
def CertifyRanksWrongFalsely : Prop := certifyRanksRow.holds Tryz.pinned (OpenSpec.ofChange certifyRanksWrong)

/-- 'dioptralaw11.CertifyNoughts': WHATEVER THE INPUT: true; the input reads as it did. -/
def certifyNoughtsSpec : ChangeSpec := { name := "certifyNoughts", fn := fun _ => fun
  | [d] => { results := [.lit (.bool true)], args := [d] }
  | _ => none }
def certifyNoughtsRow : OpenClaim := { program := "ytfnnbkclnflpfaagreatdoor", sum := "b0a3862f9d5d713071c9981b248abf91782e29a262bba0fa93e8c6c0c580aabb", func := "dioptra/dioptralaw11.CertifyNoughts", spec := "certifyNoughts", unfollowed := true, recurses := true, named := ["math/bits.deBruijn32tab"], plainKeys := false, apart := false, laid := [("math/bits.deBruijn32tab", laid_math_bits_deBruijn32tab)] }
def CertifyNoughtsSaid : Prop := certifyNoughtsRow.holds Tryz.pinned (OpenSpec.ofChange certifyNoughtsSpec)

/-- ITS FALSE NEIGHBOUR: 'it returns false'. Refute it at one input. -/
def certifyNoughtsWrong : ChangeSpec := { name := "certifyNoughts", fn := fun _ => fun
  | [d] => { results := [.lit (.bool false)], args := [d] }
  | _ => none }
def CertifyNoughtsWrongFalsely : Prop := certifyNoughtsRow.holds Tryz.pinned (OpenSpec.ofChange certifyNoughtsWrong)

/-- 'dioptralaw11.CertifyScales': WHATEVER THE INPUT: true; the input reads as it did. -/
def certifyScalesSpec : ChangeSpec := { name := "certifyScales", fn := fun _ => fun
  | [d1, d2, d3] => { results := [.lit (.bool true)], args := [d1, d2, d3] }
  | _ => none }
def certifyScalesRow : OpenClaim := { program := "ytfnnbkclnflpfaagreatdoor", sum := "b0a3862f9d5d713071c9981b248abf91782e29a262bba0fa93e8c6c0c580aabb", func := "dioptra/dioptralaw11.CertifyScales", spec := "certifyScales", inPlace := ["math.Float64frombits", "math.Float64bits"], unfollowed := true, recurses := true, named := ["math/bits.deBruijn32tab"], plainKeys := false, apart := false, laid := [("math/bits.deBruijn32tab", laid_math_bits_deBruijn32tab)] }
def CertifyScalesSaid : Prop := certifyScalesRow.holds Tryz.pinned (OpenSpec.ofChange certifyScalesSpec)

/-- ITS FALSE NEIGHBOUR: 'it returns false'. Refute it at one input. -/
def certifyScalesWrong : ChangeSpec := { name := "certifyScales", fn := fun _ => fun
  | [d1, d2, d3] => { results := [.lit (.bool false)], args := [d1, d2, d3] }
  | _ => none }
def CertifyScalesWrongFalsely : Prop := certifyScalesRow.holds Tryz.pinned (OpenSpec.ofChange certifyScalesWrong)

/- THE SECOND FORM. 'bulk': how many values and letters a reading holds, each counted each time it is reached (what is shared counts as often as it is met; a slice's spare places count too). A statement '..UptoSaid' is the law's where the arguments, and the package variables that the reading takes, are together of bulk at most 1048576: NARROWER than '..Said'. Prove '..Said' where nothing that the law and all that it calls make is longer than what came in: it says more and counts as full. Else prove '..UptoSaid'. A law counts once. -/
mutual
def uptoBulk {H : Type} : DataW H → Nat
  | .lit (.string bytes) => bytes.length + 1
  | .lit _ => 1
  | .nil => 1
  | .ptr d => uptoBulk d + 1
  | .slice elems spare => uptoBulkAll elems + uptoBulkAll spare + 1
  | .agg parts => uptoBulkAll parts + 1
  | .iface _ d => uptoBulk d + 1
  | .map entries => uptoBulkEntries entries + 1
  | .held _ => 1
def uptoBulkAll {H : Type} : List (DataW H) → Nat
  | [] => 0
  | d :: r => uptoBulk d + uptoBulkAll r
def uptoBulkEntries {H : Type} : List (Lit × DataW H) → Nat
  | [] => 0
  | x :: r => uptoBulkEntry x + uptoBulkEntries r
def uptoBulkEntry {H : Type} : Lit × DataW H → Nat
  | (.string bytes, d) => bytes.length + uptoBulk d + 1
  | (_, d) => uptoBulk d + 1
 end
def uptoSmall : (H : Type) → List (DataW H) → Bool := fun _ ds => decide (uptoBulkAll ds ≤ 1048576)
def OpenSpec.upto (s : _root_.Go.ChangeSpec) : _root_.Go.OpenSpec := { _root_.Go.OpenSpec.ofChange s with cond := some uptoSmall }

/-- 'dioptralaw11.CertifySquares', WHERE WHAT IT READS IS OF BULK AT MOST 1048576: true; the input reads as it did. -/
def certifySquaresUptoRow : OpenClaim := { program := "ytfnnbkclnflpfaagreatdoor", sum := "b0a3862f9d5d713071c9981b248abf91782e29a262bba0fa93e8c6c0c580aabb", func := "dioptra/dioptralaw11.CertifySquares", spec := "certifySquares", unfollowed := true, recurses := true, named := ["math/bits.deBruijn32tab"], plainKeys := false, apart := false, laid := [("math/bits.deBruijn32tab", laid_math_bits_deBruijn32tab)], narrowed := true }
def CertifySquaresUptoSaid : Prop := certifySquaresUptoRow.holds Tryz.pinned (OpenSpec.upto certifySquaresSpec)

/-- 'dioptralaw11.CertifyResiduals', WHERE WHAT IT READS IS OF BULK AT MOST 1048576: true; the input reads as it did. -/
def certifyResidualsUptoRow : OpenClaim := { program := "ytfnnbkclnflpfaagreatdoor", sum := "b0a3862f9d5d713071c9981b248abf91782e29a262bba0fa93e8c6c0c580aabb", func := "dioptra/dioptralaw11.CertifyResiduals", spec := "certifyResiduals", unfollowed := true, recurses := true, named := ["math/bits.deBruijn32tab"], plainKeys := false, apart := false, laid := [("math/bits.deBruijn32tab", laid_math_bits_deBruijn32tab)], narrowed := true }
def CertifyResidualsUptoSaid : Prop := certifyResidualsUptoRow.holds Tryz.pinned (OpenSpec.upto certifyResidualsSpec)

/-- 'dioptralaw11.CertifyWithins', WHERE WHAT IT READS IS OF BULK AT MOST 1048576: true; the input reads as it did. -/
def certifyWithinsUptoRow : OpenClaim := { program := "ytfnnbkclnflpfaagreatdoor", sum := "b0a3862f9d5d713071c9981b248abf91782e29a262bba0fa93e8c6c0c580aabb", func := "dioptra/dioptralaw11.CertifyWithins", spec := "certifyWithins", unfollowed := true, recurses := true, named := ["math/bits.deBruijn32tab"], plainKeys := false, apart := false, laid := [("math/bits.deBruijn32tab", laid_math_bits_deBruijn32tab)], narrowed := true }
def CertifyWithinsUptoSaid : Prop := certifyWithinsUptoRow.holds Tryz.pinned (OpenSpec.upto certifyWithinsSpec)

/-- 'dioptralaw11.CertifyRanks', WHERE WHAT IT READS IS OF BULK AT MOST 1048576: true; the input reads as it did. -/
def certifyRanksUptoRow : OpenClaim := { program := "ytfnnbkclnflpfaagreatdoor", sum := "b0a3862f9d5d713071c9981b248abf91782e29a262bba0fa93e8c6c0c580aabb", func := "dioptra/dioptralaw11.CertifyRanks", spec := "certifyRanks", unfollowed := true, recurses := true, named := ["math/bits.deBruijn32tab"], plainKeys := false, apart := false, laid := [("math/bits.deBruijn32tab", laid_math_bits_deBruijn32tab)], narrowed := true }
def CertifyRanksUptoSaid : Prop := certifyRanksUptoRow.holds Tryz.pinned (OpenSpec.upto certifyRanksSpec)

/-- 'dioptralaw11.CertifyNoughts', WHERE WHAT IT READS IS OF BULK AT MOST 1048576: true; the input reads as it did. -/
def certifyNoughtsUptoRow : OpenClaim := { program := "ytfnnbkclnflpfaagreatdoor", sum := "b0a3862f9d5d713071c9981b248abf91782e29a262bba0fa93e8c6c0c580aabb", func := "dioptra/dioptralaw11.CertifyNoughts", spec := "certifyNoughts", unfollowed := true, recurses := true, named := ["math/bits.deBruijn32tab"], plainKeys := false, apart := false, laid := [("math/bits.deBruijn32tab", laid_math_bits_deBruijn32tab)], narrowed := true }
def CertifyNoughtsUptoSaid : Prop := certifyNoughtsUptoRow.holds Tryz.pinned (OpenSpec.upto certifyNoughtsSpec)

/-- 'dioptralaw11.CertifyScales', WHERE WHAT IT READS IS OF BULK AT MOST 1048576: true; the input reads as it did. -/
def certifyScalesUptoRow : OpenClaim := { program := "ytfnnbkclnflpfaagreatdoor", sum := "b0a3862f9d5d713071c9981b248abf91782e29a262bba0fa93e8c6c0c580aabb", func := "dioptra/dioptralaw11.CertifyScales", spec := "certifyScales", inPlace := ["math.Float64frombits", "math.Float64bits"], unfollowed := true, recurses := true, named := ["math/bits.deBruijn32tab"], plainKeys := false, apart := false, laid := [("math/bits.deBruijn32tab", laid_math_bits_deBruijn32tab)], narrowed := true }
def CertifyScalesUptoSaid : Prop := certifyScalesUptoRow.holds Tryz.pinned (OpenSpec.upto certifyScalesSpec)

end Rows
end Go.Proofs.YtfnnbkclnflpfaaGreatDoor
