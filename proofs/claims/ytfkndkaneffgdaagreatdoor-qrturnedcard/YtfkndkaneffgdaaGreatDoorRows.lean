/-
  NARROWER THAN 'FOR EVERY INPUT', by the rows' own cells (each row's printed sentence says how): QrFactors: laid · QrThins: laid · QrUpper: laid · QrTurned: laid.
  DERIVED. THE GIVEN ROWS OF THIS SEAT. 4 by the template 'for every input the law returns true; each argument reads behind the call as it read before'; 0 by the template 'total and deterministic' (their statements: YtfkndkaneffgdaaGreatDoorTotals.lean).
  GIVEN WITH THE SEED: the statements are not yours to turn. If you find one false, say at which input.
  Laid BY PROGRAM, IN A SANDBOX (cutbox-rows.mjs): the forced cells as the released guide's own fill.sh prints them over the translation 0ebe35a4d3442851… (all of the seat's roots in one cut). By AI agents, Wed Nov 11 2026. No macro, syntax, notation, axiom, sorry.
-/
import Derived.Test.YtfkndkaneffgdaaGreatDoorChecked
import GoSem.Claim
import GoSem.ClaimJoined
import GoSem.ClaimMapViews
import Derived.JoinedTies
import Derived.KernelRfl
namespace Go.Proofs.YtfkndkaneffgdaaGreatDoor
/- THE CELL 'sum', in the pinned program and in every row, IS THE sha256 OF THE DUMP (.gsa) THAT YtfkndkaneffgdaaGreatDoorProg.lean LOADS. Nothing in Lean hashes anything: it is a label: what it is worth is what the hold of that sum in a sandbox is worth. -/
noncomputable def Tryz.pinned : Pinned := { name := "ytfkndkaneffgdaagreatdoor", sum := "0ebe35a4d3442851fa49e64661f35f87942d1d59f0a487912fa76742bb92004c", checked := Tryz.checked }
namespace Rows
def none {H : Type} : Left H := { results := [], args := [] }

/- WHAT THE LISTED PACKAGE-LEVEL VARIABLES READ AS WHEN THE CALL BEGINS. Each datum BY PROGRAM (the guide's laid-datum.mjs) off the statement by which the dump's own 'gosem.cut.vars' lays the variable. In a bare row this is a premise. The card (YtfkndkaneffgdaaGreatDoorCards.lean) ties it to the program's text. -/
def laid_math_bits_deBruijn32tab {H : Type} : DataW H := .agg [.lit (.int .u8 0), .lit (.int .u8 1), .lit (.int .u8 28), .lit (.int .u8 2), .lit (.int .u8 29), .lit (.int .u8 14), .lit (.int .u8 24), .lit (.int .u8 3), .lit (.int .u8 30), .lit (.int .u8 22), .lit (.int .u8 20), .lit (.int .u8 15), .lit (.int .u8 25), .lit (.int .u8 17), .lit (.int .u8 4), .lit (.int .u8 8), .lit (.int .u8 31), .lit (.int .u8 27), .lit (.int .u8 13), .lit (.int .u8 23), .lit (.int .u8 21), .lit (.int .u8 19), .lit (.int .u8 16), .lit (.int .u8 7), .lit (.int .u8 26), .lit (.int .u8 12), .lit (.int .u8 18), .lit (.int .u8 6), .lit (.int .u8 11), .lit (.int .u8 5), .lit (.int .u8 10), .lit (.int .u8 9)]

/-- 'dioptralaw14.QrFactors': WHATEVER THE INPUT: true; the input reads as it did. -/
def qrFactorsSpec : ChangeSpec := { name := "qrFactors", fn := fun _ => fun
  | [d] => { results := [.lit (.bool true)], args := [d] }
  | _ => none }
def qrFactorsRow : OpenClaim := { program := "ytfkndkaneffgdaagreatdoor", sum := "0ebe35a4d3442851fa49e64661f35f87942d1d59f0a487912fa76742bb92004c", func := "dioptra/dioptralaw14.QrFactors", spec := "qrFactors", inPlace := ["math.Float64frombits", "math.Float64bits", "math.sqrt"], unfollowed := true, recurses := true, named := ["math/bits.deBruijn32tab"], apart := false, laid := [("math/bits.deBruijn32tab", laid_math_bits_deBruijn32tab)] }
def QrFactorsSaid : Prop := qrFactorsRow.holds Tryz.pinned (OpenSpec.ofChange qrFactorsSpec)

/-- ITS FALSE NEIGHBOUR: 'it returns false'. Refute it at one input. -/
def qrFactorsWrong : ChangeSpec := { name := "qrFactors", fn := fun _ => fun
  | [d] => { results := [.lit (.bool false)], args := [d] }
  | _ => none }
def QrFactorsWrongFalsely : Prop := qrFactorsRow.holds Tryz.pinned (OpenSpec.ofChange qrFactorsWrong)

/-- 'dioptralaw14.QrThins': WHATEVER THE INPUT: true; the input reads as it did. -/
def qrThinsSpec : ChangeSpec := { name := "qrThins", fn := fun _ => fun
  | [d] => { results := [.lit (.bool true)], args := [d] }
  | _ => none }
def qrThinsRow : OpenClaim := { program := "ytfkndkaneffgdaagreatdoor", sum := "0ebe35a4d3442851fa49e64661f35f87942d1d59f0a487912fa76742bb92004c", func := "dioptra/dioptralaw14.QrThins", spec := "qrThins", inPlace := ["math.Float64frombits", "math.Float64bits", "math.sqrt"], unfollowed := true, recurses := true, named := ["math/bits.deBruijn32tab"], apart := false, laid := [("math/bits.deBruijn32tab", laid_math_bits_deBruijn32tab)] }
def QrThinsSaid : Prop := qrThinsRow.holds Tryz.pinned (OpenSpec.ofChange qrThinsSpec)

/-- ITS FALSE NEIGHBOUR: 'it returns false'. Refute it at one input. -/
def qrThinsWrong : ChangeSpec := { name := "qrThins", fn := fun _ => fun
  | [d] => { results := [.lit (.bool false)], args := [d] }
  | _ => none }
def QrThinsWrongFalsely : Prop := qrThinsRow.holds Tryz.pinned (OpenSpec.ofChange qrThinsWrong)

/-- 'dioptralaw14.QrUpper': WHATEVER THE INPUT: true; the input reads as it did. -/
def qrUpperSpec : ChangeSpec := { name := "qrUpper", fn := fun _ => fun
  | [d] => { results := [.lit (.bool true)], args := [d] }
  | _ => none }
def qrUpperRow : OpenClaim := { program := "ytfkndkaneffgdaagreatdoor", sum := "0ebe35a4d3442851fa49e64661f35f87942d1d59f0a487912fa76742bb92004c", func := "dioptra/dioptralaw14.QrUpper", spec := "qrUpper", unfollowed := true, recurses := true, named := ["math/bits.deBruijn32tab"], apart := false, laid := [("math/bits.deBruijn32tab", laid_math_bits_deBruijn32tab)] }
def QrUpperSaid : Prop := qrUpperRow.holds Tryz.pinned (OpenSpec.ofChange qrUpperSpec)

/-- ITS FALSE NEIGHBOUR: 'it returns false'. Refute it at one input. -/
def qrUpperWrong : ChangeSpec := { name := "qrUpper", fn := fun _ => fun
  | [d] => { results := [.lit (.bool false)], args := [d] }
  | _ => none }
def QrUpperWrongFalsely : Prop := qrUpperRow.holds Tryz.pinned (OpenSpec.ofChange qrUpperWrong)

/-- 'dioptralaw14.QrTurned': WHATEVER THE INPUT: true; the input reads as it did. -/
def qrTurnedSpec : ChangeSpec := { name := "qrTurned", fn := fun _ => fun
  | [d1, d2] => { results := [.lit (.bool true)], args := [d1, d2] }
  | _ => none }
def qrTurnedRow : OpenClaim := { program := "ytfkndkaneffgdaagreatdoor", sum := "0ebe35a4d3442851fa49e64661f35f87942d1d59f0a487912fa76742bb92004c", func := "dioptra/dioptralaw14.QrTurned", spec := "qrTurned", inPlace := ["math.Float64frombits", "math.Float64bits"], unfollowed := true, recurses := true, named := ["math/bits.deBruijn32tab"], apart := false, laid := [("math/bits.deBruijn32tab", laid_math_bits_deBruijn32tab)] }
def QrTurnedSaid : Prop := qrTurnedRow.holds Tryz.pinned (OpenSpec.ofChange qrTurnedSpec)

/-- ITS FALSE NEIGHBOUR: 'it returns false'. Refute it at one input. -/
def qrTurnedWrong : ChangeSpec := { name := "qrTurned", fn := fun _ => fun
  | [d1, d2] => { results := [.lit (.bool false)], args := [d1, d2] }
  | _ => none }
def QrTurnedWrongFalsely : Prop := qrTurnedRow.holds Tryz.pinned (OpenSpec.ofChange qrTurnedWrong)

/- THE SECOND FORM. 'bulk': how many values and letters a reading holds, each counted each time it is reached (what is shared counts as often as it is met; a slice's spare places count too). A statement '..UptoSaid' is the law's where the arguments, and the package variables that the reading takes, are together of bulk at most 1048576: NARROWER than '..Said'. Prove '..Said' where nothing that the law and all that it calls make is longer than what came in: it says more and counts as full. Else prove '..UptoSaid'. A law counts once. -/
mutual
def uptoBulk {H : Type} : DataW H → Nat
  | .lit (.string bytes) => bytes.length + 1
  | .lit _ => 1
  | .nil => 1
  | .ptr d => uptoBulk d + 1
  | .slice elems spare => uptoBulkAll elems + uptoBulkAll spare + 1
  | .agg parts => uptoBulkAll parts + 1
  | .iface _ d => uptoBulk d + 1
  | .map entries => uptoBulkEntries entries + 1
  | .held _ => 1
def uptoBulkAll {H : Type} : List (DataW H) → Nat
  | [] => 0
  | d :: r => uptoBulk d + uptoBulkAll r
def uptoBulkEntries {H : Type} : List (Lit × DataW H) → Nat
  | [] => 0
  | x :: r => uptoBulkEntry x + uptoBulkEntries r
def uptoBulkEntry {H : Type} : Lit × DataW H → Nat
  | (.string bytes, d) => bytes.length + uptoBulk d + 1
  | (_, d) => uptoBulk d + 1
 end
def uptoSmall : (H : Type) → List (DataW H) → Bool := fun _ ds => decide (uptoBulkAll ds ≤ 1048576)
def OpenSpec.upto (s : _root_.Go.ChangeSpec) : _root_.Go.OpenSpec := { _root_.Go.OpenSpec.ofChange s with cond := some uptoSmall }

/-- 'dioptralaw14.QrFactors', WHERE WHAT IT READS IS OF BULK AT MOST 1048576: true; the input reads as it did. -/
def qrFactorsUptoRow : OpenClaim := { program := "ytfkndkaneffgdaagreatdoor", sum := "0ebe35a4d3442851fa49e64661f35f87942d1d59f0a487912fa76742bb92004c", func := "dioptra/dioptralaw14.QrFactors", spec := "qrFactors", inPlace := ["math.Float64frombits", "math.Float64bits", "math.sqrt"], unfollowed := true, recurses := true, named := ["math/bits.deBruijn32tab"], apart := false, laid := [("math/bits.deBruijn32tab", laid_math_bits_deBruijn32tab)], narrowed := true }
def QrFactorsUptoSaid : Prop := qrFactorsUptoRow.holds Tryz.pinned (OpenSpec.upto qrFactorsSpec)

/-- 'dioptralaw14.QrThins', WHERE WHAT IT READS IS OF BULK AT MOST 1048576: true; the input reads as it did. -/
def qrThinsUptoRow : OpenClaim := { program := "ytfkndkaneffgdaagreatdoor", sum := "0ebe35a4d3442851fa49e64661f35f87942d1d59f0a487912fa76742bb92004c", func := "dioptra/dioptralaw14.QrThins", spec := "qrThins", inPlace := ["math.Float64frombits", "math.Float64bits", "math.sqrt"], unfollowed := true, recurses := true, named := ["math/bits.deBruijn32tab"], apart := false, laid := [("math/bits.deBruijn32tab", laid_math_bits_deBruijn32tab)], narrowed := true }
def QrThinsUptoSaid : Prop := qrThinsUptoRow.holds Tryz.pinned (OpenSpec.upto qrThinsSpec)

/-- 'dioptralaw14.QrUpper', WHERE WHAT IT READS IS OF BULK AT MOST 1048576: true; the input reads as it did. -/
def qrUpperUptoRow : OpenClaim := { program := "ytfkndkaneffgdaagreatdoor", sum := "0ebe35a4d3442851fa49e64661f35f87942d1d59f0a487912fa76742bb92004c", func := "dioptra/dioptralaw14.QrUpper", spec := "qrUpper", unfollowed := true, recurses := true, named := ["math/bits.deBruijn32tab"], apart := false, laid := [("math/bits.deBruijn32tab", laid_math_bits_deBruijn32tab)], narrowed := true }
def QrUpperUptoSaid : Prop := qrUpperUptoRow.holds Tryz.pinned (OpenSpec.upto qrUpperSpec)

/-- 'dioptralaw14.QrTurned', WHERE WHAT IT READS IS OF BULK AT MOST 1048576: true; the input reads as it did. -/
def qrTurnedUptoRow : OpenClaim := { program := "ytfkndkaneffgdaagreatdoor", sum := "0ebe35a4d3442851fa49e64661f35f87942d1d59f0a487912fa76742bb92004c", func := "dioptra/dioptralaw14.QrTurned", spec := "qrTurned", inPlace := ["math.Float64frombits", "math.Float64bits"], unfollowed := true, recurses := true, named := ["math/bits.deBruijn32tab"], apart := false, laid := [("math/bits.deBruijn32tab", laid_math_bits_deBruijn32tab)], narrowed := true }
def QrTurnedUptoSaid : Prop := qrTurnedUptoRow.holds Tryz.pinned (OpenSpec.upto qrTurnedSpec)

end Rows
end Go.Proofs.YtfkndkaneffgdaaGreatDoor
