/-
  NARROWER THAN 'FOR EVERY INPUT', by the rows' own cells (each row's printed sentence says how): SolveUpright: laid · SvdRight: laid · SvdTurns: laid · SvdPairs: laid · LseChecks: laid · LseSolves: laid · LseHolds: laid · LseFree: laid · LseBound: laid · LseExact: laid.
  DERIVED. THE GIVEN ROWS OF THIS SEAT. 10 by the template 'for every input the law returns true; each argument reads behind the call as it read before'; 0 by the template 'total and deterministic' (their statements: YtcbcmlaogehimaaGreatDoorTotals.lean).
  GIVEN WITH THE SEED: the statements are not yours to turn. If you find one false, say at which input.
  Laid BY PROGRAM, IN A SANDBOX (cutbox-rows.mjs): the forced cells as the released guide's own fill.sh prints them over the translation edd9db71995325a2… (all of the seat's roots in one cut). By AI agents, Wed Nov 11 2026. No macro, syntax, notation, axiom, sorry.
-/
import Derived.Test.YtcbcmlaogehimaaGreatDoorChecked
import GoSem.Claim
import GoSem.ClaimJoined
import GoSem.ClaimMapViews
import Derived.JoinedTies
import Derived.KernelRfl
namespace Go.Proofs.YtcbcmlaogehimaaGreatDoor
/- THE CELL 'sum', in the pinned program and in every row, IS THE sha256 OF THE DUMP (.gsa) THAT YtcbcmlaogehimaaGreatDoorProg.lean LOADS. Nothing in Lean hashes anything: it is a label: what it is worth is what the hold of that sum in a sandbox is worth. -/
noncomputable def Tryz.pinned : Pinned := { name := "ytcbcmlaogehimaagreatdoor", sum := "edd9db71995325a2001415ebf611d12d1575f4b854c71439e3e5aa376b590611", checked := Tryz.checked }
namespace Rows
def none {H : Type} : Left H := { results := [], args := [] }

/- WHAT THE LISTED PACKAGE-LEVEL VARIABLES READ AS WHEN THE CALL BEGINS. Each datum BY PROGRAM (the guide's laid-datum.mjs) off the statement by which the dump's own 'gosem.cut.vars' lays the variable. In a bare row this is a premise. The card (YtcbcmlaogehimaaGreatDoorCards.lean) ties it to the program's text. -/
def laid_math_bits_deBruijn32tab {H : Type} : DataW H := .agg [.lit (.int .u8 0), .lit (.int .u8 1), .lit (.int .u8 28), .lit (.int .u8 2), .lit (.int .u8 29), .lit (.int .u8 14), .lit (.int .u8 24), .lit (.int .u8 3), .lit (.int .u8 30), .lit (.int .u8 22), .lit (.int .u8 20), .lit (.int .u8 15), .lit (.int .u8 25), .lit (.int .u8 17), .lit (.int .u8 4), .lit (.int .u8 8), .lit (.int .u8 31), .lit (.int .u8 27), .lit (.int .u8 13), .lit (.int .u8 23), .lit (.int .u8 21), .lit (.int .u8 19), .lit (.int .u8 16), .lit (.int .u8 7), .lit (.int .u8 26), .lit (.int .u8 12), .lit (.int .u8 18), .lit (.int .u8 6), .lit (.int .u8 11), .lit (.int .u8 5), .lit (.int .u8 10), .lit (.int .u8 9)]

/-- 'dioptralaw17.SolveUpright': WHATEVER THE INPUT: true; the input reads as it did. -/
def solveUprightSpec : ChangeSpec := { name := "solveUpright", fn := fun _ => fun
  | [d1, d2] => { results := [.lit (.bool true)], args := [d1, d2] }
  | _ => none }
def solveUprightRow : OpenClaim := { program := "ytcbcmlaogehimaagreatdoor", sum := "edd9db71995325a2001415ebf611d12d1575f4b854c71439e3e5aa376b590611", func := "dioptra/dioptralaw17.SolveUpright", spec := "solveUpright", unfollowed := true, recurses := true, named := ["math/bits.deBruijn32tab"], apart := false, laid := [("math/bits.deBruijn32tab", laid_math_bits_deBruijn32tab)] }
def SolveUprightSaid : Prop := solveUprightRow.holds Tryz.pinned (OpenSpec.ofChange solveUprightSpec)

/-- ITS FALSE NEIGHBOUR: 'it returns false'. Refute it at one input. -/
def solveUprightWrong : ChangeSpec := { name := "solveUpright", fn := fun _ => fun
  | [d1, d2] => { results := [.lit (.bool false)], args := [d1, d2] }
  | _ => none }
def SolveUprightWrongFalsely : Prop := solveUprightRow.holds Tryz.pinned (OpenSpec.ofChange solveUprightWrong)

/-- 'dioptralaw19.SvdRight': WHATEVER THE INPUT: true; the input reads as it did. -/
def svdRightSpec : ChangeSpec := { name := "svdRight", fn := fun _ => fun
  | [d] => { results := [.lit (.bool true)], args := [d] }
  | _ => none }
def svdRightRow : OpenClaim := { program := "ytcbcmlaogehimaagreatdoor", sum := "edd9db71995325a2001415ebf611d12d1575f4b854c71439e3e5aa376b590611", func := "dioptra/dioptralaw19.SvdRight", spec := "svdRight", unfollowed := true, recurses := true, named := ["math/bits.deBruijn32tab"], apart := false, laid := [("math/bits.deBruijn32tab", laid_math_bits_deBruijn32tab)] }
def SvdRightSaid : Prop := svdRightRow.holds Tryz.pinned (OpenSpec.ofChange svdRightSpec)

/-- ITS FALSE NEIGHBOUR: 'it returns false'. Refute it at one input. -/
def svdRightWrong : ChangeSpec := { name := "svdRight", fn := fun _ => fun
  | [d] => { results := [.lit (.bool false)], args := [d] }
  | _ => none }
def SvdRightWrongFalsely : Prop := svdRightRow.holds Tryz.pinned (OpenSpec.ofChange svdRightWrong)

/-- 'dioptralaw19.SvdTurns': WHATEVER THE INPUT: true; the input reads as it did. -/
def svdTurnsSpec : ChangeSpec := { name := "svdTurns", fn := fun _ => fun
  | [d] => { results := [.lit (.bool true)], args := [d] }
  | _ => none }
def svdTurnsRow : OpenClaim := { program := "ytcbcmlaogehimaagreatdoor", sum := "edd9db71995325a2001415ebf611d12d1575f4b854c71439e3e5aa376b590611", func := "dioptra/dioptralaw19.SvdTurns", spec := "svdTurns", unfollowed := true, recurses := true, named := ["math/bits.deBruijn32tab"], apart := false, laid := [("math/bits.deBruijn32tab", laid_math_bits_deBruijn32tab)] }
def SvdTurnsSaid : Prop := svdTurnsRow.holds Tryz.pinned (OpenSpec.ofChange svdTurnsSpec)

/-- ITS FALSE NEIGHBOUR: 'it returns false'. Refute it at one input. -/
def svdTurnsWrong : ChangeSpec := { name := "svdTurns", fn := fun _ => fun
  | [d] => { results := [.lit (.bool false)], args := [d] }
  | _ => none }
def SvdTurnsWrongFalsely : Prop := svdTurnsRow.holds Tryz.pinned (OpenSpec.ofChange svdTurnsWrong)

/-- 'dioptralaw19.SvdPairs': WHATEVER THE INPUT: true; the input reads as it did. -/
def svdPairsSpec : ChangeSpec := { name := "svdPairs", fn := fun _ => fun
  | [d] => { results := [.lit (.bool true)], args := [d] }
  | _ => none }
def svdPairsRow : OpenClaim := { program := "ytcbcmlaogehimaagreatdoor", sum := "edd9db71995325a2001415ebf611d12d1575f4b854c71439e3e5aa376b590611", func := "dioptra/dioptralaw19.SvdPairs", spec := "svdPairs", unfollowed := true, recurses := true, named := ["math/bits.deBruijn32tab"], apart := false, laid := [("math/bits.deBruijn32tab", laid_math_bits_deBruijn32tab)] }
def SvdPairsSaid : Prop := svdPairsRow.holds Tryz.pinned (OpenSpec.ofChange svdPairsSpec)

/-- ITS FALSE NEIGHBOUR: 'it returns false'. Refute it at one input. -/
def svdPairsWrong : ChangeSpec := { name := "svdPairs", fn := fun _ => fun
  | [d] => { results := [.lit (.bool false)], args := [d] }
  | _ => none }
def SvdPairsWrongFalsely : Prop := svdPairsRow.holds Tryz.pinned (OpenSpec.ofChange svdPairsWrong)

/-- 'dioptralaw20.LseChecks': WHATEVER THE INPUT: true; the input reads as it did. -/
def lseChecksSpec : ChangeSpec := { name := "lseChecks", fn := fun _ => fun
  | [d] => { results := [.lit (.bool true)], args := [d] }
  | _ => none }
def lseChecksRow : OpenClaim := { program := "ytcbcmlaogehimaagreatdoor", sum := "edd9db71995325a2001415ebf611d12d1575f4b854c71439e3e5aa376b590611", func := "dioptra/dioptralaw20.LseChecks", spec := "lseChecks", unfollowed := true, recurses := true, named := ["math/bits.deBruijn32tab"], apart := false, laid := [("math/bits.deBruijn32tab", laid_math_bits_deBruijn32tab)] }
def LseChecksSaid : Prop := lseChecksRow.holds Tryz.pinned (OpenSpec.ofChange lseChecksSpec)

/-- ITS FALSE NEIGHBOUR: 'it returns false'. Refute it at one input. -/
def lseChecksWrong : ChangeSpec := { name := "lseChecks", fn := fun _ => fun
  | [d] => { results := [.lit (.bool false)], args := [d] }
  | _ => none }
def LseChecksWrongFalsely : Prop := lseChecksRow.holds Tryz.pinned (OpenSpec.ofChange lseChecksWrong)

/-- 'dioptralaw20.LseSolves': WHATEVER THE INPUT: true; the input reads as it did. -/
def lseSolvesSpec : ChangeSpec := { name := "lseSolves", fn := fun _ => fun
  | [d] => { results := [.lit (.bool true)], args := [d] }
  | _ => none }
def lseSolvesRow : OpenClaim := { program := "ytcbcmlaogehimaagreatdoor", sum := "edd9db71995325a2001415ebf611d12d1575f4b854c71439e3e5aa376b590611", func := "dioptra/dioptralaw20.LseSolves", spec := "lseSolves", inPlace := ["math.Float64frombits", "math.Float64bits", "math.sqrt"], unfollowed := true, recurses := true, named := ["math/bits.deBruijn32tab"], apart := false, laid := [("math/bits.deBruijn32tab", laid_math_bits_deBruijn32tab)] }
def LseSolvesSaid : Prop := lseSolvesRow.holds Tryz.pinned (OpenSpec.ofChange lseSolvesSpec)

/-- ITS FALSE NEIGHBOUR: 'it returns false'. Refute it at one input. -/
def lseSolvesWrong : ChangeSpec := { name := "lseSolves", fn := fun _ => fun
  | [d] => { results := [.lit (.bool false)], args := [d] }
  | _ => none }
def LseSolvesWrongFalsely : Prop := lseSolvesRow.holds Tryz.pinned (OpenSpec.ofChange lseSolvesWrong)

/-- 'dioptralaw20.LseHolds': WHATEVER THE INPUT: true; the input reads as it did. -/
def lseHoldsSpec : ChangeSpec := { name := "lseHolds", fn := fun _ => fun
  | [d] => { results := [.lit (.bool true)], args := [d] }
  | _ => none }
def lseHoldsRow : OpenClaim := { program := "ytcbcmlaogehimaagreatdoor", sum := "edd9db71995325a2001415ebf611d12d1575f4b854c71439e3e5aa376b590611", func := "dioptra/dioptralaw20.LseHolds", spec := "lseHolds", unfollowed := true, recurses := true, named := ["math/bits.deBruijn32tab"], apart := false, laid := [("math/bits.deBruijn32tab", laid_math_bits_deBruijn32tab)] }
def LseHoldsSaid : Prop := lseHoldsRow.holds Tryz.pinned (OpenSpec.ofChange lseHoldsSpec)

/-- ITS FALSE NEIGHBOUR: 'it returns false'. Refute it at one input. -/
def lseHoldsWrong : ChangeSpec := { name := "lseHolds", fn := fun _ => fun
  | [d] => { results := [.lit (.bool false)], args := [d] }
  | _ => none }
def LseHoldsWrongFalsely : Prop := lseHoldsRow.holds Tryz.pinned (OpenSpec.ofChange lseHoldsWrong)

/-- 'dioptralaw20.LseFree': WHATEVER THE INPUT: true; the input reads as it did. -/
def lseFreeSpec : ChangeSpec := { name := "lseFree", fn := fun _ => fun
  | [d1, d2] => { results := [.lit (.bool true)], args := [d1, d2] }
  | _ => none }
def lseFreeRow : OpenClaim := { program := "ytcbcmlaogehimaagreatdoor", sum := "edd9db71995325a2001415ebf611d12d1575f4b854c71439e3e5aa376b590611", func := "dioptra/dioptralaw20.LseFree", spec := "lseFree", inPlace := ["math.Float64frombits", "math.Float64bits", "math.sqrt"], unfollowed := true, recurses := true, named := ["math/bits.deBruijn32tab"], apart := false, laid := [("math/bits.deBruijn32tab", laid_math_bits_deBruijn32tab)] }
def LseFreeSaid : Prop := lseFreeRow.holds Tryz.pinned (OpenSpec.ofChange lseFreeSpec)

/-- ITS FALSE NEIGHBOUR: 'it returns false'. Refute it at one input. -/
def lseFreeWrong : ChangeSpec := { name := "lseFree", fn := fun _ => fun
  | [d1, d2] => { results := [.lit (.bool false)], args := [d1, d2] }
  | _ => none }
def LseFreeWrongFalsely : Prop := lseFreeRow.holds Tryz.pinned (OpenSpec.ofChange lseFreeWrong)

/-- 'dioptralaw20.LseBound': WHATEVER THE INPUT: true; the input reads as it did. -/
def lseBoundSpec : ChangeSpec := { name := "lseBound", fn := fun _ => fun
  | [d1, d2, d3] => { results := [.lit (.bool true)], args := [d1, d2, d3] }
  | _ => none }
def lseBoundRow : OpenClaim := { program := "ytcbcmlaogehimaagreatdoor", sum := "edd9db71995325a2001415ebf611d12d1575f4b854c71439e3e5aa376b590611", func := "dioptra/dioptralaw20.LseBound", spec := "lseBound", unfollowed := true, recurses := true, named := ["math/bits.deBruijn32tab"], apart := false, laid := [("math/bits.deBruijn32tab", laid_math_bits_deBruijn32tab)] }
def LseBoundSaid : Prop := lseBoundRow.holds Tryz.pinned (OpenSpec.ofChange lseBoundSpec)

/-- ITS FALSE NEIGHBOUR: 'it returns false'. Refute it at one input. -/
def lseBoundWrong : ChangeSpec := { name := "lseBound", fn := fun _ => fun
  | [d1, d2, d3] => { results := [.lit (.bool false)], args := [d1, d2, d3] }
  | _ => none }
def LseBoundWrongFalsely : Prop := lseBoundRow.holds Tryz.pinned (OpenSpec.ofChange lseBoundWrong)

/-- 'dioptralaw20.LseExact': WHATEVER THE INPUT: true; the input reads as it did. -/
def lseExactSpec : ChangeSpec := { name := "lseExact", fn := fun _ => fun
  | [d1, d2, d3] => { results := [.lit (.bool true)], args := [d1, d2, d3] }
  | _ => none }
def lseExactRow : OpenClaim := { program := "ytcbcmlaogehimaagreatdoor", sum := "edd9db71995325a2001415ebf611d12d1575f4b854c71439e3e5aa376b590611", func := "dioptra/dioptralaw20.LseExact", spec := "lseExact", unfollowed := true, recurses := true, named := ["math/bits.deBruijn32tab"], apart := false, laid := [("math/bits.deBruijn32tab", laid_math_bits_deBruijn32tab)] }
def LseExactSaid : Prop := lseExactRow.holds Tryz.pinned (OpenSpec.ofChange lseExactSpec)

/-- ITS FALSE NEIGHBOUR: 'it returns false'. Refute it at one input. -/
def lseExactWrong : ChangeSpec := { name := "lseExact", fn := fun _ => fun
  | [d1, d2, d3] => { results := [.lit (.bool false)], args := [d1, d2, d3] }
  | _ => none }
def LseExactWrongFalsely : Prop := lseExactRow.holds Tryz.pinned (OpenSpec.ofChange lseExactWrong)

/- THE SECOND FORM. 'bulk': how many values and letters a reading holds, each counted each time it is reached (what is shared counts as often as it is met; a slice's spare places count too). A statement '..UptoSaid' is the law's where the arguments, and the package variables that the reading takes, are together of bulk at most 1048576: NARROWER than '..Said'. Prove '..Said' where nothing that the law and all that it calls make is longer than what came in: it says more and counts as full. Else prove '..UptoSaid'. A law counts once. -/
mutual
def uptoBulk {H : Type} : DataW H → Nat
  | .lit (.string bytes) => bytes.length + 1
  | .lit _ => 1
  | .nil => 1
  | .ptr d => uptoBulk d + 1
  | .slice elems spare => uptoBulkAll elems + uptoBulkAll spare + 1
  | .agg parts => uptoBulkAll parts + 1
  | .iface _ d => uptoBulk d + 1
  | .map entries => uptoBulkEntries entries + 1
  | .held _ => 1
def uptoBulkAll {H : Type} : List (DataW H) → Nat
  | [] => 0
  | d :: r => uptoBulk d + uptoBulkAll r
def uptoBulkEntries {H : Type} : List (Lit × DataW H) → Nat
  | [] => 0
  | x :: r => uptoBulkEntry x + uptoBulkEntries r
def uptoBulkEntry {H : Type} : Lit × DataW H → Nat
  | (.string bytes, d) => bytes.length + uptoBulk d + 1
  | (_, d) => uptoBulk d + 1
 end
def uptoSmall : (H : Type) → List (DataW H) → Bool := fun _ ds => decide (uptoBulkAll ds ≤ 1048576)
def OpenSpec.upto (s : _root_.Go.ChangeSpec) : _root_.Go.OpenSpec := { _root_.Go.OpenSpec.ofChange s with cond := some uptoSmall }

/-- 'dioptralaw17.SolveUpright', WHERE WHAT IT READS IS OF BULK AT MOST 1048576: true; the input reads as it did. -/
def solveUprightUptoRow : OpenClaim := { program := "ytcbcmlaogehimaagreatdoor", sum := "edd9db71995325a2001415ebf611d12d1575f4b854c71439e3e5aa376b590611", func := "dioptra/dioptralaw17.SolveUpright", spec := "solveUpright", unfollowed := true, recurses := true, named := ["math/bits.deBruijn32tab"], apart := false, laid := [("math/bits.deBruijn32tab", laid_math_bits_deBruijn32tab)], narrowed := true }
def SolveUprightUptoSaid : Prop := solveUprightUptoRow.holds Tryz.pinned (OpenSpec.upto solveUprightSpec)

/-- 'dioptralaw19.SvdRight', WHERE WHAT IT READS IS OF BULK AT MOST 1048576: true; the input reads as it did. -/
def svdRightUptoRow : OpenClaim := { program := "ytcbcmlaogehimaagreatdoor", sum := "edd9db71995325a2001415ebf611d12d1575f4b854c71439e3e5aa376b590611", func := "dioptra/dioptralaw19.SvdRight", spec := "svdRight", unfollowed := true, recurses := true, named := ["math/bits.deBruijn32tab"], apart := false, laid := [("math/bits.deBruijn32tab", laid_math_bits_deBruijn32tab)], narrowed := true }
def SvdRightUptoSaid : Prop := svdRightUptoRow.holds Tryz.pinned (OpenSpec.upto svdRightSpec)

/-- 'dioptralaw19.SvdTurns', WHERE WHAT IT READS IS OF BULK AT MOST 1048576: true; the input reads as it did. -/
def svdTurnsUptoRow : OpenClaim := { program := "ytcbcmlaogehimaagreatdoor", sum := "edd9db71995325a2001415ebf611d12d1575f4b854c71439e3e5aa376b590611", func := "dioptra/dioptralaw19.SvdTurns", spec := "svdTurns", unfollowed := true, recurses := true, named := ["math/bits.deBruijn32tab"], apart := false, laid := [("math/bits.deBruijn32tab", laid_math_bits_deBruijn32tab)], narrowed := true }
def SvdTurnsUptoSaid : Prop := svdTurnsUptoRow.holds Tryz.pinned (OpenSpec.upto svdTurnsSpec)

/-- 'dioptralaw19.SvdPairs', WHERE WHAT IT READS IS OF BULK AT MOST 1048576: true; the input reads as it did. -/
def svdPairsUptoRow : OpenClaim := { program := "ytcbcmlaogehimaagreatdoor", sum := "edd9db71995325a2001415ebf611d12d1575f4b854c71439e3e5aa376b590611", func := "dioptra/dioptralaw19.SvdPairs", spec := "svdPairs", unfollowed := true, recurses := true, named := ["math/bits.deBruijn32tab"], apart := false, laid := [("math/bits.deBruijn32tab", laid_math_bits_deBruijn32tab)], narrowed := true }
def SvdPairsUptoSaid : Prop := svdPairsUptoRow.holds Tryz.pinned (OpenSpec.upto svdPairsSpec)

/-- 'dioptralaw20.LseChecks', WHERE WHAT IT READS IS OF BULK AT MOST 1048576: true; the input reads as it did. -/
def lseChecksUptoRow : OpenClaim := { program := "ytcbcmlaogehimaagreatdoor", sum := "edd9db71995325a2001415ebf611d12d1575f4b854c71439e3e5aa376b590611", func := "dioptra/dioptralaw20.LseChecks", spec := "lseChecks", unfollowed := true, recurses := true, named := ["math/bits.deBruijn32tab"], apart := false, laid := [("math/bits.deBruijn32tab", laid_math_bits_deBruijn32tab)], narrowed := true }
def LseChecksUptoSaid : Prop := lseChecksUptoRow.holds Tryz.pinned (OpenSpec.upto lseChecksSpec)

/-- 'dioptralaw20.LseSolves', WHERE WHAT IT READS IS OF BULK AT MOST 1048576: true; the input reads as it did. -/
def lseSolvesUptoRow : OpenClaim := { program := "ytcbcmlaogehimaagreatdoor", sum := "edd9db71995325a2001415ebf611d12d1575f4b854c71439e3e5aa376b590611", func := "dioptra/dioptralaw20.LseSolves", spec := "lseSolves", inPlace := ["math.Float64frombits", "math.Float64bits", "math.sqrt"], unfollowed := true, recurses := true, named := ["math/bits.deBruijn32tab"], apart := false, laid := [("math/bits.deBruijn32tab", laid_math_bits_deBruijn32tab)], narrowed := true }
def LseSolvesUptoSaid : Prop := lseSolvesUptoRow.holds Tryz.pinned (OpenSpec.upto lseSolvesSpec)

/-- 'dioptralaw20.LseHolds', WHERE WHAT IT READS IS OF BULK AT MOST 1048576: true; the input reads as it did. -/
def lseHoldsUptoRow : OpenClaim := { program := "ytcbcmlaogehimaagreatdoor", sum := "edd9db71995325a2001415ebf611d12d1575f4b854c71439e3e5aa376b590611", func := "dioptra/dioptralaw20.LseHolds", spec := "lseHolds", unfollowed := true, recurses := true, named := ["math/bits.deBruijn32tab"], apart := false, laid := [("math/bits.deBruijn32tab", laid_math_bits_deBruijn32tab)], narrowed := true }
def LseHoldsUptoSaid : Prop := lseHoldsUptoRow.holds Tryz.pinned (OpenSpec.upto lseHoldsSpec)

/-- 'dioptralaw20.LseFree', WHERE WHAT IT READS IS OF BULK AT MOST 1048576: true; the input reads as it did. -/
def lseFreeUptoRow : OpenClaim := { program := "ytcbcmlaogehimaagreatdoor", sum := "edd9db71995325a2001415ebf611d12d1575f4b854c71439e3e5aa376b590611", func := "dioptra/dioptralaw20.LseFree", spec := "lseFree", inPlace := ["math.Float64frombits", "math.Float64bits", "math.sqrt"], unfollowed := true, recurses := true, named := ["math/bits.deBruijn32tab"], apart := false, laid := [("math/bits.deBruijn32tab", laid_math_bits_deBruijn32tab)], narrowed := true }
def LseFreeUptoSaid : Prop := lseFreeUptoRow.holds Tryz.pinned (OpenSpec.upto lseFreeSpec)

/-- 'dioptralaw20.LseBound', WHERE WHAT IT READS IS OF BULK AT MOST 1048576: true; the input reads as it did. -/
def lseBoundUptoRow : OpenClaim := { program := "ytcbcmlaogehimaagreatdoor", sum := "edd9db71995325a2001415ebf611d12d1575f4b854c71439e3e5aa376b590611", func := "dioptra/dioptralaw20.LseBound", spec := "lseBound", unfollowed := true, recurses := true, named := ["math/bits.deBruijn32tab"], apart := false, laid := [("math/bits.deBruijn32tab", laid_math_bits_deBruijn32tab)], narrowed := true }
def LseBoundUptoSaid : Prop := lseBoundUptoRow.holds Tryz.pinned (OpenSpec.upto lseBoundSpec)

/-- 'dioptralaw20.LseExact', WHERE WHAT IT READS IS OF BULK AT MOST 1048576: true; the input reads as it did. -/
def lseExactUptoRow : OpenClaim := { program := "ytcbcmlaogehimaagreatdoor", sum := "edd9db71995325a2001415ebf611d12d1575f4b854c71439e3e5aa376b590611", func := "dioptra/dioptralaw20.LseExact", spec := "lseExact", unfollowed := true, recurses := true, named := ["math/bits.deBruijn32tab"], apart := false, laid := [("math/bits.deBruijn32tab", laid_math_bits_deBruijn32tab)], narrowed := true }
def LseExactUptoSaid : Prop := lseExactUptoRow.holds Tryz.pinned (OpenSpec.upto lseExactSpec)

end Rows
end Go.Proofs.YtcbcmlaogehimaaGreatDoor
