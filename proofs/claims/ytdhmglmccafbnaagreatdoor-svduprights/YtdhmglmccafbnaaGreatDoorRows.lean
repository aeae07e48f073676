/-
  NARROWER THAN 'FOR EVERY INPUT', by the rows' own cells (each row's printed sentence says how): SolveExact: laid · SolveUpright: laid · SolveBack: laid · HessBrings: laid · SvdUprights: laid · SvdRanks: laid · SvdRight: laid · SvdTurns: laid · SvdPairs: laid · SvdSizes: laid.
  DERIVED. THE GIVEN ROWS OF THIS SEAT. 10 by the template 'for every input the law returns true; each argument reads behind the call as it read before'; 0 by the template 'total and deterministic' (their statements: YtdhmglmccafbnaaGreatDoorTotals.lean).
  GIVEN WITH THE SEED: the statements are not yours to turn. If you find one false, say at which input.
  Laid BY PROGRAM, IN A SANDBOX (cutbox-rows.mjs): the forced cells as the released guide's own fill.sh prints them over the translation 134f9c89dc00a80f… (all of the seat's roots in one cut). By AI agents, Wed Nov 11 2026. No macro, syntax, notation, axiom, sorry.
-/
import Derived.Test.YtdhmglmccafbnaaGreatDoorChecked
import GoSem.Claim
import GoSem.ClaimJoined
import GoSem.ClaimMapViews
import Derived.JoinedTies
import Derived.KernelRfl
namespace Go.Proofs.YtdhmglmccafbnaaGreatDoor
/- THE CELL 'sum', in the pinned program and in every row, IS THE sha256 OF THE DUMP (.gsa) THAT YtdhmglmccafbnaaGreatDoorProg.lean LOADS. Nothing in Lean hashes anything: it is a label: what it is worth is what the hold of that sum in a sandbox is worth. -/
noncomputable def Tryz.pinned : Pinned := { name := "ytdhmglmccafbnaagreatdoor", sum := "134f9c89dc00a80f3da79714d68b9a168b936eb0448e20d81b4e46d942c7a062", checked := Tryz.checked }
namespace Rows
def none {H : Type} : Left H := { results := [], args := [] }

/- WHAT THE LISTED PACKAGE-LEVEL VARIABLES READ AS WHEN THE CALL BEGINS. Each datum BY PROGRAM (the guide's laid-datum.mjs) off the statement by which the dump's own 'gosem.cut.vars' lays the variable. In a bare row this is a premise. The card (YtdhmglmccafbnaaGreatDoorCards.lean) ties it to the program's text. -/
def laid_math_bits_deBruijn32tab {H : Type} : DataW H := .agg [.lit (.int .u8 0), .lit (.int .u8 1), .lit (.int .u8 28), .lit (.int .u8 2), .lit (.int .u8 29), .lit (.int .u8 14), .lit (.int .u8 24), .lit (.int .u8 3), .lit (.int .u8 30), .lit (.int .u8 22), .lit (.int .u8 20), .lit (.int .u8 15), .lit (.int .u8 25), .lit (.int .u8 17), .lit (.int .u8 4), .lit (.int .u8 8), .lit (.int .u8 31), .lit (.int .u8 27), .lit (.int .u8 13), .lit (.int .u8 23), .lit (.int .u8 21), .lit (.int .u8 19), .lit (.int .u8 16), .lit (.int .u8 7), .lit (.int .u8 26), .lit (.int .u8 12), .lit (.int .u8 18), .lit (.int .u8 6), .lit (.int .u8 11), .lit (.int .u8 5), .lit (.int .u8 10), .lit (.int .u8 9)]

/-- 'dioptralaw17.SolveExact': WHATEVER THE INPUT: true; the input reads as it did. -/
def solveExactSpec : ChangeSpec := { name := "solveExact", fn := fun _ => fun
  | [d1, d2, d3] => { results := [.lit (.bool true)], args := [d1, d2, d3] }
  | _ => none }
def solveExactRow : OpenClaim := { program := "ytdhmglmccafbnaagreatdoor", sum := "134f9c89dc00a80f3da79714d68b9a168b936eb0448e20d81b4e46d942c7a062", func := "dioptra/dioptralaw17.SolveExact", spec := "solveExact", inPlace := ["math.Float64bits"], unfollowed := true, recurses := true, named := ["math/bits.deBruijn32tab"], apart := false, laid := [("math/bits.deBruijn32tab", laid_math_bits_deBruijn32tab)] }
def SolveExactSaid : Prop := solveExactRow.holds Tryz.pinned (OpenSpec.ofChange solveExactSpec)

/-- ITS FALSE NEIGHBOUR: 'it returns false'. Refute it at one input. -/
def solveExactWrong : ChangeSpec := { name := "solveExact", fn := fun _ => fun
  | [d1, d2, d3] => { results := [.lit (.bool false)], args := [d1, d2, d3] }
  | _ => none }
def SolveExactWrongFalsely : Prop := solveExactRow.holds Tryz.pinned (OpenSpec.ofChange solveExactWrong)

/-- 'dioptralaw17.SolveUpright': WHATEVER THE INPUT: true; the input reads as it did. -/
def solveUprightSpec : ChangeSpec := { name := "solveUpright", fn := fun _ => fun
  | [d1, d2] => { results := [.lit (.bool true)], args := [d1, d2] }
  | _ => none }
def solveUprightRow : OpenClaim := { program := "ytdhmglmccafbnaagreatdoor", sum := "134f9c89dc00a80f3da79714d68b9a168b936eb0448e20d81b4e46d942c7a062", func := "dioptra/dioptralaw17.SolveUpright", spec := "solveUpright", unfollowed := true, recurses := true, named := ["math/bits.deBruijn32tab"], apart := false, laid := [("math/bits.deBruijn32tab", laid_math_bits_deBruijn32tab)] }
def SolveUprightSaid : Prop := solveUprightRow.holds Tryz.pinned (OpenSpec.ofChange solveUprightSpec)

/-- ITS FALSE NEIGHBOUR: 'it returns false'. Refute it at one input. -/
def solveUprightWrong : ChangeSpec := { name := "solveUpright", fn := fun _ => fun
  | [d1, d2] => { results := [.lit (.bool false)], args := [d1, d2] }
  | _ => none }
def SolveUprightWrongFalsely : Prop := solveUprightRow.holds Tryz.pinned (OpenSpec.ofChange solveUprightWrong)

/-- 'dioptralaw17.SolveBack': WHATEVER THE INPUT: true; the input reads as it did. -/
def solveBackSpec : ChangeSpec := { name := "solveBack", fn := fun _ => fun
  | [d1, d2, d3] => { results := [.lit (.bool true)], args := [d1, d2, d3] }
  | _ => none }
def solveBackRow : OpenClaim := { program := "ytdhmglmccafbnaagreatdoor", sum := "134f9c89dc00a80f3da79714d68b9a168b936eb0448e20d81b4e46d942c7a062", func := "dioptra/dioptralaw17.SolveBack", spec := "solveBack", inPlace := ["math.Float64bits", "math.Float64frombits"], unfollowed := true, recurses := true, named := ["math/bits.deBruijn32tab"], apart := false, laid := [("math/bits.deBruijn32tab", laid_math_bits_deBruijn32tab)] }
def SolveBackSaid : Prop := solveBackRow.holds Tryz.pinned (OpenSpec.ofChange solveBackSpec)

/-- ITS FALSE NEIGHBOUR: 'it returns false'. Refute it at one input. -/
def solveBackWrong : ChangeSpec := { name := "solveBack", fn := fun _ => fun
  | [d1, d2, d3] => { results := [.lit (.bool false)], args := [d1, d2, d3] }
  | _ => none }
def SolveBackWrongFalsely : Prop := solveBackRow.holds Tryz.pinned (OpenSpec.ofChange solveBackWrong)

/-- 'dioptralaw18.HessBrings': WHATEVER THE INPUT: true; the input reads as it did. -/
def hessBringsSpec : ChangeSpec := { name := "hessBrings", fn := fun _ => fun
  | [d1, d2] => { results := [.lit (.bool true)], args := [d1, d2] }
  | _ => none }
def hessBringsRow : OpenClaim := { program := "ytdhmglmccafbnaagreatdoor", sum := "134f9c89dc00a80f3da79714d68b9a168b936eb0448e20d81b4e46d942c7a062", func := "dioptra/dioptralaw18.HessBrings", spec := "hessBrings", inPlace := ["math.Float64frombits", "math.Float64bits", "math.sqrt"], unfollowed := true, recurses := true, named := ["math/bits.deBruijn32tab"], apart := false, laid := [("math/bits.deBruijn32tab", laid_math_bits_deBruijn32tab)] }
def HessBringsSaid : Prop := hessBringsRow.holds Tryz.pinned (OpenSpec.ofChange hessBringsSpec)

/-- ITS FALSE NEIGHBOUR: 'it returns false'. Refute it at one input. -/
def hessBringsWrong : ChangeSpec := { name := "hessBrings", fn := fun _ => fun
  | [d1, d2] => { results := [.lit (.bool false)], args := [d1, d2] }
  | _ => none }
def HessBringsWrongFalsely : Prop := hessBringsRow.holds Tryz.pinned (OpenSpec.ofChange hessBringsWrong)

/-- 'dioptralaw19.SvdUprights': WHATEVER THE INPUT: true; the input reads as it did. -/
def svdUprightsSpec : ChangeSpec := { name := "svdUprights", fn := fun _ => fun
  | [d] => { results := [.lit (.bool true)], args := [d] }
  | _ => none }
def svdUprightsRow : OpenClaim := { program := "ytdhmglmccafbnaagreatdoor", sum := "134f9c89dc00a80f3da79714d68b9a168b936eb0448e20d81b4e46d942c7a062", func := "dioptra/dioptralaw19.SvdUprights", spec := "svdUprights", inPlace := ["math.Float64frombits", "math.Float64bits", "math.sqrt"], unfollowed := true, recurses := true, named := ["math/bits.deBruijn32tab"], apart := false, laid := [("math/bits.deBruijn32tab", laid_math_bits_deBruijn32tab)] }
def SvdUprightsSaid : Prop := svdUprightsRow.holds Tryz.pinned (OpenSpec.ofChange svdUprightsSpec)

/-- ITS FALSE NEIGHBOUR: 'it returns false'. Refute it at one input. -/
def svdUprightsWrong : ChangeSpec := { name := "svdUprights", fn := fun _ => fun
  | [d] => { results := [.lit (.bool false)], args := [d] }
  | _ => none }
def SvdUprightsWrongFalsely : Prop := svdUprightsRow.holds Tryz.pinned (OpenSpec.ofChange svdUprightsWrong)

/-- 'dioptralaw19.SvdRanks': WHATEVER THE INPUT: true; the input reads as it did. -/
def svdRanksSpec : ChangeSpec := { name := "svdRanks", fn := fun _ => fun
  | [d] => { results := [.lit (.bool true)], args := [d] }
  | _ => none }
def svdRanksRow : OpenClaim := { program := "ytdhmglmccafbnaagreatdoor", sum := "134f9c89dc00a80f3da79714d68b9a168b936eb0448e20d81b4e46d942c7a062", func := "dioptra/dioptralaw19.SvdRanks", spec := "svdRanks", inPlace := ["math.Float64frombits", "math.Float64bits"], unfollowed := true, recurses := true, named := ["math/bits.deBruijn32tab"], apart := false, laid := [("math/bits.deBruijn32tab", laid_math_bits_deBruijn32tab)] }
def SvdRanksSaid : Prop := svdRanksRow.holds Tryz.pinned (OpenSpec.ofChange svdRanksSpec)

/-- ITS FALSE NEIGHBOUR: 'it returns false'. Refute it at one input. -/
def svdRanksWrong : ChangeSpec := { name := "svdRanks", fn := fun _ => fun
  | [d] => { results := [.lit (.bool false)], args := [d] }
  | _ => none }
def SvdRanksWrongFalsely : Prop := svdRanksRow.holds Tryz.pinned (OpenSpec.ofChange svdRanksWrong)

/-- 'dioptralaw19.SvdRight': WHATEVER THE INPUT: true; the input reads as it did. -/
def svdRightSpec : ChangeSpec := { name := "svdRight", fn := fun _ => fun
  | [d] => { results := [.lit (.bool true)], args := [d] }
  | _ => none }
def svdRightRow : OpenClaim := { program := "ytdhmglmccafbnaagreatdoor", sum := "134f9c89dc00a80f3da79714d68b9a168b936eb0448e20d81b4e46d942c7a062", func := "dioptra/dioptralaw19.SvdRight", spec := "svdRight", unfollowed := true, recurses := true, named := ["math/bits.deBruijn32tab"], apart := false, laid := [("math/bits.deBruijn32tab", laid_math_bits_deBruijn32tab)] }
def SvdRightSaid : Prop := svdRightRow.holds Tryz.pinned (OpenSpec.ofChange svdRightSpec)

/-- ITS FALSE NEIGHBOUR: 'it returns false'. Refute it at one input. -/
def svdRightWrong : ChangeSpec := { name := "svdRight", fn := fun _ => fun
  | [d] => { results := [.lit (.bool false)], args := [d] }
  | _ => none }
def SvdRightWrongFalsely : Prop := svdRightRow.holds Tryz.pinned (OpenSpec.ofChange svdRightWrong)

/-- 'dioptralaw19.SvdTurns': WHATEVER THE INPUT: true; the input reads as it did. -/
def svdTurnsSpec : ChangeSpec := { name := "svdTurns", fn := fun _ => fun
  | [d] => { results := [.lit (.bool true)], args := [d] }
  | _ => none }
def svdTurnsRow : OpenClaim := { program := "ytdhmglmccafbnaagreatdoor", sum := "134f9c89dc00a80f3da79714d68b9a168b936eb0448e20d81b4e46d942c7a062", func := "dioptra/dioptralaw19.SvdTurns", spec := "svdTurns", unfollowed := true, recurses := true, named := ["math/bits.deBruijn32tab"], apart := false, laid := [("math/bits.deBruijn32tab", laid_math_bits_deBruijn32tab)] }
def SvdTurnsSaid : Prop := svdTurnsRow.holds Tryz.pinned (OpenSpec.ofChange svdTurnsSpec)

/-- ITS FALSE NEIGHBOUR: 'it returns false'. Refute it at one input. -/
def svdTurnsWrong : ChangeSpec := { name := "svdTurns", fn := fun _ => fun
  | [d] => { results := [.lit (.bool false)], args := [d] }
  | _ => none }
def SvdTurnsWrongFalsely : Prop := svdTurnsRow.holds Tryz.pinned (OpenSpec.ofChange svdTurnsWrong)

/-- 'dioptralaw19.SvdPairs': WHATEVER THE INPUT: true; the input reads as it did. -/
def svdPairsSpec : ChangeSpec := { name := "svdPairs", fn := fun _ => fun
  | [d] => { results := [.lit (.bool true)], args := [d] }
  | _ => none }
def svdPairsRow : OpenClaim := { program := "ytdhmglmccafbnaagreatdoor", sum := "134f9c89dc00a80f3da79714d68b9a168b936eb0448e20d81b4e46d942c7a062", func := "dioptra/dioptralaw19.SvdPairs", spec := "svdPairs", unfollowed := true, recurses := true, named := ["math/bits.deBruijn32tab"], apart := false, laid := [("math/bits.deBruijn32tab", laid_math_bits_deBruijn32tab)] }
def SvdPairsSaid : Prop := svdPairsRow.holds Tryz.pinned (OpenSpec.ofChange svdPairsSpec)

/-- ITS FALSE NEIGHBOUR: 'it returns false'. Refute it at one input. -/
def svdPairsWrong : ChangeSpec := { name := "svdPairs", fn := fun _ => fun
  | [d] => { results := [.lit (.bool false)], args := [d] }
  | _ => none }
def SvdPairsWrongFalsely : Prop := svdPairsRow.holds Tryz.pinned (OpenSpec.ofChange svdPairsWrong)

/-- 'dioptralaw19.SvdSizes': WHATEVER THE INPUT: true; the input reads as it did. -/
def svdSizesSpec : ChangeSpec := { name := "svdSizes", fn := fun _ => fun
  | [d] => { results := [.lit (.bool true)], args := [d] }
  | _ => none }
def svdSizesRow : OpenClaim := { program := "ytdhmglmccafbnaagreatdoor", sum := "134f9c89dc00a80f3da79714d68b9a168b936eb0448e20d81b4e46d942c7a062", func := "dioptra/dioptralaw19.SvdSizes", spec := "svdSizes", inPlace := ["math.Float64frombits", "math.Float64bits", "math.sqrt"], unfollowed := true, recurses := true, named := ["math/bits.deBruijn32tab"], apart := false, laid := [("math/bits.deBruijn32tab", laid_math_bits_deBruijn32tab)] }
def SvdSizesSaid : Prop := svdSizesRow.holds Tryz.pinned (OpenSpec.ofChange svdSizesSpec)

/-- ITS FALSE NEIGHBOUR: 'it returns false'. Refute it at one input. -/
def svdSizesWrong : ChangeSpec := { name := "svdSizes", fn := fun _ => fun
  | [d] => { results := [.lit (.bool false)], args := [d] }
  | _ => none }
def SvdSizesWrongFalsely : Prop := svdSizesRow.holds Tryz.pinned (OpenSpec.ofChange svdSizesWrong)

/- THE SECOND FORM. 'bulk': how many values and letters a reading holds, each counted each time it is reached (what is shared counts as often as it is met; a slice's spare places count too). A statement '..UptoSaid' is the law's where the arguments, and the package variables that the reading takes, are together of bulk at most 1048576: NARROWER than '..Said'. Prove '..Said' where nothing that the law and all that it calls make is longer than what came in: it says more and counts as full. Else prove '..UptoSaid'. A law counts once. -/
mutual
def uptoBulk {H : Type} : DataW H → Nat
  | .lit (.string bytes) => bytes.length + 1
  | .lit _ => 1
  | .nil => 1
  | .ptr d => uptoBulk d + 1
  | .slice elems spare => uptoBulkAll elems + uptoBulkAll spare + 1
  | .agg parts => uptoBulkAll parts + 1
  | .iface _ d => uptoBulk d + 1
  | .map entries => uptoBulkEntries entries + 1
  | .held _ => 1
def uptoBulkAll {H : Type} : List (DataW H) → Nat
  | [] => 0
  | d :: r => uptoBulk d + uptoBulkAll r
def uptoBulkEntries {H : Type} : List (Lit × DataW H) → Nat
  | [] => 0
  | x :: r => uptoBulkEntry x + uptoBulkEntries r
def uptoBulkEntry {H : Type} : Lit × DataW H → Nat
  | (.string bytes, d) => bytes.length + uptoBulk d + 1
  | (_, d) => uptoBulk d + 1
 end
def uptoSmall : (H : Type) → List (DataW H) → Bool := fun _ ds => decide (uptoBulkAll ds ≤ 1048576)
def OpenSpec.upto (s : _root_.Go.ChangeSpec) : _root_.Go.OpenSpec := { _root_.Go.OpenSpec.ofChange s with cond := some uptoSmall }

/-- 'dioptralaw17.SolveExact', WHERE WHAT IT READS IS OF BULK AT MOST 1048576: true; the input reads as it did. -/
def solveExactUptoRow : OpenClaim := { program := "ytdhmglmccafbnaagreatdoor", sum := "134f9c89dc00a80f3da79714d68b9a168b936eb0448e20d81b4e46d942c7a062", func := "dioptra/dioptralaw17.SolveExact", spec := "solveExact", inPlace := ["math.Float64bits"], unfollowed := true, recurses := true, named := ["math/bits.deBruijn32tab"], apart := false, laid := [("math/bits.deBruijn32tab", laid_math_bits_deBruijn32tab)], narrowed := true }
def SolveExactUptoSaid : Prop := solveExactUptoRow.holds Tryz.pinned (OpenSpec.upto solveExactSpec)

/-- 'dioptralaw17.SolveUpright', WHERE WHAT IT READS IS OF BULK AT MOST 1048576: true; the input reads as it did. -/
def solveUprightUptoRow : OpenClaim := { program := "ytdhmglmccafbnaagreatdoor", sum := "134f9c89dc00a80f3da79714d68b9a168b936eb0448e20d81b4e46d942c7a062", func := "dioptra/dioptralaw17.SolveUpright", spec := "solveUpright", unfollowed := true, recurses := true, named := ["math/bits.deBruijn32tab"], apart := false, laid := [("math/bits.deBruijn32tab", laid_math_bits_deBruijn32tab)], narrowed := true }
def SolveUprightUptoSaid : Prop := solveUprightUptoRow.holds Tryz.pinned (OpenSpec.upto solveUprightSpec)

/-- 'dioptralaw17.SolveBack', WHERE WHAT IT READS IS OF BULK AT MOST 1048576: true; the input reads as it did. -/
def solveBackUptoRow : OpenClaim := { program := "ytdhmglmccafbnaagreatdoor", sum := "134f9c89dc00a80f3da79714d68b9a168b936eb0448e20d81b4e46d942c7a062", func := "dioptra/dioptralaw17.SolveBack", spec := "solveBack", inPlace := ["math.Float64bits", "math.Float64frombits"], unfollowed := true, recurses := true, named := ["math/bits.deBruijn32tab"], apart := false, laid := [("math/bits.deBruijn32tab", laid_math_bits_deBruijn32tab)], narrowed := true }
def SolveBackUptoSaid : Prop := solveBackUptoRow.holds Tryz.pinned (OpenSpec.upto solveBackSpec)

/-- 'dioptralaw18.HessBrings', WHERE WHAT IT READS IS OF BULK AT MOST 1048576: true; the input reads as it did. -/
def hessBringsUptoRow : OpenClaim := { program := "ytdhmglmccafbnaagreatdoor", sum := "134f9c89dc00a80f3da79714d68b9a168b936eb0448e20d81b4e46d942c7a062", func := "dioptra/dioptralaw18.HessBrings", spec := "hessBrings", inPlace := ["math.Float64frombits", "math.Float64bits", "math.sqrt"], unfollowed := true, recurses := true, named := ["math/bits.deBruijn32tab"], apart := false, laid := [("math/bits.deBruijn32tab", laid_math_bits_deBruijn32tab)], narrowed := true }
def HessBringsUptoSaid : Prop := hessBringsUptoRow.holds Tryz.pinned (OpenSpec.upto hessBringsSpec)

/-- 'dioptralaw19.SvdUprights', WHERE WHAT IT READS IS OF BULK AT MOST 1048576: true; the input reads as it did. -/
def svdUprightsUptoRow : OpenClaim := { program := "ytdhmglmccafbnaagreatdoor", sum := "134f9c89dc00a80f3da79714d68b9a168b936eb0448e20d81b4e46d942c7a062", func := "dioptra/dioptralaw19.SvdUprights", spec := "svdUprights", inPlace := ["math.Float64frombits", "math.Float64bits", "math.sqrt"], unfollowed := true, recurses := true, named := ["math/bits.deBruijn32tab"], apart := false, laid := [("math/bits.deBruijn32tab", laid_math_bits_deBruijn32tab)], narrowed := true }
def SvdUprightsUptoSaid : Prop := svdUprightsUptoRow.holds Tryz.pinned (OpenSpec.upto svdUprightsSpec)

/-- 'dioptralaw19.SvdRanks', WHERE WHAT IT READS IS OF BULK AT MOST 1048576: true; the input reads as it did. -/
def svdRanksUptoRow : OpenClaim := { program := "ytdhmglmccafbnaagreatdoor", sum := "134f9c89dc00a80f3da79714d68b9a168b936eb0448e20d81b4e46d942c7a062", func := "dioptra/dioptralaw19.SvdRanks", spec := "svdRanks", inPlace := ["math.Float64frombits", "math.Float64bits"], unfollowed := true, recurses := true, named := ["math/bits.deBruijn32tab"], apart := false, laid := [("math/bits.deBruijn32tab", laid_math_bits_deBruijn32tab)], narrowed := true }
def SvdRanksUptoSaid : Prop := svdRanksUptoRow.holds Tryz.pinned (OpenSpec.upto svdRanksSpec)

/-- 'dioptralaw19.SvdRight', WHERE WHAT IT READS IS OF BULK AT MOST 1048576: true; the input reads as it did. -/
def svdRightUptoRow : OpenClaim := { program := "ytdhmglmccafbnaagreatdoor", sum := "134f9c89dc00a80f3da79714d68b9a168b936eb0448e20d81b4e46d942c7a062", func := "dioptra/dioptralaw19.SvdRight", spec := "svdRight", unfollowed := true, recurses := true, named := ["math/bits.deBruijn32tab"], apart := false, laid := [("math/bits.deBruijn32tab", laid_math_bits_deBruijn32tab)], narrowed := true }
def SvdRightUptoSaid : Prop := svdRightUptoRow.holds Tryz.pinned (OpenSpec.upto svdRightSpec)

/-- 'dioptralaw19.SvdTurns', WHERE WHAT IT READS IS OF BULK AT MOST 1048576: true; the input reads as it did. -/
def svdTurnsUptoRow : OpenClaim := { program := "ytdhmglmccafbnaagreatdoor", sum := "134f9c89dc00a80f3da79714d68b9a168b936eb0448e20d81b4e46d942c7a062", func := "dioptra/dioptralaw19.SvdTurns", spec := "svdTurns", unfollowed := true, recurses := true, named := ["math/bits.deBruijn32tab"], apart := false, laid := [("math/bits.deBruijn32tab", laid_math_bits_deBruijn32tab)], narrowed := true }
def SvdTurnsUptoSaid : Prop := svdTurnsUptoRow.holds Tryz.pinned (OpenSpec.upto svdTurnsSpec)

/-- 'dioptralaw19.SvdPairs', WHERE WHAT IT READS IS OF BULK AT MOST 1048576: true; the input reads as it did. -/
def svdPairsUptoRow : OpenClaim := { program := "ytdhmglmccafbnaagreatdoor", sum := "134f9c89dc00a80f3da79714d68b9a168b936eb0448e20d81b4e46d942c7a062", func := "dioptra/dioptralaw19.SvdPairs", spec := "svdPairs", unfollowed := true, recurses := true, named := ["math/bits.deBruijn32tab"], apart := false, laid := [("math/bits.deBruijn32tab", laid_math_bits_deBruijn32tab)], narrowed := true }
def SvdPairsUptoSaid : Prop := svdPairsUptoRow.holds Tryz.pinned (OpenSpec.upto svdPairsSpec)

/-- 'dioptralaw19.SvdSizes', WHERE WHAT IT READS IS OF BULK AT MOST 1048576: true; the input reads as it did. -/
def svdSizesUptoRow : OpenClaim := { program := "ytdhmglmccafbnaagreatdoor", sum := "134f9c89dc00a80f3da79714d68b9a168b936eb0448e20d81b4e46d942c7a062", func := "dioptra/dioptralaw19.SvdSizes", spec := "svdSizes", inPlace := ["math.Float64frombits", "math.Float64bits", "math.sqrt"], unfollowed := true, recurses := true, named := ["math/bits.deBruijn32tab"], apart := false, laid := [("math/bits.deBruijn32tab", laid_math_bits_deBruijn32tab)], narrowed := true }
def SvdSizesUptoSaid : Prop := svdSizesUptoRow.holds Tryz.pinned (OpenSpec.upto svdSizesSpec)

end Rows
end Go.Proofs.YtdhmglmccafbnaaGreatDoor
