/-
  NARROWER THAN 'FOR EVERY INPUT', by the rows' own cells (each row's printed sentence says how): SolveUppers: laid · SolveLowers: laid · SolveLeasts: laid · SolveExact: laid · SolveUpright: laid · SolveBack: laid · HessBrings: laid · HessZeros: laid · HessInfinite: laid.
  DERIVED. THE GIVEN ROWS OF THIS SEAT. 9 by the template 'for every input the law returns true; each argument reads behind the call as it read before'; 0 by the template 'total and deterministic' (their statements: YtlnphkioddknfaaGreatDoorTotals.lean).
  GIVEN WITH THE SEED: the statements are not yours to turn. If you find one false, say at which input.
  Laid BY PROGRAM, IN A SANDBOX (cutbox-rows.mjs): the forced cells as the released guide's own fill.sh prints them over the translation c0dc57250f72d486… (all of the seat's roots in one cut). By AI agents, Wed Nov 11 2026. No macro, syntax, notation, axiom, sorry.
-/
import Derived.Test.YtlnphkioddknfaaGreatDoorChecked
import GoSem.Claim
import GoSem.ClaimJoined
import GoSem.ClaimMapViews
import Derived.JoinedTies
import Derived.KernelRfl
namespace Go.Proofs.YtlnphkioddknfaaGreatDoor
/- THE CELL 'sum', in the pinned program and in every row, IS THE sha256 OF THE DUMP (.gsa) THAT YtlnphkioddknfaaGreatDoorProg.lean LOADS. Nothing in Lean hashes anything: it is a label: what it is worth is what the hold of that sum in a sandbox is worth. -/
noncomputable def Tryz.pinned : Pinned := { name := "ytlnphkioddknfaagreatdoor", sum := "c0dc57250f72d4867e0131b7fc5b5afce9066ea26c62faa1cf8d518ea1b836fd", checked := Tryz.checked }
namespace Rows
def none {H : Type} : Left H := { results := [], args := [] }

/- WHAT THE LISTED PACKAGE-LEVEL VARIABLES READ AS WHEN THE CALL BEGINS. Each datum BY PROGRAM (the guide's laid-datum.mjs) off the statement by which the dump's own 'gosem.cut.vars' lays the variable. In a bare row this is a premise. The card (YtlnphkioddknfaaGreatDoorCards.lean) ties it to the program's text. -/
def laid_math_bits_deBruijn32tab {H : Type} : DataW H := .agg [.lit (.int .u8 0), .lit (.int .u8 1), .lit (.int .u8 28), .lit (.int .u8 2), .lit (.int .u8 29), .lit (.int .u8 14), .lit (.int .u8 24), .lit (.int .u8 3), .lit (.int .u8 30), .lit (.int .u8 22), .lit (.int .u8 20), .lit (.int .u8 15), .lit (.int .u8 25), .lit (.int .u8 17), .lit (.int .u8 4), .lit (.int .u8 8), .lit (.int .u8 31), .lit (.int .u8 27), .lit (.int .u8 13), .lit (.int .u8 23), .lit (.int .u8 21), .lit (.int .u8 19), .lit (.int .u8 16), .lit (.int .u8 7), .lit (.int .u8 26), .lit (.int .u8 12), .lit (.int .u8 18), .lit (.int .u8 6), .lit (.int .u8 11), .lit (.int .u8 5), .lit (.int .u8 10), .lit (.int .u8 9)]

/-- 'dioptralaw17.SolveUppers': WHATEVER THE INPUT: true; the input reads as it did. -/
def solveUppersSpec : ChangeSpec := { name := "solveUppers", fn := fun _ => fun
  | [d1, d2] => { results := [.lit (.bool true)], args := [d1, d2] }
  | _ => none }
def solveUppersRow : OpenClaim := { program := "ytlnphkioddknfaagreatdoor", sum := "c0dc57250f72d4867e0131b7fc5b5afce9066ea26c62faa1cf8d518ea1b836fd", func := "dioptra/dioptralaw17.SolveUppers", spec := "solveUppers", inPlace := ["math.Float64frombits", "math.Float64bits"], unfollowed := true, recurses := true, named := ["math/bits.deBruijn32tab"], apart := false, laid := [("math/bits.deBruijn32tab", laid_math_bits_deBruijn32tab)] }
def SolveUppersSaid : Prop := solveUppersRow.holds Tryz.pinned (OpenSpec.ofChange solveUppersSpec)

/-- ITS FALSE NEIGHBOUR: 'it returns false'. Refute it at one input. -/
def solveUppersWrong : ChangeSpec := { name := "solveUppers", fn := fun _ => fun
  | [d1, d2] => { results := [.lit (.bool false)], args := [d1, d2] }
  | _ => none }
def SolveUppersWrongFalsely : Prop := solveUppersRow.holds Tryz.pinned (OpenSpec.ofChange solveUppersWrong)

/-- 'dioptralaw17.SolveLowers': WHATEVER THE INPUT: true; the input reads as it did. -/
def solveLowersSpec : ChangeSpec := { name := "solveLowers", fn := fun _ => fun
  | [d1, d2] => { results := [.lit (.bool true)], args := [d1, d2] }
  | _ => none }
def solveLowersRow : OpenClaim := { program := "ytlnphkioddknfaagreatdoor", sum := "c0dc57250f72d4867e0131b7fc5b5afce9066ea26c62faa1cf8d518ea1b836fd", func := "dioptra/dioptralaw17.SolveLowers", spec := "solveLowers", inPlace := ["math.Float64frombits", "math.Float64bits"], unfollowed := true, recurses := true, named := ["math/bits.deBruijn32tab"], apart := false, laid := [("math/bits.deBruijn32tab", laid_math_bits_deBruijn32tab)] }
def SolveLowersSaid : Prop := solveLowersRow.holds Tryz.pinned (OpenSpec.ofChange solveLowersSpec)

/-- ITS FALSE NEIGHBOUR: 'it returns false'. Refute it at one input. -/
def solveLowersWrong : ChangeSpec := { name := "solveLowers", fn := fun _ => fun
  | [d1, d2] => { results := [.lit (.bool false)], args := [d1, d2] }
  | _ => none }
def SolveLowersWrongFalsely : Prop := solveLowersRow.holds Tryz.pinned (OpenSpec.ofChange solveLowersWrong)

/-- 'dioptralaw17.SolveLeasts': WHATEVER THE INPUT: true; the input reads as it did. -/
def solveLeastsSpec : ChangeSpec := { name := "solveLeasts", fn := fun _ => fun
  | [d1, d2] => { results := [.lit (.bool true)], args := [d1, d2] }
  | _ => none }
def solveLeastsRow : OpenClaim := { program := "ytlnphkioddknfaagreatdoor", sum := "c0dc57250f72d4867e0131b7fc5b5afce9066ea26c62faa1cf8d518ea1b836fd", func := "dioptra/dioptralaw17.SolveLeasts", spec := "solveLeasts", inPlace := ["math.Float64frombits", "math.Float64bits", "math.sqrt"], unfollowed := true, recurses := true, named := ["math/bits.deBruijn32tab"], apart := false, laid := [("math/bits.deBruijn32tab", laid_math_bits_deBruijn32tab)] }
def SolveLeastsSaid : Prop := solveLeastsRow.holds Tryz.pinned (OpenSpec.ofChange solveLeastsSpec)

/-- ITS FALSE NEIGHBOUR: 'it returns false'. Refute it at one input. -/
def solveLeastsWrong : ChangeSpec := { name := "solveLeasts", fn := fun _ => fun
  | [d1, d2] => { results := [.lit (.bool false)], args := [d1, d2] }
  | _ => none }
def SolveLeastsWrongFalsely : Prop := solveLeastsRow.holds Tryz.pinned (OpenSpec.ofChange solveLeastsWrong)

/-- 'dioptralaw17.SolveExact': WHATEVER THE INPUT: true; the input reads as it did. -/
def solveExactSpec : ChangeSpec := { name := "solveExact", fn := fun _ => fun
  | [d1, d2, d3] => { results := [.lit (.bool true)], args := [d1, d2, d3] }
  | _ => none }
def solveExactRow : OpenClaim := { program := "ytlnphkioddknfaagreatdoor", sum := "c0dc57250f72d4867e0131b7fc5b5afce9066ea26c62faa1cf8d518ea1b836fd", func := "dioptra/dioptralaw17.SolveExact", spec := "solveExact", inPlace := ["math.Float64bits"], unfollowed := true, recurses := true, named := ["math/bits.deBruijn32tab"], apart := false, laid := [("math/bits.deBruijn32tab", laid_math_bits_deBruijn32tab)] }
def SolveExactSaid : Prop := solveExactRow.holds Tryz.pinned (OpenSpec.ofChange solveExactSpec)

/-- ITS FALSE NEIGHBOUR: 'it returns false'. Refute it at one input. -/
def solveExactWrong : ChangeSpec := { name := "solveExact", fn := fun _ => fun
  | [d1, d2, d3] => { results := [.lit (.bool false)], args := [d1, d2, d3] }
  | _ => none }
def SolveExactWrongFalsely : Prop := solveExactRow.holds Tryz.pinned (OpenSpec.ofChange solveExactWrong)

/-- 'dioptralaw17.SolveUpright': WHATEVER THE INPUT: true; the input reads as it did. -/
def solveUprightSpec : ChangeSpec := { name := "solveUpright", fn := fun _ => fun
  | [d1, d2] => { results := [.lit (.bool true)], args := [d1, d2] }
  | _ => none }
def solveUprightRow : OpenClaim := { program := "ytlnphkioddknfaagreatdoor", sum := "c0dc57250f72d4867e0131b7fc5b5afce9066ea26c62faa1cf8d518ea1b836fd", func := "dioptra/dioptralaw17.SolveUpright", spec := "solveUpright", unfollowed := true, recurses := true, named := ["math/bits.deBruijn32tab"], apart := false, laid := [("math/bits.deBruijn32tab", laid_math_bits_deBruijn32tab)] }
def SolveUprightSaid : Prop := solveUprightRow.holds Tryz.pinned (OpenSpec.ofChange solveUprightSpec)

/-- ITS FALSE NEIGHBOUR: 'it returns false'. Refute it at one input. -/
def solveUprightWrong : ChangeSpec := { name := "solveUpright", fn := fun _ => fun
  | [d1, d2] => { results := [.lit (.bool false)], args := [d1, d2] }
  | _ => none }
def SolveUprightWrongFalsely : Prop := solveUprightRow.holds Tryz.pinned (OpenSpec.ofChange solveUprightWrong)

/-- 'dioptralaw17.SolveBack': WHATEVER THE INPUT: true; the input reads as it did. -/
def solveBackSpec : ChangeSpec := { name := "solveBack", fn := fun _ => fun
  | [d1, d2, d3] => { results := [.lit (.bool true)], args := [d1, d2, d3] }
  | _ => none }
def solveBackRow : OpenClaim := { program := "ytlnphkioddknfaagreatdoor", sum := "c0dc57250f72d4867e0131b7fc5b5afce9066ea26c62faa1cf8d518ea1b836fd", func := "dioptra/dioptralaw17.SolveBack", spec := "solveBack", inPlace := ["math.Float64bits", "math.Float64frombits"], unfollowed := true, recurses := true, named := ["math/bits.deBruijn32tab"], apart := false, laid := [("math/bits.deBruijn32tab", laid_math_bits_deBruijn32tab)] }
def SolveBackSaid : Prop := solveBackRow.holds Tryz.pinned (OpenSpec.ofChange solveBackSpec)

/-- ITS FALSE NEIGHBOUR: 'it returns false'. Refute it at one input. -/
def solveBackWrong : ChangeSpec := { name := "solveBack", fn := fun _ => fun
  | [d1, d2, d3] => { results := [.lit (.bool false)], args := [d1, d2, d3] }
  | _ => none }
def SolveBackWrongFalsely : Prop := solveBackRow.holds Tryz.pinned (OpenSpec.ofChange solveBackWrong)

/-- 'dioptralaw18.HessBrings': WHATEVER THE INPUT: true; the input reads as it did. -/
def hessBringsSpec : ChangeSpec := { name := "hessBrings", fn := fun _ => fun
  | [d1, d2] => { results := [.lit (.bool true)], args := [d1, d2] }
  | _ => none }
def hessBringsRow : OpenClaim := { program := "ytlnphkioddknfaagreatdoor", sum := "c0dc57250f72d4867e0131b7fc5b5afce9066ea26c62faa1cf8d518ea1b836fd", func := "dioptra/dioptralaw18.HessBrings", spec := "hessBrings", inPlace := ["math.Float64frombits", "math.Float64bits", "math.sqrt"], unfollowed := true, recurses := true, named := ["math/bits.deBruijn32tab"], apart := false, laid := [("math/bits.deBruijn32tab", laid_math_bits_deBruijn32tab)] }
def HessBringsSaid : Prop := hessBringsRow.holds Tryz.pinned (OpenSpec.ofChange hessBringsSpec)

/-- ITS FALSE NEIGHBOUR: 'it returns false'. Refute it at one input. -/
def hessBringsWrong : ChangeSpec := { name := "hessBrings", fn := fun _ => fun
  | [d1, d2] => { results := [.lit (.bool false)], args := [d1, d2] }
  | _ => none }
def HessBringsWrongFalsely : Prop := hessBringsRow.holds Tryz.pinned (OpenSpec.ofChange hessBringsWrong)

/-- 'dioptralaw18.HessZeros': WHATEVER THE INPUT: true; the input reads as it did. -/
def hessZerosSpec : ChangeSpec := { name := "hessZeros", fn := fun _ => fun
  | [d1, d2] => { results := [.lit (.bool true)], args := [d1, d2] }
  | _ => none }
def hessZerosRow : OpenClaim := { program := "ytlnphkioddknfaagreatdoor", sum := "c0dc57250f72d4867e0131b7fc5b5afce9066ea26c62faa1cf8d518ea1b836fd", func := "dioptra/dioptralaw18.HessZeros", spec := "hessZeros", unfollowed := true, recurses := true, named := ["math/bits.deBruijn32tab"], apart := false, laid := [("math/bits.deBruijn32tab", laid_math_bits_deBruijn32tab)] }
def HessZerosSaid : Prop := hessZerosRow.holds Tryz.pinned (OpenSpec.ofChange hessZerosSpec)

/-- ITS FALSE NEIGHBOUR: 'it returns false'. Refute it at one input. -/
def hessZerosWrong : ChangeSpec := { name := "hessZeros", fn := fun _ => fun
  | [d1, d2] => { results := [.lit (.bool false)], args := [d1, d2] }
  | _ => none }
def HessZerosWrongFalsely : Prop := hessZerosRow.holds Tryz.pinned (OpenSpec.ofChange hessZerosWrong)

/-- 'dioptralaw18.HessInfinite': WHATEVER THE INPUT: true; the input reads as it did. -/
def hessInfiniteSpec : ChangeSpec := { name := "hessInfinite", fn := fun _ => fun
  | [d] => { results := [.lit (.bool true)], args := [d] }
  | _ => none }
def hessInfiniteRow : OpenClaim := { program := "ytlnphkioddknfaagreatdoor", sum := "c0dc57250f72d4867e0131b7fc5b5afce9066ea26c62faa1cf8d518ea1b836fd", func := "dioptra/dioptralaw18.HessInfinite", spec := "hessInfinite", unfollowed := true, recurses := true, named := ["math/bits.deBruijn32tab"], apart := false, laid := [("math/bits.deBruijn32tab", laid_math_bits_deBruijn32tab)] }
def HessInfiniteSaid : Prop := hessInfiniteRow.holds Tryz.pinned (OpenSpec.ofChange hessInfiniteSpec)

/-- ITS FALSE NEIGHBOUR: 'it returns false'. Refute it at one input. -/
def hessInfiniteWrong : ChangeSpec := { name := "hessInfinite", fn := fun _ => fun
  | [d] => { results := [.lit (.bool false)], args := [d] }
  | _ => none }
def HessInfiniteWrongFalsely : Prop := hessInfiniteRow.holds Tryz.pinned (OpenSpec.ofChange hessInfiniteWrong)

/- THE SECOND FORM. 'bulk': how many values and letters a reading holds, each counted each time it is reached (what is shared counts as often as it is met; a slice's spare places count too). A statement '..UptoSaid' is the law's where the arguments, and the package variables that the reading takes, are together of bulk at most 1048576: NARROWER than '..Said'. Prove '..Said' where nothing that the law and all that it calls make is longer than what came in: it says more and counts as full. Else prove '..UptoSaid'. A law counts once. -/
mutual
def uptoBulk {H : Type} : DataW H → Nat
  | .lit (.string bytes) => bytes.length + 1
  | .lit _ => 1
  | .nil => 1
  | .ptr d => uptoBulk d + 1
  | .slice elems spare => uptoBulkAll elems + uptoBulkAll spare + 1
  | .agg parts => uptoBulkAll parts + 1
  | .iface _ d => uptoBulk d + 1
  | .map entries => uptoBulkEntries entries + 1
  | .held _ => 1
def uptoBulkAll {H : Type} : List (DataW H) → Nat
  | [] => 0
  | d :: r => uptoBulk d + uptoBulkAll r
def uptoBulkEntries {H : Type} : List (Lit × DataW H) → Nat
  | [] => 0
  | x :: r => uptoBulkEntry x + uptoBulkEntries r
def uptoBulkEntry {H : Type} : Lit × DataW H → Nat
  | (.string bytes, d) => bytes.length + uptoBulk d + 1
  | (_, d) => uptoBulk d + 1
 end
def uptoSmall : (H : Type) → List (DataW H) → Bool := fun _ ds => decide (uptoBulkAll ds ≤ 1048576)
def OpenSpec.upto (s : _root_.Go.ChangeSpec) : _root_.Go.OpenSpec := { _root_.Go.OpenSpec.ofChange s with cond := some uptoSmall }

/-- 'dioptralaw17.SolveUppers', WHERE WHAT IT READS IS OF BULK AT MOST 1048576: true; the input reads as it did. -/
def solveUppersUptoRow : OpenClaim := { program := "ytlnphkioddknfaagreatdoor", sum := "c0dc57250f72d4867e0131b7fc5b5afce9066ea26c62faa1cf8d518ea1b836fd", func := "dioptra/dioptralaw17.SolveUppers", spec := "solveUppers", inPlace := ["math.Float64frombits", "math.Float64bits"], unfollowed := true, recurses := true, named := ["math/bits.deBruijn32tab"], apart := false, laid := [("math/bits.deBruijn32tab", laid_math_bits_deBruijn32tab)], narrowed := true }
def SolveUppersUptoSaid : Prop := solveUppersUptoRow.holds Tryz.pinned (OpenSpec.upto solveUppersSpec)

/-- 'dioptralaw17.SolveLowers', WHERE WHAT IT READS IS OF BULK AT MOST 1048576: true; the input reads as it did. -/
def solveLowersUptoRow : OpenClaim := { program := "ytlnphkioddknfaagreatdoor", sum := "c0dc57250f72d4867e0131b7fc5b5afce9066ea26c62faa1cf8d518ea1b836fd", func := "dioptra/dioptralaw17.SolveLowers", spec := "solveLowers", inPlace := ["math.Float64frombits", "math.Float64bits"], unfollowed := true, recurses := true, named := ["math/bits.deBruijn32tab"], apart := false, laid := [("math/bits.deBruijn32tab", laid_math_bits_deBruijn32tab)], narrowed := true }
def SolveLowersUptoSaid : Prop := solveLowersUptoRow.holds Tryz.pinned (OpenSpec.upto solveLowersSpec)

/-- 'dioptralaw17.SolveLeasts', WHERE WHAT IT READS IS OF BULK AT MOST 1048576: true; the input reads as it did. -/
def solveLeastsUptoRow : OpenClaim := { program := "ytlnphkioddknfaagreatdoor", sum := "c0dc57250f72d4867e0131b7fc5b5afce9066ea26c62faa1cf8d518ea1b836fd", func := "dioptra/dioptralaw17.SolveLeasts", spec := "solveLeasts", inPlace := ["math.Float64frombits", "math.Float64bits", "math.sqrt"], unfollowed := true, recurses := true, named := ["math/bits.deBruijn32tab"], apart := false, laid := [("math/bits.deBruijn32tab", laid_math_bits_deBruijn32tab)], narrowed := true }
def SolveLeastsUptoSaid : Prop := solveLeastsUptoRow.holds Tryz.pinned (OpenSpec.upto solveLeastsSpec)

/-- 'dioptralaw17.SolveExact', WHERE WHAT IT READS IS OF BULK AT MOST 1048576: true; the input reads as it did. -/
def solveExactUptoRow : OpenClaim := { program := "ytlnphkioddknfaagreatdoor", sum := "c0dc57250f72d4867e0131b7fc5b5afce9066ea26c62faa1cf8d518ea1b836fd", func := "dioptra/dioptralaw17.SolveExact", spec := "solveExact", inPlace := ["math.Float64bits"], unfollowed := true, recurses := true, named := ["math/bits.deBruijn32tab"], apart := false, laid := [("math/bits.deBruijn32tab", laid_math_bits_deBruijn32tab)], narrowed := true }
def SolveExactUptoSaid : Prop := solveExactUptoRow.holds Tryz.pinned (OpenSpec.upto solveExactSpec)

/-- 'dioptralaw17.SolveUpright', WHERE WHAT IT READS IS OF BULK AT MOST 1048576: true; the input reads as it did. -/
def solveUprightUptoRow : OpenClaim := { program := "ytlnphkioddknfaagreatdoor", sum := "c0dc57250f72d4867e0131b7fc5b5afce9066ea26c62faa1cf8d518ea1b836fd", func := "dioptra/dioptralaw17.SolveUpright", spec := "solveUpright", unfollowed := true, recurses := true, named := ["math/bits.deBruijn32tab"], apart := false, laid := [("math/bits.deBruijn32tab", laid_math_bits_deBruijn32tab)], narrowed := true }
def SolveUprightUptoSaid : Prop := solveUprightUptoRow.holds Tryz.pinned (OpenSpec.upto solveUprightSpec)

/-- 'dioptralaw17.SolveBack', WHERE WHAT IT READS IS OF BULK AT MOST 1048576: true; the input reads as it did. -/
def solveBackUptoRow : OpenClaim := { program := "ytlnphkioddknfaagreatdoor", sum := "c0dc57250f72d4867e0131b7fc5b5afce9066ea26c62faa1cf8d518ea1b836fd", func := "dioptra/dioptralaw17.SolveBack", spec := "solveBack", inPlace := ["math.Float64bits", "math.Float64frombits"], unfollowed := true, recurses := true, named := ["math/bits.deBruijn32tab"], apart := false, laid := [("math/bits.deBruijn32tab", laid_math_bits_deBruijn32tab)], narrowed := true }
def SolveBackUptoSaid : Prop := solveBackUptoRow.holds Tryz.pinned (OpenSpec.upto solveBackSpec)

/-- 'dioptralaw18.HessBrings', WHERE WHAT IT READS IS OF BULK AT MOST 1048576: true; the input reads as it did. -/
def hessBringsUptoRow : OpenClaim := { program := "ytlnphkioddknfaagreatdoor", sum := "c0dc57250f72d4867e0131b7fc5b5afce9066ea26c62faa1cf8d518ea1b836fd", func := "dioptra/dioptralaw18.HessBrings", spec := "hessBrings", inPlace := ["math.Float64frombits", "math.Float64bits", "math.sqrt"], unfollowed := true, recurses := true, named := ["math/bits.deBruijn32tab"], apart := false, laid := [("math/bits.deBruijn32tab", laid_math_bits_deBruijn32tab)], narrowed := true }
def HessBringsUptoSaid : Prop := hessBringsUptoRow.holds Tryz.pinned (OpenSpec.upto hessBringsSpec)

/-- 'dioptralaw18.HessZeros', WHERE WHAT IT READS IS OF BULK AT MOST 1048576: true; the input reads as it did. -/
def hessZerosUptoRow : OpenClaim := { program := "ytlnphkioddknfaagreatdoor", sum := "c0dc57250f72d4867e0131b7fc5b5afce9066ea26c62faa1cf8d518ea1b836fd", func := "dioptra/dioptralaw18.HessZeros", spec := "hessZeros", unfollowed := true, recurses := true, named := ["math/bits.deBruijn32tab"], apart := false, laid := [("math/bits.deBruijn32tab", laid_math_bits_deBruijn32tab)], narrowed := true }
def HessZerosUptoSaid : Prop := hessZerosUptoRow.holds Tryz.pinned (OpenSpec.upto hessZerosSpec)

/-- 'dioptralaw18.HessInfinite', WHERE WHAT IT READS IS OF BULK AT MOST 1048576: true; the input reads as it did. -/
def hessInfiniteUptoRow : OpenClaim := { program := "ytlnphkioddknfaagreatdoor", sum := "c0dc57250f72d4867e0131b7fc5b5afce9066ea26c62faa1cf8d518ea1b836fd", func := "dioptra/dioptralaw18.HessInfinite", spec := "hessInfinite", unfollowed := true, recurses := true, named := ["math/bits.deBruijn32tab"], apart := false, laid := [("math/bits.deBruijn32tab", laid_math_bits_deBruijn32tab)], narrowed := true }
def HessInfiniteUptoSaid : Prop := hessInfiniteUptoRow.holds Tryz.pinned (OpenSpec.upto hessInfiniteSpec)

end Rows
end Go.Proofs.YtlnphkioddknfaaGreatDoor
