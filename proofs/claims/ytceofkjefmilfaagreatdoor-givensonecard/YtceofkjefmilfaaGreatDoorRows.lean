/-
  NARROWER THAN 'FOR EVERY INPUT', by the rows' own cells (each row's printed sentence says how): GivensTurns: laid · GivensRows: laid · GivensOne: laid · GivensRight: laid · GivensKeeps: laid.
  DERIVED. THE GIVEN ROWS OF THIS SEAT. 5 by the template 'for every input the law returns true; each argument reads behind the call as it read before'; 0 by the template 'total and deterministic' (their statements: YtceofkjefmilfaaGreatDoorTotals.lean).
  GIVEN WITH THE SEED: the statements are not yours to turn. If you find one false, say at which input.
  Laid BY PROGRAM, IN A SANDBOX (cutbox-rows.mjs): the forced cells as the released guide's own fill.sh prints them over the translation ca3677fbcdfdc0aa… (all of the seat's roots in one cut). By AI agents, Wed Nov 11 2026. No macro, syntax, notation, axiom, sorry.
-/
import Derived.Test.YtceofkjefmilfaaGreatDoorChecked
import GoSem.Claim
import GoSem.ClaimJoined
import GoSem.ClaimMapViews
import Derived.JoinedTies
import Derived.KernelRfl
namespace Go.Proofs.YtceofkjefmilfaaGreatDoor
/- THE CELL 'sum', in the pinned program and in every row, IS THE sha256 OF THE DUMP (.gsa) THAT YtceofkjefmilfaaGreatDoorProg.lean LOADS. Nothing in Lean hashes anything: it is a label: what it is worth is what the hold of that sum in a sandbox is worth. -/
noncomputable def Tryz.pinned : Pinned := { name := "ytceofkjefmilfaagreatdoor", sum := "ca3677fbcdfdc0aa6f26d83f6871367d8d71e4c95a6abb6039b466aad69ebaaa", checked := Tryz.checked }
namespace Rows
def none {H : Type} : Left H := { results := [], args := [] }

/- WHAT THE LISTED PACKAGE-LEVEL VARIABLES READ AS WHEN THE CALL BEGINS. Each datum BY PROGRAM (the guide's laid-datum.mjs) off the statement by which the dump's own 'gosem.cut.vars' lays the variable. In a bare row this is a premise. The card (YtceofkjefmilfaaGreatDoorCards.lean) ties it to the program's text. -/
def laid_math_bits_deBruijn32tab {H : Type} : DataW H := .agg [.lit (.int .u8 0), .lit (.int .u8 1), .lit (.int .u8 28), .lit (.int .u8 2), .lit (.int .u8 29), .lit (.int .u8 14), .lit (.int .u8 24), .lit (.int .u8 3), .lit (.int .u8 30), .lit (.int .u8 22), .lit (.int .u8 20), .lit (.int .u8 15), .lit (.int .u8 25), .lit (.int .u8 17), .lit (.int .u8 4), .lit (.int .u8 8), .lit (.int .u8 31), .lit (.int .u8 27), .lit (.int .u8 13), .lit (.int .u8 23), .lit (.int .u8 21), .lit (.int .u8 19), .lit (.int .u8 16), .lit (.int .u8 7), .lit (.int .u8 26), .lit (.int .u8 12), .lit (.int .u8 18), .lit (.int .u8 6), .lit (.int .u8 11), .lit (.int .u8 5), .lit (.int .u8 10), .lit (.int .u8 9)]

/-- 'dioptralaw12.GivensTurns': WHATEVER THE INPUT: true; the input reads as it did. -/
def givensTurnsSpec : ChangeSpec := { name := "givensTurns", fn := fun _ => fun
  | [d1, d2] => { results := [.lit (.bool true)], args := [d1, d2] }
  | _ => none }
def givensTurnsRow : OpenClaim := { program := "ytceofkjefmilfaagreatdoor", sum := "ca3677fbcdfdc0aa6f26d83f6871367d8d71e4c95a6abb6039b466aad69ebaaa", func := "dioptra/dioptralaw12.GivensTurns", spec := "givensTurns", inPlace := ["math.Float64frombits", "math.Float64bits", "math.sqrt"], unfollowed := true, recurses := true, named := ["math/bits.deBruijn32tab"], apart := false, laid := [("math/bits.deBruijn32tab", laid_math_bits_deBruijn32tab)] }
def GivensTurnsSaid : Prop := givensTurnsRow.holds Tryz.pinned (OpenSpec.ofChange givensTurnsSpec)

/-- ITS FALSE NEIGHBOUR: 'it returns false'. Refute it at one input. -/
def givensTurnsWrong : ChangeSpec := { name := "givensTurns", fn := fun _ => fun
  | [d1, d2] => { results := [.lit (.bool false)], args := [d1, d2] }
  | _ => none }
def GivensTurnsWrongFalsely : Prop := givensTurnsRow.holds Tryz.pinned (OpenSpec.ofChange givensTurnsWrong)

/-- 'dioptralaw12.GivensRows': WHATEVER THE INPUT: true; the input reads as it did. -/
def givensRowsSpec : ChangeSpec := { name := "givensRows", fn := fun _ => fun
  | [d1, d2, d3] => { results := [.lit (.bool true)], args := [d1, d2, d3] }
  | _ => none }
def givensRowsRow : OpenClaim := { program := "ytceofkjefmilfaagreatdoor", sum := "ca3677fbcdfdc0aa6f26d83f6871367d8d71e4c95a6abb6039b466aad69ebaaa", func := "dioptra/dioptralaw12.GivensRows", spec := "givensRows", inPlace := ["math.Float64frombits", "math.Float64bits"], unfollowed := true, recurses := true, named := ["math/bits.deBruijn32tab"], apart := false, laid := [("math/bits.deBruijn32tab", laid_math_bits_deBruijn32tab)] }
def GivensRowsSaid : Prop := givensRowsRow.holds Tryz.pinned (OpenSpec.ofChange givensRowsSpec)

/-- ITS FALSE NEIGHBOUR: 'it returns false'. Refute it at one input. -/
def givensRowsWrong : ChangeSpec := { name := "givensRows", fn := fun _ => fun
  | [d1, d2, d3] => { results := [.lit (.bool false)], args := [d1, d2, d3] }
  | _ => none }
def GivensRowsWrongFalsely : Prop := givensRowsRow.holds Tryz.pinned (OpenSpec.ofChange givensRowsWrong)

/-- 'dioptralaw12.GivensOne': WHATEVER THE INPUT: true; the input reads as it did. -/
def givensOneSpec : ChangeSpec := { name := "givensOne", fn := fun _ => fun
  | [d1, d2] => { results := [.lit (.bool true)], args := [d1, d2] }
  | _ => none }
def givensOneRow : OpenClaim := { program := "ytceofkjefmilfaagreatdoor", sum := "ca3677fbcdfdc0aa6f26d83f6871367d8d71e4c95a6abb6039b466aad69ebaaa", func := "dioptra/dioptralaw12.GivensOne", spec := "givensOne", unfollowed := true, recurses := true, named := ["math/bits.deBruijn32tab"], apart := false, laid := [("math/bits.deBruijn32tab", laid_math_bits_deBruijn32tab)] }
def GivensOneSaid : Prop := givensOneRow.holds Tryz.pinned (OpenSpec.ofChange givensOneSpec)

/-- ITS FALSE NEIGHBOUR: 'it returns false'. Refute it at one input. -/
def givensOneWrong : ChangeSpec := { name := "givensOne", fn := fun _ => fun
  | [d1, d2] => { results := [.lit (.bool false)], args := [d1, d2] }
  | _ => none }
def GivensOneWrongFalsely : Prop := givensOneRow.holds Tryz.pinned (OpenSpec.ofChange givensOneWrong)

/-- 'dioptralaw12.GivensRight': WHATEVER THE INPUT: true; the input reads as it did. -/
def givensRightSpec : ChangeSpec := { name := "givensRight", fn := fun _ => fun
  | [d1, d2] => { results := [.lit (.bool true)], args := [d1, d2] }
  | _ => none }
def givensRightRow : OpenClaim := { program := "ytceofkjefmilfaagreatdoor", sum := "ca3677fbcdfdc0aa6f26d83f6871367d8d71e4c95a6abb6039b466aad69ebaaa", func := "dioptra/dioptralaw12.GivensRight", spec := "givensRight", unfollowed := true, recurses := true, named := ["math/bits.deBruijn32tab"], apart := false, laid := [("math/bits.deBruijn32tab", laid_math_bits_deBruijn32tab)] }
def GivensRightSaid : Prop := givensRightRow.holds Tryz.pinned (OpenSpec.ofChange givensRightSpec)

/-- ITS FALSE NEIGHBOUR: 'it returns false'. Refute it at one input. -/
def givensRightWrong : ChangeSpec := { name := "givensRight", fn := fun _ => fun
  | [d1, d2] => { results := [.lit (.bool false)], args := [d1, d2] }
  | _ => none }
def GivensRightWrongFalsely : Prop := givensRightRow.holds Tryz.pinned (OpenSpec.ofChange givensRightWrong)

/-- 'dioptralaw12.GivensKeeps': WHATEVER THE INPUT: true; the input reads as it did. -/
def givensKeepsSpec : ChangeSpec := { name := "givensKeeps", fn := fun _ => fun
  | [d1, d2, d3] => { results := [.lit (.bool true)], args := [d1, d2, d3] }
  | _ => none }
def givensKeepsRow : OpenClaim := { program := "ytceofkjefmilfaagreatdoor", sum := "ca3677fbcdfdc0aa6f26d83f6871367d8d71e4c95a6abb6039b466aad69ebaaa", func := "dioptra/dioptralaw12.GivensKeeps", spec := "givensKeeps", unfollowed := true, recurses := true, named := ["math/bits.deBruijn32tab"], apart := false, laid := [("math/bits.deBruijn32tab", laid_math_bits_deBruijn32tab)] }
def GivensKeepsSaid : Prop := givensKeepsRow.holds Tryz.pinned (OpenSpec.ofChange givensKeepsSpec)

/-- ITS FALSE NEIGHBOUR: 'it returns false'. Refute it at one input. -/
def givensKeepsWrong : ChangeSpec := { name := "givensKeeps", fn := fun _ => fun
  | [d1, d2, d3] => { results := [.lit (.bool false)], args := [d1, d2, d3] }
  | _ => none }
def GivensKeepsWrongFalsely : Prop := givensKeepsRow.holds Tryz.pinned (OpenSpec.ofChange givensKeepsWrong)

/- THE SECOND FORM. 'bulk': how many values and letters a reading holds, each counted each time it is reached (what is shared counts as often as it is met; a slice's spare places count too). A statement '..UptoSaid' is the law's where the arguments, and the package variables that the reading takes, are together of bulk at most 1048576: NARROWER than '..Said'. Prove '..Said' where nothing that the law and all that it calls make is longer than what came in: it says more and counts as full. Else prove '..UptoSaid'. A law counts once. -/
mutual
def uptoBulk {H : Type} : DataW H → Nat
  | .lit (.string bytes) => bytes.length + 1
  | .lit _ => 1
  | .nil => 1
  | .ptr d => uptoBulk d + 1
  | .slice elems spare => uptoBulkAll elems + uptoBulkAll spare + 1
  | .agg parts => uptoBulkAll parts + 1
  | .iface _ d => uptoBulk d + 1
  | .map entries => uptoBulkEntries entries + 1
  | .held _ => 1
def uptoBulkAll {H : Type} : List (DataW H) → Nat
  | [] => 0
  | d :: r => uptoBulk d + uptoBulkAll r
def uptoBulkEntries {H : Type} : List (Lit × DataW H) → Nat
  | [] => 0
  | x :: r => uptoBulkEntry x + uptoBulkEntries r
def uptoBulkEntry {H : Type} : Lit × DataW H → Nat
  | (.string bytes, d) => bytes.length + uptoBulk d + 1
  | (_, d) => uptoBulk d + 1
 end
def uptoSmall : (H : Type) → List (DataW H) → Bool := fun _ ds => decide (uptoBulkAll ds ≤ 1048576)
def OpenSpec.upto (s : _root_.Go.ChangeSpec) : _root_.Go.OpenSpec := { _root_.Go.OpenSpec.ofChange s with cond := some uptoSmall }

/-- 'dioptralaw12.GivensTurns', WHERE WHAT IT READS IS OF BULK AT MOST 1048576: true; the input reads as it did. -/
def givensTurnsUptoRow : OpenClaim := { program := "ytceofkjefmilfaagreatdoor", sum := "ca3677fbcdfdc0aa6f26d83f6871367d8d71e4c95a6abb6039b466aad69ebaaa", func := "dioptra/dioptralaw12.GivensTurns", spec := "givensTurns", inPlace := ["math.Float64frombits", "math.Float64bits", "math.sqrt"], unfollowed := true, recurses := true, named := ["math/bits.deBruijn32tab"], apart := false, laid := [("math/bits.deBruijn32tab", laid_math_bits_deBruijn32tab)], narrowed := true }
def GivensTurnsUptoSaid : Prop := givensTurnsUptoRow.holds Tryz.pinned (OpenSpec.upto givensTurnsSpec)

/-- 'dioptralaw12.GivensRows', WHERE WHAT IT READS IS OF BULK AT MOST 1048576: true; the input reads as it did. -/
def givensRowsUptoRow : OpenClaim := { program := "ytceofkjefmilfaagreatdoor", sum := "ca3677fbcdfdc0aa6f26d83f6871367d8d71e4c95a6abb6039b466aad69ebaaa", func := "dioptra/dioptralaw12.GivensRows", spec := "givensRows", inPlace := ["math.Float64frombits", "math.Float64bits"], unfollowed := true, recurses := true, named := ["math/bits.deBruijn32tab"], apart := false, laid := [("math/bits.deBruijn32tab", laid_math_bits_deBruijn32tab)], narrowed := true }
def GivensRowsUptoSaid : Prop := givensRowsUptoRow.holds Tryz.pinned (OpenSpec.upto givensRowsSpec)

/-- 'dioptralaw12.GivensOne', WHERE WHAT IT READS IS OF BULK AT MOST 1048576: true; the input reads as it did. -/
def givensOneUptoRow : OpenClaim := { program := "ytceofkjefmilfaagreatdoor", sum := "ca3677fbcdfdc0aa6f26d83f6871367d8d71e4c95a6abb6039b466aad69ebaaa", func := "dioptra/dioptralaw12.GivensOne", spec := "givensOne", unfollowed := true, recurses := true, named := ["math/bits.deBruijn32tab"], apart := false, laid := [("math/bits.deBruijn32tab", laid_math_bits_deBruijn32tab)], narrowed := true }
def GivensOneUptoSaid : Prop := givensOneUptoRow.holds Tryz.pinned (OpenSpec.upto givensOneSpec)

/-- 'dioptralaw12.GivensRight', WHERE WHAT IT READS IS OF BULK AT MOST 1048576: true; the input reads as it did. -/
def givensRightUptoRow : OpenClaim := { program := "ytceofkjefmilfaagreatdoor", sum := "ca3677fbcdfdc0aa6f26d83f6871367d8d71e4c95a6abb6039b466aad69ebaaa", func := "dioptra/dioptralaw12.GivensRight", spec := "givensRight", unfollowed := true, recurses := true, named := ["math/bits.deBruijn32tab"], apart := false, laid := [("math/bits.deBruijn32tab", laid_math_bits_deBruijn32tab)], narrowed := true }
def GivensRightUptoSaid : Prop := givensRightUptoRow.holds Tryz.pinned (OpenSpec.upto givensRightSpec)

/-- 'dioptralaw12.GivensKeeps', WHERE WHAT IT READS IS OF BULK AT MOST 1048576: true; the input reads as it did. -/
def givensKeepsUptoRow : OpenClaim := { program := "ytceofkjefmilfaagreatdoor", sum := "ca3677fbcdfdc0aa6f26d83f6871367d8d71e4c95a6abb6039b466aad69ebaaa", func := "dioptra/dioptralaw12.GivensKeeps", spec := "givensKeeps", unfollowed := true, recurses := true, named := ["math/bits.deBruijn32tab"], apart := false, laid := [("math/bits.deBruijn32tab", laid_math_bits_deBruijn32tab)], narrowed := true }
def GivensKeepsUptoSaid : Prop := givensKeepsUptoRow.holds Tryz.pinned (OpenSpec.upto givensKeepsSpec)

end Rows
end Go.Proofs.YtceofkjefmilfaaGreatDoor
