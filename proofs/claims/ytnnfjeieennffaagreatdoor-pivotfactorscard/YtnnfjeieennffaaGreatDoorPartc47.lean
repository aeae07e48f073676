/- Part 47 of the texts. -/
import Derived.Test.YtnnfjeieennffaaGreatDoorPartc46
import Derived.Lib.SmallJoins
import Derived.Test.YtnnfjeieennffaaGreatDoorRows
import Derived.Deep.DeepHandedRow
namespace Go.Proofs.YtnnfjeieennffaaGreatDoor
open Go.RowKit
theorem kU(r c:Int)(f:Option Addr)(d:Nat)(I:List Int)(w:World)(D:ad w f d I)(z:I.length≤17592186043904)(_hr:-9223372036854775808≤r∧r≤9223372036854775807)(_hc:-9223372036854775808≤c∧c≤9223372036854775807)(A:cC w):
  Calls Tryz.prog 3 #[.agg #[.int .i64 r,.int .i64 c,.slice f I.length d]] w fun e w'=>e=.returned (.bool true)∧Below w.heap.size w w':=
 mC r c f d I w D z (fun w' F G _ H h=>uk r c F G I w' H z h) (fun w' f d r c S l h m t=>wl r c d f S w' h m t (A.all l)) (fun w' f d r c S l h m t=>ul r c d f S w' h m t (A.all l))
end Go.Proofs.YtnnfjeieennffaaGreatDoor
namespace Go.Proofs.YtnnfjeieennffaaGreatDoor
open Go.ChangeShapes Go.WideShapes Go.ChangeAt Go.RowKit Go.Joins
theorem Tryz.own:ownKnob Tryz.prog.godebug=none:=by kernel_rfl
theorem Tryz.laidOut:laidOutB Tryz.prog=true:=by kernel_rfl
end Go.Proofs.YtnnfjeieennffaaGreatDoor
namespace Go.Proofs.YtnnfjeieennffaaGreatDoor
theorem jJ{x:Int}(h:(Lit.int .i64 x).wf=true):-9223372036854775808≤x∧x≤9223372036854775807:=by
 simp[Lit.wf,IntKind.min,IntKind.max,IntKind.signed,IntKind.bits]at h
 omega
open Go.ChangeShapes Go.WideShapes Go.ChangeAt Go.RowKit Go.Joins
theorem Tryz.tabName:Tryz.prog.globalNamed "math/bits.deBruijn32tab" =some 1:=by kernel_rfl
theorem Tryz.tabType:(Tryz.prog.globals[1]?).map (·.type)=some 202:=by kernel_rfl
theorem Tryz.tabCells:Tryz.prog.cellsOf 202=32:=by kernel_rfl
theorem Tryz.byteCells:Tryz.prog.cellsOf 5=1:=by kernel_rfl
theorem Dv:∀j,j<Lib.deBruijn32tab.length→(List.map Int.ofNat Lib.deBruijn32tab).getD j 0=((Lib.deBruijn32tab.getD j 0:Nat):Int):=by decide
theorem um{W:World}(h:laidMetH Tryz.prog [("math/bits.deBruijn32tab",Rows.laid_math_bits_deBruijn32tab)] W):cC W:=by
 have f:=Lib.tabIs_of_head (zs:=Lib.deBruijn32tab.map Int.ofNat) (rest:=[]) Tryz.tabName Tryz.tabType Tryz.underlying202 Tryz.underlying5 Tryz.byteCells Tryz.tabCells h
 intro j d
 have:=f.cell Tryz.tabName j (by simpa using d)
 rw[this]
 congr 2
 exact Dv j d
end Go.Proofs.YtnnfjeieennffaaGreatDoor
namespace Go.Proofs.YtnnfjeieennffaaGreatDoor
open Go.ChangeShapes Go.WideShapes Go.ChangeAt Go.RowKit Go.Joins Go.Deep
theorem Tryz.cellsBits:Tryz.prog.cellsOf 31=1:=by kernel_rfl
theorem Tryz.bytesBits:Tryz.prog.bytesOf 31=8:=by kernel_rfl
theorem rD{W:World}{a:Addr}{v:Value}(h:W.cell? a=some v):a.spot=none∧a.block<W.heap.size:=⟨World.cell?_spot h,World.block_lt_of_cell? W _ h⟩
theorem uo(b d i:Nat):(⟨b,d,none⟩:Addr).add i=⟨b,d+i,none⟩:=by simp[Addr.add]
theorem pC{x:Int}(h:(Lit.int .u64 x).wf=true):0≤x∧x≤18446744073709551615:=by
 simp[Lit.wf,IntKind.min,IntKind.max,IntKind.signed,IntKind.bits]at h
 omega
end Go.Proofs.YtnnfjeieennffaaGreatDoor
