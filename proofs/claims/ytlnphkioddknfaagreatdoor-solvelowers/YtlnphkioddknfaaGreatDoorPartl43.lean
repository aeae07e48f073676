/- Part 43 of the texts. -/
import Derived.Test.YtlnphkioddknfaaGreatDoorChecked
import Derived.Test.YtlnphkioddknfaaGreatDoorPartl02
import Derived.ProofKit
import Derived.SizedLaws
import Derived.Lib.SmallJoins
import Derived.Test.YtlnphkioddknfaaGreatDoorRows
import Derived.Test.YtlnphkioddknfaaGreatDoorPartl11
import Derived.Lib.LaidTab
import Derived.OpenShut
import Derived.Deep.DeepHandedRow
import Derived.Test.YtlnphkioddknfaaGreatDoorPartl26
import Derived.Deep.Strs
set_option maxRecDepth 20000
namespace Go.Proofs.YtlnphkioddknfaaGreatDoor
open Go.ChangeShapes Go.WideShapes Go.ChangeAt Go.RowKit Go.Joins
theorem Tryz.own:ownKnob Tryz.prog.godebug = none:=by kernel_rfl
theorem Tryz.laidOut:laidOutB Tryz.prog = true:=by kernel_rfl
end Go.Proofs.YtlnphkioddknfaaGreatDoor
namespace Go.Proofs.YtlnphkioddknfaaGreatDoor
theorem bounds_of_i64 {x:Int} (h:(Lit.int .i64 x).wf = true):-9223372036854775808≤x∧x≤9223372036854775807:=by
 simp [Lit.wf,IntKind.min,IntKind.max,IntKind.signed,IntKind.bits] at h
 omega
end Go.Proofs.YtlnphkioddknfaaGreatDoor
namespace Go.Proofs.YtlnphkioddknfaaGreatDoor
open Go.ChangeShapes Go.WideShapes Go.ChangeAt Go.RowKit Go.Joins
theorem Tryz.tabName:Tryz.prog.globalNamed "math/bits.deBruijn32tab" = some 1:=by kernel_rfl
theorem Tryz.tabType:(Tryz.prog.globals[1]?).map (·.type) = some 245:=by kernel_rfl
theorem Tryz.tabCells:Tryz.prog.cellsOf 245 = 32:=by kernel_rfl
theorem Tryz.byteCells:Tryz.prog.cellsOf 5 = 1:=by kernel_rfl
theorem tab_getD:∀ j,j < Lib.deBruijn32tab.length→(List.map Int.ofNat Lib.deBruijn32tab).getD j 0 = ((Lib.deBruijn32tab.getD j 0:Nat):Int):=by decide
theorem tab_of_laid {W:World} (h:laidMetH Tryz.prog [("math/bits.deBruijn32tab",Rows.laid_math_bits_deBruijn32tab)] W):Tab W:=by
 have ht:=Lib.tabIs_of_head (zs:=Lib.deBruijn32tab.map Int.ofNat) (rest:=[]) Tryz.tabName Tryz.tabType Tryz.underlying245 Tryz.underlying5 Tryz.byteCells Tryz.tabCells h
 intro j hj
 have:=ht.cell Tryz.tabName j (by simpa using hj)
 rw [this]
 congr 2
 exact tab_getD j hj
end Go.Proofs.YtlnphkioddknfaaGreatDoor
namespace Go.Proofs.YtlnphkioddknfaaGreatDoor
open Go.ChangeShapes Go.WideShapes Go.ChangeAt Go.RowKit Go.Joins Go.Deep
theorem Tryz.cellsBits:Tryz.prog.cellsOf 37 = 1:=by kernel_rfl
theorem Tryz.bytesBits:Tryz.prog.bytesOf 37 = 8:=by kernel_rfl
theorem cellOf_plain {W:World} {a:Addr} {v:Value} (h:W.cell? a = some v):a.spot = none∧a.block < W.heap.size:=⟨World.cell?_spot h,World.block_lt_of_cell? W _ h⟩
theorem addOf_plain (b off i:Nat):(⟨b,off,none⟩:Addr).add i = ⟨b,off+i,none⟩:=by simp [Addr.add]
theorem bounds_of_u64 {x:Int} (h:(Lit.int .u64 x).wf = true):0≤x∧x≤18446744073709551615:=by
 simp [Lit.wf,IntKind.min,IntKind.max,IntKind.signed,IntKind.bits] at h
 omega
end Go.Proofs.YtlnphkioddknfaaGreatDoor
namespace Go.Proofs.YtlnphkioddknfaaGreatDoor
open Go.ChangeShapes Go.WideShapes Go.ChangeAt Go.RowKit Go.Joins Go.Deep
theorem Tryz.cellsMx:Tryz.prog.cellsOf 24 = 3:=by kernel_rfl
theorem open_matrix {H:Type} {enc:TypeId × Value→H} {W:World} {base:Nat} {v:Value} {d:DataW H} {p:List MemPlace} (hval:Value.okWide Tryz.prog W .any base 24 v) (h:DataW.Trod enc Tryz.prog W 0 (fun _=>true) true 24 v d p)
  (hs:∀ n ∈ d.weights Tryz.prog 24,n≤reachBytes) :
  ∃ (r c:Int) (ao:Option Addr) (cap:Nat) (I:List Int),v = .agg #[.int .i64 r,.int .i64 c,.slice ao I.length cap]∧BitsAt W ao cap I∧I.length≤17592186043904∧(-9223372036854775808≤r∧r≤9223372036854775807)∧(-9223372036854775808≤c∧c≤9223372036854775807):=by
 obtain ⟨c0,c1,c2,y0,y1,y2,m,rfl,rfl,rfl,hy0,hy1,hy2⟩:=open_agg3 Tryz.underlying24 (by kernel_rfl) Tryz.cellsMx hval h
 obtain ⟨r,e0,_,w0⟩:=DataW.trod_int Tryz.underlying3 hy0
 simp at e0
 subst e0
 obtain ⟨c,e1,_,w1⟩:=DataW.trod_int Tryz.underlying3 hy1
 simp at e1
 subst e1
 have b0:=bounds_of_i64 w0
 have b1:=bounds_of_i64 w1
 rcases open_ints Tryz.underlying22 Tryz.underlying37 Tryz.cellsBits hy2 with ⟨hcs,_⟩ | ⟨a,len0,cap0,zs,hcs,_,hl,hm,hz,hx,hcell,hwz⟩
 ·simp at hcs
  subst hcs
  exact ⟨r,c,none,0,[],rfl,⟨by simp,by simp,.inl rfl⟩,by simp,b0,b1⟩
 ·simp at hcs
  subst hcs
  have hzc:zs.length = cap0:=by simpa using hz
  have hlen:(zs.take len0).length = len0:=by simp;omega
  refine ⟨r,c,some a,cap0,zs.take len0,by rw [hlen],⟨by omega,fun x hx=>bounds_of_u64 (hwz x (List.mem_of_mem_take hx)),?_⟩,?_,b0,b1⟩
  ·rcases Nat.eq_zero_or_pos len0 with rfl | hp
   ·left;simp
   ·right
    obtain ⟨b,off,spot⟩:=a
    obtain ⟨e1,e2⟩:=cellOf_plain (hcell 0 (by omega))
    have hspot:spot = none:=by simpa [Addr.add] using e1
    subst hspot
    refine ⟨b,off,rfl,by simpa [Addr.add] using e2,fun i hi=>?_⟩
    have h1:=hcell i (by omega)
    rw [addOf_plain] at h1
    rw [h1,List.getElem?_take,if_pos (by omega),List.getD_eq_getElem?_getD]
  ·rw [hx] at hs
   have hk:=hs ((zs.length) * 8) (by
    simp only [DataW.weights,Tryz.underlying24,DataW.weightsEach,List.map,Tryz.underlying22,List.append_nil,List.mem_cons,List.mem_append,Tryz.bytesBits,lits,List.length_map,List.length_take,List.length_drop]
    refine .inr (.inr (.inl ?_))
    omega)
   simp only [reachBytes] at hk
   omega
end Go.Proofs.YtlnphkioddknfaaGreatDoor
