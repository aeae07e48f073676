/- Part 37 of the texts. -/
import Derived.Test.YtnnfjeieennffaaGreatDoorParte09
import Derived.Lib.BitFns
import Derived.Test.YtnnfjeieennffaaGreatDoorParte33
import Derived.Test.YtnnfjeieennffaaGreatDoorParte08
import Derived.Test.YtnnfjeieennffaaGreatDoorParte05
import Derived.Maps.AppendAt
import Derived.Test.YtnnfjeieennffaaGreatDoorParte34
import Derived.Test.YtnnfjeieennffaaGreatDoorParte10
import Derived.Test.YtnnfjeieennffaaGreatDoorParte02
import Derived.Test.YtnnfjeieennffaaGreatDoorParte07
import Derived.Maps.Own
import Derived.Maps.OwnOps
import Derived.Maps.OwnSet
import Derived.DeepKeys4
import Derived.WalkSmall
import Derived.Deep.RegionHeld3
import Derived.Deep.AppendLies
import Derived.Test.YtnnfjeieennffaaGreatDoorParte01
import Derived.Test.YtnnfjeieennffaaGreatDoorParte35
import Derived.Test.YtnnfjeieennffaaGreatDoorParte30
import Derived.Test.YtnnfjeieennffaaGreatDoorParte28
import Derived.Test.YtnnfjeieennffaaGreatDoorParte31
import Derived.Test.YtnnfjeieennffaaGreatDoorParte16
import Derived.Test.YtnnfjeieennffaaGreatDoorParte17
import Derived.Test.YtnnfjeieennffaaGreatDoorParte18
import Derived.Deep.Cut
import Derived.BigQuiet
import Derived.Test.YtnnfjeieennffaaGreatDoorParte32
import Derived.Test.YtnnfjeieennffaaGreatDoorParte36
import Derived.Test.YtnnfjeieennffaaGreatDoorParte27
import Derived.Test.YtnnfjeieennffaaGreatDoorParte21
set_option maxHeartbeats 2000000
set_option maxRecDepth 20000
namespace Go.Proofs.YtnnfjeieennffaaGreatDoor
open Go.RowKit
attribute [local go_sem ↓] Go.wp_at_zero Go.wp_at_succ
def nilAt (N:List Rw) (i c:Nat):Prop:=(nmAt (rwAt N i).R c).L.length = 0
end Go.Proofs.YtnnfjeieennffaaGreatDoor
namespace Go.Proofs.YtnnfjeieennffaaGreatDoor
open Go.RowKit
def KK:Nat→Nat
 | 0=>2098
 | c+1=>2 * KK c+1
end Go.Proofs.YtnnfjeieennffaaGreatDoor
namespace Go.Proofs.YtnnfjeieennffaaGreatDoor
open Go.RowKit
attribute [local go_sem ↓] Go.wp_at_zero Go.wp_at_succ
def mkJ (g:Nat→Nat) (j:Nat):List Nat:=4607182418800017408 :: fsL g (j - 1)
end Go.Proofs.YtnnfjeieennffaaGreatDoor
namespace Go.Proofs.YtnnfjeieennffaaGreatDoor
open Go.RowKit
theorem toN_cons {I:List Int} (h:1≤I.length):toN I = atB I 0 :: (toN I).drop 1:=by
 have h1:0 < (toN I).length:=by rw [toN_len];omega
 have:=List.drop_eq_getElem_cons h1
 rw [List.drop_zero] at this
 rw [this]
 congr 1
 have e:=toN_at I 0 (by omega)
 rw [List.getElem?_eq_getElem h1] at e
 exact Option.some.inj e
theorem drop_getD (I:List Int) {j:Nat} (h:j+1 < I.length):((toN I).drop 1).getD j 0 = atB I (j+1):=by
 rw [List.getD_eq_getElem?_getD,List.getElem?_drop,Nat.add_comm 1 j,toN_at I (j+1) h]
 rfl
theorem mr_mkJ {I:List Int} (h:1≤I.length) (k:Nat→Nat) (hk:∀ x,(if ngt ((toN I).drop 1) = true then 0 else dV x (hmD (atB I 0) ((toN I).drop 1))) = k x):mrV (toN I) = mkJ (fun j=>k (atB I (j+1))) I.length:=by
 have hl:((toN I).drop 1).length = I.length - 1:=by rw [List.length_drop,toN_len]
 rw [toN_cons h]
 show 4607182418800017408 :: ((toN I).drop 1).map (fun x=>if ngt ((toN I).drop 1) = true then 0 else dV x (hmD (atB I 0) ((toN I).drop 1))) = 4607182418800017408 :: fsL (fun j=>k (atB I (j+1))) (I.length - 1)
 congr 1
 rw [List.map_congr_left (g:=k) (fun x _=>hk x),list_range ((toN I).drop 1),List.map_map,hl]
 unfold fsL
 refine List.map_congr_left (fun j hj=>?_)
 show k (((toN I).drop 1).getD j 0) = _
 rw [drop_getD I (by have:=List.mem_range.1 hj;omega)]
theorem mk_facts {I:List Int} (h:1≤I.length):mrB (toN I) = (if ngt ((toN I).drop 1) = true then atB I 0 else hmB (atB I 0) ((toN I).drop 1))∧mrT (toN I) = (if ngt ((toN I).drop 1) = true then 0 else dV (aV (hmB (atB I 0) ((toN I).drop 1)) (fN (atB I 0))) (hmB (atB I 0) ((toN I).drop 1)))∧mrK (toN I) = (ngt ((toN I).drop 1) || (fFin (hmB (atB I 0) ((toN I).drop 1)) && fFin (hmD (atB I 0) ((toN I).drop 1)))):=by
 have e:=toN_cons h
 refine ⟨?_,?_,?_⟩
 ·conv=>lhs;rw [e]
  rfl
 ·conv=>lhs;rw [e]
  rfl
 ·conv=>lhs;rw [e]
  rfl
end Go.Proofs.YtnnfjeieennffaaGreatDoor
namespace Go.Proofs.YtnnfjeieennffaaGreatDoor
open Go.RowKit
attribute [local go_sem ↓] Go.wp_at_zero Go.wp_at_succ
def lsB (a b:Nat):Bool:=decide (cO a b < 0)
theorem rless16_any (a b:Nat) (w:World) (ha:a < 18446744073709551616) (hb:b < 18446744073709551616) :
  Calls Tryz.prog 47 #[.int .u64 a,.int .u64 b] w fun e w'=>e = .returned (.bool (lsB a b))∧Below w.heap.size w w':=by
 have K:=hide (fun w'=>rorder_any a b w' ha hb)
 unfold lsB
 generalize cO a b = o at *
 generalize cB a b = t at *
 clear ha hb
 go_enter Tryz.func47,Tryz.ntmps47
 go_wp2_with fail
 refine (uH K _).mono ?_
 rintro e w1 ⟨rfl,hb⟩
 have HB:=hide hb
 clear hb K
 go_wp2
 go_ret
 exact ⟨by first | rfl | simp,uH HB⟩
end Go.Proofs.YtnnfjeieennffaaGreatDoor
