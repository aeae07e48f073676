/- Part 38 of the texts. -/
import Derived.Test.YtlnphkioddknfaaGreatDoorParti09
import Derived.Lib.BitFns
import Derived.Test.YtlnphkioddknfaaGreatDoorParti31
import Derived.Test.YtlnphkioddknfaaGreatDoorParti08
import Derived.Test.YtlnphkioddknfaaGreatDoorParti05
import Derived.Maps.AppendAt
import Derived.OwnWalk
import Derived.Test.YtlnphkioddknfaaGreatDoorParti10
import Derived.Test.YtlnphkioddknfaaGreatDoorParti02
import Derived.Test.YtlnphkioddknfaaGreatDoorParti07
import Derived.Maps.Own
import Derived.Maps.OwnOps
import Derived.Maps.OwnSet
import Derived.DeepKeys4
import Derived.WalkSmall
import Derived.Deep.RegionHeld3
import Derived.Deep.AppendLies
import Derived.Test.YtlnphkioddknfaaGreatDoorParti01
import Derived.Test.YtlnphkioddknfaaGreatDoorParti36
import Derived.Test.YtlnphkioddknfaaGreatDoorParti28
import Derived.Test.YtlnphkioddknfaaGreatDoorParti30
import Derived.Test.YtlnphkioddknfaaGreatDoorParti16
import Derived.Test.YtlnphkioddknfaaGreatDoorParti17
import Derived.Test.YtlnphkioddknfaaGreatDoorParti18
import Derived.Deep.Cut
import Derived.BigQuiet
import Derived.Test.YtlnphkioddknfaaGreatDoorParti26
import Derived.Test.YtlnphkioddknfaaGreatDoorParti33
import Derived.Test.YtlnphkioddknfaaGreatDoorParti32
import Derived.Deep.RegionWith
namespace Go.Proofs.YtlnphkioddknfaaGreatDoor
open Go.RowKit
attribute [local go_sem ↓] Go.wp_at_zero Go.wp_at_succ
def nilAt (N:List Rw) (i c:Nat):Prop:=(nmAt (rwAt N i).R c).L.length = 0
end Go.Proofs.YtlnphkioddknfaaGreatDoor
namespace Go.Proofs.YtlnphkioddknfaaGreatDoor
open Go.RowKit
def KK:Nat→Nat
 | 0=>2098
 | c+1=>2 * KK c+1
end Go.Proofs.YtlnphkioddknfaaGreatDoor
namespace Go.Proofs.YtlnphkioddknfaaGreatDoor
open Go.RowKit
attribute [local go_sem ↓] Go.wp_at_zero Go.wp_at_succ
def mkJ (g:Nat→Nat) (j:Nat):List Nat:=4607182418800017408 :: fsL g (j - 1)
end Go.Proofs.YtlnphkioddknfaaGreatDoor
namespace Go.Proofs.YtlnphkioddknfaaGreatDoor
open Go.RowKit
theorem toN_cons {I:List Int} (h:1≤I.length):toN I = atB I 0 :: (toN I).drop 1:=by
 have h1:0 < (toN I).length:=by rw [toN_len];omega
 have:=List.drop_eq_getElem_cons h1
 rw [List.drop_zero] at this
 rw [this]
 congr 1
 have e:=toN_at I 0 (by omega)
 rw [List.getElem?_eq_getElem h1] at e
 exact Option.some.inj e
theorem drop_getD (I:List Int) {j:Nat} (h:j+1 < I.length):((toN I).drop 1).getD j 0 = atB I (j+1):=by
 rw [List.getD_eq_getElem?_getD,List.getElem?_drop,Nat.add_comm 1 j,toN_at I (j+1) h]
 rfl
theorem mr_mkJ {I:List Int} (h:1≤I.length) (k:Nat→Nat) (hk:∀ x,(if ngt ((toN I).drop 1) = true then 0 else dV x (hmD (atB I 0) ((toN I).drop 1))) = k x):mrV (toN I) = mkJ (fun j=>k (atB I (j+1))) I.length:=by
 have hl:((toN I).drop 1).length = I.length - 1:=by rw [List.length_drop,toN_len]
 rw [toN_cons h]
 show 4607182418800017408 :: ((toN I).drop 1).map (fun x=>if ngt ((toN I).drop 1) = true then 0 else dV x (hmD (atB I 0) ((toN I).drop 1))) = 4607182418800017408 :: fsL (fun j=>k (atB I (j+1))) (I.length - 1)
 congr 1
 rw [List.map_congr_left (g:=k) (fun x _=>hk x),list_range ((toN I).drop 1),List.map_map,hl]
 unfold fsL
 refine List.map_congr_left (fun j hj=>?_)
 show k (((toN I).drop 1).getD j 0) = _
 rw [drop_getD I (by have:=List.mem_range.1 hj;omega)]
theorem mk_facts {I:List Int} (h:1≤I.length):mrB (toN I) = (if ngt ((toN I).drop 1) = true then atB I 0 else hmB (atB I 0) ((toN I).drop 1))∧mrT (toN I) = (if ngt ((toN I).drop 1) = true then 0 else dV (aV (hmB (atB I 0) ((toN I).drop 1)) (fN (atB I 0))) (hmB (atB I 0) ((toN I).drop 1)))∧mrK (toN I) = (ngt ((toN I).drop 1) || (fFin (hmB (atB I 0) ((toN I).drop 1)) && fFin (hmD (atB I 0) ((toN I).drop 1)))):=by
 have e:=toN_cons h
 refine ⟨?_,?_,?_⟩
 ·conv=>lhs;rw [e]
  rfl
 ·conv=>lhs;rw [e]
  rfl
 ·conv=>lhs;rw [e]
  rfl
end Go.Proofs.YtlnphkioddknfaaGreatDoor
namespace Go.Proofs.YtlnphkioddknfaaGreatDoor
open Go.RowKit
theorem qrK_all (r c:Nat) (S:List Nat):∀ K,qrK r c S K = true ↔ ∀ j,j < K→finL (qrX r c S j) = true∧mrK (qrX r c S j) = true:=by
 intro K
 induction K with
 | zero=>exact ⟨fun _ j h=>absurd h (Nat.not_lt_zero j),fun _=>rfl⟩
 | succ K ih =>
  show (qrK r c S K && (finL (qrX r c S K) && mrK (qrX r c S K))) = true ↔ _
  rw [Bool.and_eq_true,Bool.and_eq_true,ih]
  constructor
  ·rintro ⟨h1,h2⟩ j hj
   by_cases g:j < K
   ·exact h1 j g
   ·rw [show j = K by omega];exact h2
  ·intro h
   exact ⟨fun j hj=>h j (by omega),h K (by omega)⟩
theorem elS_lt {S:List Nat} (h:∀ x ∈ S,x < 18446744073709551616) (c p q:Nat):elM c S p q < 18446744073709551616:=by
 unfold elM
 rw [List.getD_eq_getElem?_getD]
 cases e:S[p * c+q]? with
 | none=>decide
 | some x=>exact h x (List.mem_of_getElem? e)
theorem colL_lt {S:List Nat} (h:∀ x ∈ S,x < 18446744073709551616) (c i n q:Nat):∀ x ∈ colL c S i n q,x < 18446744073709551616:=by
 intro x hx
 obtain ⟨j,_,rfl⟩:=List.mem_map.1 hx
 exact elS_lt h c _ _
theorem apS_lt {r c:Nat} {S:List Nat} (hS:∀ x ∈ S,x < 18446744073709551616) (i k:Nat) (vs:List Nat) (tau:Nat):∀ x ∈ apM r c S i k vs tau,x < 18446744073709551616:=by
 intro x hx
 unfold apM mkM at hx
 obtain ⟨p,_,rfl⟩:=List.mem_map.1 hx
 show (if _ then _ else _) < _
 split
 ·exact apL_lt c S i _ vs tau (by omega) (fun p q=>elS_lt hS c p q)
 ·exact elS_lt hS c _ _
theorem clS_lt {r c:Nat} {S:List Nat} (hS:∀ x ∈ S,x < 18446744073709551616) (j b:Nat) (hb:b < 18446744073709551616):∀ x ∈ clM r c S j b,x < 18446744073709551616:=by
 intro x hx
 unfold clM clJ mkM at hx
 obtain ⟨p,_,rfl⟩:=List.mem_map.1 hx
 show (if _ then (if _ then _ else _) else _) < _
 split
 ·split
  ·exact hb
  ·decide
 ·exact elS_lt hS c _ _
theorem qrR_lt {r c:Nat} {S:List Nat} (hS:∀ x ∈ S,x < 18446744073709551616):∀ j,∀ x ∈ qrR r c S j,x < 18446744073709551616
 | 0=>hS
 | j+1=>clS_lt (apS_lt (qrR_lt hS j) _ _ _ _) _ _ (mrB_lt _ (colL_lt (qrR_lt hS j) _ _ _ _))
end Go.Proofs.YtlnphkioddknfaaGreatDoor
