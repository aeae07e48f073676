/- Part 31 of the texts. -/
import Derived.Test.YtenpggicmfhhdaaGreatDoorParta29
import Derived.Test.YtenpggicmfhhdaaGreatDoorParta23
import Derived.Test.YtenpggicmfhhdaaGreatDoorParta24
import Derived.Test.YtenpggicmfhhdaaGreatDoorParta25
import Derived.Test.YtenpggicmfhhdaaGreatDoorParta27
import Derived.Test.YtenpggicmfhhdaaGreatDoorParta13
import Derived.Test.YtenpggicmfhhdaaGreatDoorParta14
import Derived.Test.YtenpggicmfhhdaaGreatDoorParta12
import Derived.Test.YtenpggicmfhhdaaGreatDoorParta11
import Derived.Deep.Cut
import Derived.BigQuiet
import Derived.Test.YtenpggicmfhhdaaGreatDoorParta05
import Derived.Test.YtenpggicmfhhdaaGreatDoorParta02
import Derived.Maps.AppendAt
import Derived.Test.YtenpggicmfhhdaaGreatDoorParta08
import Derived.Lib.BitFns
import Derived.Test.YtenpggicmfhhdaaGreatDoorParta07
import Derived.Test.YtenpggicmfhhdaaGreatDoorParta06
import Derived.Test.YtenpggicmfhhdaaGreatDoorParta01
import Derived.Maps.Own
import Derived.Maps.OwnOps
import Derived.Maps.OwnSet
import Derived.DeepKeys4
import Derived.WalkSmall
import Derived.OwnWalk
import Derived.Deep.AppendLies
import Derived.Test.YtenpggicmfhhdaaGreatDoorParta26
import Derived.Test.YtenpggicmfhhdaaGreatDoorParta30
import Derived.Deep.RegionHeld3
import Derived.Test.YtenpggicmfhhdaaGreatDoorParta18
import Derived.Test.YtenpggicmfhhdaaGreatDoorParta16
import Derived.Test.YtenpggicmfhhdaaGreatDoorParta17
import Derived.Test.YtenpggicmfhhdaaGreatDoorParta28
import Derived.Deep.CutRange
namespace Go.Proofs.YtenpggicmfhhdaaGreatDoor
open Go.RowKit
attribute [local go_sem ↓] Go.wp_at_zero Go.wp_at_succ
def mkJ (g:Nat→Nat) (j:Nat):List Nat:=4607182418800017408 :: fsL g (j - 1)
end Go.Proofs.YtenpggicmfhhdaaGreatDoor
namespace Go.Proofs.YtenpggicmfhhdaaGreatDoor
open Go.RowKit
theorem toN_cons {I:List Int} (h:1≤I.length):toN I = atB I 0 :: (toN I).drop 1:=by
 have h1:0 < (toN I).length:=by rw [toN_len];omega
 have:=List.drop_eq_getElem_cons h1
 rw [List.drop_zero] at this
 rw [this]
 congr 1
 have e:=toN_at I 0 (by omega)
 rw [List.getElem?_eq_getElem h1] at e
 exact Option.some.inj e
theorem drop_getD (I:List Int) {j:Nat} (h:j+1 < I.length):((toN I).drop 1).getD j 0 = atB I (j+1):=by
 rw [List.getD_eq_getElem?_getD,List.getElem?_drop,Nat.add_comm 1 j,toN_at I (j+1) h]
 rfl
theorem mr_mkJ {I:List Int} (h:1≤I.length) (k:Nat→Nat) (hk:∀ x,(if ngt ((toN I).drop 1) = true then 0 else dV x (hmD (atB I 0) ((toN I).drop 1))) = k x):mrV (toN I) = mkJ (fun j=>k (atB I (j+1))) I.length:=by
 have hl:((toN I).drop 1).length = I.length - 1:=by rw [List.length_drop,toN_len]
 rw [toN_cons h]
 show 4607182418800017408 :: ((toN I).drop 1).map (fun x=>if ngt ((toN I).drop 1) = true then 0 else dV x (hmD (atB I 0) ((toN I).drop 1))) = 4607182418800017408 :: fsL (fun j=>k (atB I (j+1))) (I.length - 1)
 congr 1
 rw [List.map_congr_left (g:=k) (fun x _=>hk x),list_range ((toN I).drop 1),List.map_map,hl]
 unfold fsL
 refine List.map_congr_left (fun j hj=>?_)
 show k (((toN I).drop 1).getD j 0) = _
 rw [drop_getD I (by have:=List.mem_range.1 hj;omega)]
theorem mk_facts {I:List Int} (h:1≤I.length):mrB (toN I) = (if ngt ((toN I).drop 1) = true then atB I 0 else hmB (atB I 0) ((toN I).drop 1))∧mrT (toN I) = (if ngt ((toN I).drop 1) = true then 0 else dV (aV (hmB (atB I 0) ((toN I).drop 1)) (fN (atB I 0))) (hmB (atB I 0) ((toN I).drop 1)))∧mrK (toN I) = (ngt ((toN I).drop 1) || (fFin (hmB (atB I 0) ((toN I).drop 1)) && fFin (hmD (atB I 0) ((toN I).drop 1)))):=by
 have e:=toN_cons h
 refine ⟨?_,?_,?_⟩
 ·conv=>lhs;rw [e]
  rfl
 ·conv=>lhs;rw [e]
  rfl
 ·conv=>lhs;rw [e]
  rfl
end Go.Proofs.YtenpggicmfhhdaaGreatDoor
namespace Go.Proofs.YtenpggicmfhhdaaGreatDoor
open Go.RowKit
theorem qrK_all (r c:Nat) (S:List Nat):∀ K,qrK r c S K = true ↔ ∀ j,j < K→finL (qrX r c S j) = true∧mrK (qrX r c S j) = true:=by
 intro K
 induction K with
 | zero=>exact ⟨fun _ j h=>absurd h (Nat.not_lt_zero j),fun _=>rfl⟩
 | succ K ih =>
  show (qrK r c S K && (finL (qrX r c S K) && mrK (qrX r c S K))) = true ↔ _
  rw [Bool.and_eq_true,Bool.and_eq_true,ih]
  constructor
  ·rintro ⟨h1,h2⟩ j hj
   by_cases g:j < K
   ·exact h1 j g
   ·rw [show j = K by omega];exact h2
  ·intro h
   exact ⟨fun j hj=>h j (by omega),h K (by omega)⟩
theorem elS_lt {S:List Nat} (h:∀ x ∈ S,x < 18446744073709551616) (c p q:Nat):elM c S p q < 18446744073709551616:=by
 unfold elM
 rw [List.getD_eq_getElem?_getD]
 cases e:S[p * c+q]? with
 | none=>decide
 | some x=>exact h x (List.mem_of_getElem? e)
theorem colL_lt {S:List Nat} (h:∀ x ∈ S,x < 18446744073709551616) (c i n q:Nat):∀ x ∈ colL c S i n q,x < 18446744073709551616:=by
 intro x hx
 obtain ⟨j,_,rfl⟩:=List.mem_map.1 hx
 exact elS_lt h c _ _
theorem apS_lt {r c:Nat} {S:List Nat} (hS:∀ x ∈ S,x < 18446744073709551616) (i k:Nat) (vs:List Nat) (tau:Nat):∀ x ∈ apM r c S i k vs tau,x < 18446744073709551616:=by
 intro x hx
 unfold apM mkM at hx
 obtain ⟨p,_,rfl⟩:=List.mem_map.1 hx
 show (if _ then _ else _) < _
 split
 ·exact apL_lt c S i _ vs tau (by omega) (fun p q=>elS_lt hS c p q)
 ·exact elS_lt hS c _ _
theorem clS_lt {r c:Nat} {S:List Nat} (hS:∀ x ∈ S,x < 18446744073709551616) (j b:Nat) (hb:b < 18446744073709551616):∀ x ∈ clM r c S j b,x < 18446744073709551616:=by
 intro x hx
 unfold clM clJ mkM at hx
 obtain ⟨p,_,rfl⟩:=List.mem_map.1 hx
 show (if _ then (if _ then _ else _) else _) < _
 split
 ·split
  ·exact hb
  ·decide
 ·exact elS_lt hS c _ _
theorem qrR_lt {r c:Nat} {S:List Nat} (hS:∀ x ∈ S,x < 18446744073709551616):∀ j,∀ x ∈ qrR r c S j,x < 18446744073709551616
 | 0=>hS
 | j+1=>clS_lt (apS_lt (qrR_lt hS j) _ _ _ _) _ _ (mrB_lt _ (colL_lt (qrR_lt hS j) _ _ _ _))
end Go.Proofs.YtenpggicmfhhdaaGreatDoor
namespace Go.Proofs.YtenpggicmfhhdaaGreatDoor
open Go.RowKit
attribute [local go_sem ↓] Go.wp_at_zero Go.wp_at_succ
theorem sqK_sm (S:List Nat):∀ k,sqK (mxL S) k = smI (fun p=>fZ (S.getD p 0) * fZ (S.getD p 0)) k
 | 0=>rfl
 | k+1=>by
  show sqK (mxL S) k+fZ (atB (mxL S) k) * fZ (atB (mxL S) k) = smI _ k+_
  rw [sqK_sm S k,mxL_at]
theorem fnK_all {I:List Int}:∀ n,fnK I n = true ↔ ∀ k,k < n→fFin (atB I k) = true
 | 0=>⟨fun _ k hk=>by omega,fun _=>rfl⟩
 | n+1=>by
  show (fnK I n && fFin (atB I n)) = true ↔ _
  rw [Bool.and_eq_true,fnK_all n]
  constructor
  ·rintro ⟨h1,h2⟩ k hk
   by_cases e:k = n
   ·subst e;exact h2
   ·exact h1 k (by omega)
  ·exact fun h=>⟨fun k hk=>h k (by omega),h n (by omega)⟩
end Go.Proofs.YtenpggicmfhhdaaGreatDoor
namespace Go.Proofs.YtenpggicmfhhdaaGreatDoor
open Go.RowKit
attribute [local go_sem ↓] Go.wp_at_zero Go.wp_at_succ
theorem two_bits (w:World) (a b:Nat) (ha:a < 18446744073709551616) (hb:b < 18446744073709551616):BitsAt (w.alloc (.cells #[.int .u64 (a:Nat),.int .u64 (b:Nat)] 30)) (some ⟨w.heap.size,0,none⟩) 2 [(a:Int),(b:Int)]:=by
 have h:RowB (w.alloc (.cells #[.int .u64 (a:Nat),.int .u64 (b:Nat)] 30)) w.heap.size [a,b]:=heap_alloc_new w _
 exact h.bits (fun x hx=>by simp at hx;rcases hx with rfl | rfl;exact ha;exact hb)
end Go.Proofs.YtenpggicmfhhdaaGreatDoor
