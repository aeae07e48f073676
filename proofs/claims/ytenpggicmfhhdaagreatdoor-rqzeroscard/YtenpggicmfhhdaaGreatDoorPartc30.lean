/- Part 30 of the texts. -/
import Derived.Test.YtenpggicmfhhdaaGreatDoorPartc29
import Derived.Test.YtenpggicmfhhdaaGreatDoorPartc23
import Derived.Deep.RegionHeld3
import Derived.Test.YtenpggicmfhhdaaGreatDoorPartc18
import Derived.Test.YtenpggicmfhhdaaGreatDoorPartc16
import Derived.Test.YtenpggicmfhhdaaGreatDoorPartc17
import Derived.Test.YtenpggicmfhhdaaGreatDoorPartc24
import Derived.Test.YtenpggicmfhhdaaGreatDoorPartc25
import Derived.Test.YtenpggicmfhhdaaGreatDoorPartc27
import Derived.Deep.RegionLaw
import Derived.Test.YtenpggicmfhhdaaGreatDoorPartc13
import Derived.Test.YtenpggicmfhhdaaGreatDoorPartc14
import Derived.Test.YtenpggicmfhhdaaGreatDoorPartc12
import Derived.Test.YtenpggicmfhhdaaGreatDoorPartc11
import Derived.Deep.Cut
import Derived.BigQuiet
import Derived.Test.YtenpggicmfhhdaaGreatDoorPartc05
import Derived.Test.YtenpggicmfhhdaaGreatDoorPartc02
import Derived.Maps.AppendAt
import Derived.Test.YtenpggicmfhhdaaGreatDoorPartc08
import Derived.Lib.BitFns
import Derived.Test.YtenpggicmfhhdaaGreatDoorPartc07
import Derived.Test.YtenpggicmfhhdaaGreatDoorPartc06
import Derived.Test.YtenpggicmfhhdaaGreatDoorPartc01
import Derived.Maps.Own
import Derived.Maps.OwnOps
import Derived.Maps.OwnSet
import Derived.DeepKeys4
import Derived.WalkSmall
import Derived.OwnWalk
import Derived.Deep.AppendLies
import Derived.Test.YtenpggicmfhhdaaGreatDoorPartc26
import Derived.Deep.RegionWith
import Derived.Deep.CutRange
namespace Go.Proofs.YtenpggicmfhhdaaGreatDoor
open Go.RowKit
theorem qrK_all (r c:Nat) (S:List Nat):∀ K,qrK r c S K = true ↔ ∀ j,j < K→finL (qrX r c S j) = true∧mrK (qrX r c S j) = true:=by
 intro K
 induction K with
 | zero=>exact ⟨fun _ j h=>absurd h (Nat.not_lt_zero j),fun _=>rfl⟩
 | succ K ih =>
  show (qrK r c S K && (finL (qrX r c S K) && mrK (qrX r c S K))) = true ↔ _
  rw [Bool.and_eq_true,Bool.and_eq_true,ih]
  constructor
  ·rintro ⟨h1,h2⟩ j hj
   by_cases g:j < K
   ·exact h1 j g
   ·rw [show j = K by omega];exact h2
  ·intro h
   exact ⟨fun j hj=>h j (by omega),h K (by omega)⟩
theorem elS_lt {S:List Nat} (h:∀ x ∈ S,x < 18446744073709551616) (c p q:Nat):elM c S p q < 18446744073709551616:=by
 unfold elM
 rw [List.getD_eq_getElem?_getD]
 cases e:S[p * c+q]? with
 | none=>decide
 | some x=>exact h x (List.mem_of_getElem? e)
theorem colL_lt {S:List Nat} (h:∀ x ∈ S,x < 18446744073709551616) (c i n q:Nat):∀ x ∈ colL c S i n q,x < 18446744073709551616:=by
 intro x hx
 obtain ⟨j,_,rfl⟩:=List.mem_map.1 hx
 exact elS_lt h c _ _
theorem apS_lt {r c:Nat} {S:List Nat} (hS:∀ x ∈ S,x < 18446744073709551616) (i k:Nat) (vs:List Nat) (tau:Nat):∀ x ∈ apM r c S i k vs tau,x < 18446744073709551616:=by
 intro x hx
 unfold apM mkM at hx
 obtain ⟨p,_,rfl⟩:=List.mem_map.1 hx
 show (if _ then _ else _) < _
 split
 ·exact apL_lt c S i _ vs tau (by omega) (fun p q=>elS_lt hS c p q)
 ·exact elS_lt hS c _ _
theorem clS_lt {r c:Nat} {S:List Nat} (hS:∀ x ∈ S,x < 18446744073709551616) (j b:Nat) (hb:b < 18446744073709551616):∀ x ∈ clM r c S j b,x < 18446744073709551616:=by
 intro x hx
 unfold clM clJ mkM at hx
 obtain ⟨p,_,rfl⟩:=List.mem_map.1 hx
 show (if _ then (if _ then _ else _) else _) < _
 split
 ·split
  ·exact hb
  ·decide
 ·exact elS_lt hS c _ _
theorem qrR_lt {r c:Nat} {S:List Nat} (hS:∀ x ∈ S,x < 18446744073709551616):∀ j,∀ x ∈ qrR r c S j,x < 18446744073709551616
 | 0=>hS
 | j+1=>clS_lt (apS_lt (qrR_lt hS j) _ _ _ _) _ _ (mrB_lt _ (colL_lt (qrR_lt hS j) _ _ _ _))
end Go.Proofs.YtenpggicmfhhdaaGreatDoor
namespace Go.Proofs.YtenpggicmfhhdaaGreatDoor
open Go.RowKit
attribute [local go_sem ↓] Go.wp_at_zero Go.wp_at_succ
theorem sqK_sm (S:List Nat):∀ k,sqK (mxL S) k = smI (fun p=>fZ (S.getD p 0) * fZ (S.getD p 0)) k
 | 0=>rfl
 | k+1=>by
  show sqK (mxL S) k+fZ (atB (mxL S) k) * fZ (atB (mxL S) k) = smI _ k+_
  rw [sqK_sm S k,mxL_at]
theorem fnK_all {I:List Int}:∀ n,fnK I n = true ↔ ∀ k,k < n→fFin (atB I k) = true
 | 0=>⟨fun _ k hk=>by omega,fun _=>rfl⟩
 | n+1=>by
  show (fnK I n && fFin (atB I n)) = true ↔ _
  rw [Bool.and_eq_true,fnK_all n]
  constructor
  ·rintro ⟨h1,h2⟩ k hk
   by_cases e:k = n
   ·subst e;exact h2
   ·exact h1 k (by omega)
  ·exact fun h=>⟨fun k hk=>h k (by omega),h n (by omega)⟩
theorem ckE_zero {r c:Int} {I:List Int} (h:ckE r c I = 0):okB r c I.length = true∧fnK I I.length = true:=by
 unfold ckE at h
 by_cases h1:okB r c I.length = true
 ·rw [if_pos h1] at h
  refine ⟨h1,?_⟩
  by_cases h2:fnK I I.length = true
  ·exact h2
  ·rw [if_neg h2] at h;omega
 ·rw [if_neg h1] at h;omega
end Go.Proofs.YtenpggicmfhhdaaGreatDoor
namespace Go.Proofs.YtenpggicmfhhdaaGreatDoor
open Go.RowKit
attribute [local go_sem ↓] Go.wp_at_zero Go.wp_at_succ
theorem two_bits (w:World) (a b:Nat) (ha:a < 18446744073709551616) (hb:b < 18446744073709551616):BitsAt (w.alloc (.cells #[.int .u64 (a:Nat),.int .u64 (b:Nat)] 30)) (some ⟨w.heap.size,0,none⟩) 2 [(a:Int),(b:Int)]:=by
 have h:RowB (w.alloc (.cells #[.int .u64 (a:Nat),.int .u64 (b:Nat)] 30)) w.heap.size [a,b]:=heap_alloc_new w _
 exact h.bits (fun x hx=>by simp at hx;rcases hx with rfl | rfl;exact ha;exact hb)
end Go.Proofs.YtenpggicmfhhdaaGreatDoor
namespace Go.Proofs.YtenpggicmfhhdaaGreatDoor
open Go.RowKit
attribute [local go_sem ↓] Go.wp_at_zero Go.wp_at_succ
theorem w13_facts:bgF 0 [4613937818241073152,4616189618054758400] = 4616189618054758400∧fFin 4616189618054758400 = true∧eX 4616189618054758400 = 2∧ssV 2 0 [4613937818241073152,4616189618054758400] = 4609715693590413312∧xV 4608308318706860032 2 = 4617315517961601024∧ldS [4613937818241073152,4616189618054758400] = false∧fN 4617315517961601024 = 13840687554816376832∧fN 13840687554816376832 = 4617315517961601024∧aV 4613937818241073152 4617315517961601024 = 4620693217682128896∧ngt [4616189618054758400] = false∧fFin 13840687554816376832 = true∧fFin 4620693217682128896 = true∧fFin 4613937818241073152 = true:=by decide +kernel
theorem w13_quo:dV 4616189618054758400 4620693217682128896 = 4602678819172646912:=by decide +kernel
theorem nr_345:nrV [4613937818241073152,4616189618054758400] = 4617315517961601024:=by
 obtain ⟨h1,h2,h3,h4,h5,_⟩:=w13_facts
 unfold nrV
 rw [h1,if_neg (by rw [h2];decide),h3,h4,w9_root,h5]
theorem hm_345:hmB 4613937818241073152 [4616189618054758400] = 13840687554816376832∧hmD 4613937818241073152 [4616189618054758400] = 4620693217682128896:=by
 obtain ⟨_,_,_,_,_,h6,h7,h8,h9,_⟩:=w13_facts
 have e:hmB 4613937818241073152 [4616189618054758400] = 13840687554816376832:=by
  unfold hmB
  rw [h6,if_neg (by decide),nr_345,h7]
 refine ⟨e,?_⟩
 unfold hmD
 rw [e,h8,h9]
theorem mr_345:mrB [4613937818241073152,4616189618054758400] = 13840687554816376832∧mrV [4613937818241073152,4616189618054758400] = [4607182418800017408,4602678819172646912]∧mrK [4613937818241073152,4616189618054758400] = true:=by
 obtain ⟨_,_,_,_,_,_,_,_,_,h10,h11,h12,_⟩:=w13_facts
 obtain ⟨e1,e2⟩:=hm_345
 refine ⟨?_,?_,?_⟩
 ·show (if ngt [4616189618054758400] = true then 4613937818241073152 else hmB 4613937818241073152 [4616189618054758400]) = _
  rw [if_neg (by rw [h10];decide),e1]
 ·show 4607182418800017408 :: [if ngt [4616189618054758400] = true then 0 else dV 4616189618054758400 (hmD 4613937818241073152 [4616189618054758400])] = _
  rw [if_neg (by rw [h10];decide),e2,w13_quo]
 ·show (ngt [4616189618054758400] || (fFin (hmB 4613937818241073152 [4616189618054758400]) && fFin (hmD 4613937818241073152 [4616189618054758400]))) = true
  rw [e1,e2,h11,h12,Bool.and_self,Bool.or_true]
end Go.Proofs.YtenpggicmfhhdaaGreatDoor
namespace Go.Proofs.YtenpggicmfhhdaaGreatDoor
open Go.RowKit
attribute [local go_sem ↓] Go.wp_at_zero Go.wp_at_succ
theorem q345_facts:dV (aV 13840687554816376832 (fN 4613937818241073152)) 13840687554816376832 = 4609884578576439706∧fN 13840687554816376832 = 4617315517961601024:=by decide +kernel
end Go.Proofs.YtenpggicmfhhdaaGreatDoor
