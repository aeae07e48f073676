/- Part 29 of the texts. -/
import Derived.Test.YtenpggicmfhhdaaGreatDoorPartc28
import Derived.Test.YtenpggicmfhhdaaGreatDoorPartc27
import Derived.Deep.RegionLaw
import Derived.Test.YtenpggicmfhhdaaGreatDoorPartc25
import Derived.Test.YtenpggicmfhhdaaGreatDoorPartc23
import Derived.Test.YtenpggicmfhhdaaGreatDoorPartc24
import Derived.Test.YtenpggicmfhhdaaGreatDoorPartc08
import Derived.Lib.BitFns
import Derived.Test.YtenpggicmfhhdaaGreatDoorPartc07
import Derived.Test.YtenpggicmfhhdaaGreatDoorPartc05
import Derived.Test.YtenpggicmfhhdaaGreatDoorPartc02
import Derived.Maps.AppendAt
import Derived.Test.YtenpggicmfhhdaaGreatDoorPartc06
import Derived.Test.YtenpggicmfhhdaaGreatDoorPartc01
import Derived.OwnWalk
import Derived.Deep.AppendLies
import Derived.Maps.Own
import Derived.Maps.OwnOps
import Derived.Maps.OwnSet
import Derived.DeepKeys4
import Derived.WalkSmall
import Derived.Deep.RegionHeld3
import Derived.Test.YtenpggicmfhhdaaGreatDoorPartc13
import Derived.Test.YtenpggicmfhhdaaGreatDoorPartc14
import Derived.Test.YtenpggicmfhhdaaGreatDoorPartc12
import Derived.Test.YtenpggicmfhhdaaGreatDoorPartc11
import Derived.Deep.Cut
import Derived.BigQuiet
import Derived.Test.YtenpggicmfhhdaaGreatDoorPartc26
namespace Go.Proofs.YtenpggicmfhhdaaGreatDoor
open Go.RowKit
attribute [local go_sem ↓] Go.wp_at_zero Go.wp_at_succ
def OffB (g:Option Nat) (ao:Option Addr) (I:List Int):Prop:=I = [] ∨ ∃ b off,ao = some ⟨b,off,none⟩∧some b ≠ g
theorem OffB.new {H:Nat} {ao:Option Addr} {I:List Int} (h:NewB H ao I) {g:Option Nat} (hg:∀ k,g = some k→k < H):OffB g ao I:=by
 rcases h with e | ⟨b,off,e1,e2⟩
 ·exact .inl e
 ·exact .inr ⟨b,off,e1,fun e=>by have:=hg b e.symm;omega⟩
theorem OffB.old {w:World} {ao:Option Addr} {c:Nat} {I:List Int} (h:BitsAt w ao c I) {g:Option Nat} (hg:∀ k,g = some k→w.heap.size≤k):OffB g ao I:=by
 rcases h.2.2 with e | ⟨b,off,e1,e2,_⟩
 ·exact .inl e
 ·exact .inr ⟨b,off,e1,fun e=>by have:=hg b e.symm;omega⟩
theorem bits_grownOff {w w':World} {ao:Option Addr} {c:Nat} {I:List Int} {g:Option Nat} (h:BitsAt w ao c I) (ha:OffB g ao I) (hg:w.grownBy w' g):BitsAt w' ao c I:=by
 refine ⟨h.1,h.2.1,?_⟩
 rcases h.2.2 with e | ⟨b,off,e,hb,hc⟩
 ·exact .inl e
 ·rcases ha with e' | ⟨b',off',e',hne⟩
  ·exact .inl e'
  ·rw [e] at e'
   simp only [Option.some.injEq,Addr.mk.injEq] at e'
   obtain ⟨rfl,rfl,_⟩:=e'
   refine .inr ⟨b,off,e,Nat.lt_of_lt_of_le hb hg.size,fun i hi=>?_⟩
   rw [World.cell?_of_block (a:=⟨b,off+i,none⟩) (hg.block b hb hne)]
   exact hc i hi
end Go.Proofs.YtenpggicmfhhdaaGreatDoor
namespace Go.Proofs.YtenpggicmfhhdaaGreatDoor
open Go.RowKit
attribute [local go_sem ↓] Go.wp_at_zero Go.wp_at_succ
def nilAt (N:List Rw) (i c:Nat):Prop:=(nmAt (rwAt N i).R c).L.length = 0
end Go.Proofs.YtenpggicmfhhdaaGreatDoor
namespace Go.Proofs.YtenpggicmfhhdaaGreatDoor
open Go.RowKit
def KK:Nat→Nat
 | 0=>2098
 | c+1=>2 * KK c+1
end Go.Proofs.YtenpggicmfhhdaaGreatDoor
namespace Go.Proofs.YtenpggicmfhhdaaGreatDoor
open Go.RowKit
attribute [local go_sem ↓] Go.wp_at_zero Go.wp_at_succ
def mkJ (g:Nat→Nat) (j:Nat):List Nat:=4607182418800017408 :: fsL g (j - 1)
end Go.Proofs.YtenpggicmfhhdaaGreatDoor
namespace Go.Proofs.YtenpggicmfhhdaaGreatDoor
open Go.RowKit
theorem toN_cons {I:List Int} (h:1≤I.length):toN I = atB I 0 :: (toN I).drop 1:=by
 have h1:0 < (toN I).length:=by rw [toN_len];omega
 have:=List.drop_eq_getElem_cons h1
 rw [List.drop_zero] at this
 rw [this]
 congr 1
 have e:=toN_at I 0 (by omega)
 rw [List.getElem?_eq_getElem h1] at e
 exact Option.some.inj e
theorem drop_getD (I:List Int) {j:Nat} (h:j+1 < I.length):((toN I).drop 1).getD j 0 = atB I (j+1):=by
 rw [List.getD_eq_getElem?_getD,List.getElem?_drop,Nat.add_comm 1 j,toN_at I (j+1) h]
 rfl
theorem mr_mkJ {I:List Int} (h:1≤I.length) (k:Nat→Nat) (hk:∀ x,(if ngt ((toN I).drop 1) = true then 0 else dV x (hmD (atB I 0) ((toN I).drop 1))) = k x):mrV (toN I) = mkJ (fun j=>k (atB I (j+1))) I.length:=by
 have hl:((toN I).drop 1).length = I.length - 1:=by rw [List.length_drop,toN_len]
 rw [toN_cons h]
 show 4607182418800017408 :: ((toN I).drop 1).map (fun x=>if ngt ((toN I).drop 1) = true then 0 else dV x (hmD (atB I 0) ((toN I).drop 1))) = 4607182418800017408 :: fsL (fun j=>k (atB I (j+1))) (I.length - 1)
 congr 1
 rw [List.map_congr_left (g:=k) (fun x _=>hk x),list_range ((toN I).drop 1),List.map_map,hl]
 unfold fsL
 refine List.map_congr_left (fun j hj=>?_)
 show k (((toN I).drop 1).getD j 0) = _
 rw [drop_getD I (by have:=List.mem_range.1 hj;omega)]
theorem mk_facts {I:List Int} (h:1≤I.length):mrB (toN I) = (if ngt ((toN I).drop 1) = true then atB I 0 else hmB (atB I 0) ((toN I).drop 1))∧mrT (toN I) = (if ngt ((toN I).drop 1) = true then 0 else dV (aV (hmB (atB I 0) ((toN I).drop 1)) (fN (atB I 0))) (hmB (atB I 0) ((toN I).drop 1)))∧mrK (toN I) = (ngt ((toN I).drop 1) || (fFin (hmB (atB I 0) ((toN I).drop 1)) && fFin (hmD (atB I 0) ((toN I).drop 1)))):=by
 have e:=toN_cons h
 refine ⟨?_,?_,?_⟩
 ·conv=>lhs;rw [e]
  rfl
 ·conv=>lhs;rw [e]
  rfl
 ·conv=>lhs;rw [e]
  rfl
end Go.Proofs.YtenpggicmfhhdaaGreatDoor
