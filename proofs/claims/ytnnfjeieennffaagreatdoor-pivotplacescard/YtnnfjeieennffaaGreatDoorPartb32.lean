/- Part 32 of the texts. -/
import Derived.Test.YtnnfjeieennffaaGreatDoorPartb08
import Derived.Lib.BitFns
import Derived.Test.YtnnfjeieennffaaGreatDoorPartb28
import Derived.Test.YtnnfjeieennffaaGreatDoorPartb07
import Derived.Test.YtnnfjeieennffaaGreatDoorPartb05
import Derived.Test.YtnnfjeieennffaaGreatDoorPartb02
import Derived.Maps.AppendAt
import Derived.Test.YtnnfjeieennffaaGreatDoorPartb29
import Derived.Test.YtnnfjeieennffaaGreatDoorPartb09
import Derived.Test.YtnnfjeieennffaaGreatDoorPartb06
import Derived.Deep.AppendLies
import Derived.Maps.Own
import Derived.Maps.OwnOps
import Derived.Maps.OwnSet
import Derived.DeepKeys4
import Derived.WalkSmall
import Derived.Deep.RegionHeld3
import Derived.Test.YtnnfjeieennffaaGreatDoorPartb01
import Derived.Test.YtnnfjeieennffaaGreatDoorPartb30
import Derived.Test.YtnnfjeieennffaaGreatDoorPartb26
import Derived.Test.YtnnfjeieennffaaGreatDoorPartb24
import Derived.Test.YtnnfjeieennffaaGreatDoorPartb27
import Derived.Deep.RegionLaw
import Derived.Test.YtnnfjeieennffaaGreatDoorPartb13
import Derived.Test.YtnnfjeieennffaaGreatDoorPartb14
import Derived.Test.YtnnfjeieennffaaGreatDoorPartb12
import Derived.Test.YtnnfjeieennffaaGreatDoorPartb11
import Derived.Deep.Cut
import Derived.BigQuiet
import Derived.Test.YtnnfjeieennffaaGreatDoorPartb31
import Derived.Test.YtnnfjeieennffaaGreatDoorPartb23
import Derived.Test.YtnnfjeieennffaaGreatDoorPartb15
namespace Go.Proofs.YtnnfjeieennffaaGreatDoor
open Go.RowKit
attribute [local go_sem ↓] Go.wp_at_zero Go.wp_at_succ
def nilAt (N:List Rw) (i c:Nat):Prop:=(nmAt (rwAt N i).R c).L.length = 0
end Go.Proofs.YtnnfjeieennffaaGreatDoor
namespace Go.Proofs.YtnnfjeieennffaaGreatDoor
open Go.RowKit
def KK:Nat→Nat
 | 0=>2098
 | c+1=>2 * KK c+1
end Go.Proofs.YtnnfjeieennffaaGreatDoor
namespace Go.Proofs.YtnnfjeieennffaaGreatDoor
open Go.RowKit
attribute [local go_sem ↓] Go.wp_at_zero Go.wp_at_succ
def mkJ (g:Nat→Nat) (j:Nat):List Nat:=4607182418800017408 :: fsL g (j - 1)
end Go.Proofs.YtnnfjeieennffaaGreatDoor
namespace Go.Proofs.YtnnfjeieennffaaGreatDoor
open Go.RowKit
theorem toN_cons {I:List Int} (h:1≤I.length):toN I = atB I 0 :: (toN I).drop 1:=by
 have h1:0 < (toN I).length:=by rw [toN_len];omega
 have:=List.drop_eq_getElem_cons h1
 rw [List.drop_zero] at this
 rw [this]
 congr 1
 have e:=toN_at I 0 (by omega)
 rw [List.getElem?_eq_getElem h1] at e
 exact Option.some.inj e
theorem drop_getD (I:List Int) {j:Nat} (h:j+1 < I.length):((toN I).drop 1).getD j 0 = atB I (j+1):=by
 rw [List.getD_eq_getElem?_getD,List.getElem?_drop,Nat.add_comm 1 j,toN_at I (j+1) h]
 rfl
theorem mr_mkJ {I:List Int} (h:1≤I.length) (k:Nat→Nat) (hk:∀ x,(if ngt ((toN I).drop 1) = true then 0 else dV x (hmD (atB I 0) ((toN I).drop 1))) = k x):mrV (toN I) = mkJ (fun j=>k (atB I (j+1))) I.length:=by
 have hl:((toN I).drop 1).length = I.length - 1:=by rw [List.length_drop,toN_len]
 rw [toN_cons h]
 show 4607182418800017408 :: ((toN I).drop 1).map (fun x=>if ngt ((toN I).drop 1) = true then 0 else dV x (hmD (atB I 0) ((toN I).drop 1))) = 4607182418800017408 :: fsL (fun j=>k (atB I (j+1))) (I.length - 1)
 congr 1
 rw [List.map_congr_left (g:=k) (fun x _=>hk x),list_range ((toN I).drop 1),List.map_map,hl]
 unfold fsL
 refine List.map_congr_left (fun j hj=>?_)
 show k (((toN I).drop 1).getD j 0) = _
 rw [drop_getD I (by have:=List.mem_range.1 hj;omega)]
theorem mk_facts {I:List Int} (h:1≤I.length):mrB (toN I) = (if ngt ((toN I).drop 1) = true then atB I 0 else hmB (atB I 0) ((toN I).drop 1))∧mrT (toN I) = (if ngt ((toN I).drop 1) = true then 0 else dV (aV (hmB (atB I 0) ((toN I).drop 1)) (fN (atB I 0))) (hmB (atB I 0) ((toN I).drop 1)))∧mrK (toN I) = (ngt ((toN I).drop 1) || (fFin (hmB (atB I 0) ((toN I).drop 1)) && fFin (hmD (atB I 0) ((toN I).drop 1)))):=by
 have e:=toN_cons h
 refine ⟨?_,?_,?_⟩
 ·conv=>lhs;rw [e]
  rfl
 ·conv=>lhs;rw [e]
  rfl
 ·conv=>lhs;rw [e]
  rfl
end Go.Proofs.YtnnfjeieennffaaGreatDoor
namespace Go.Proofs.YtnnfjeieennffaaGreatDoor
open Go.RowKit
attribute [local go_sem ↓] Go.wp_at_zero Go.wp_at_succ
def OwnI (base:Nat) (w:World) (v:Value) (L:List Nat):Prop:=w.ownsRow base 3 1 v L.length ((mxL L).map intV)
theorem OwnI.at {base:Nat} {w:World} {ao:Option Addr} {n cap:Nat} {S:List Nat} (h:OwnI base w (.slice ao n cap) S) {j:Nat} (hj:j < S.length) :
  ∃ g,ao = some ⟨g,0,none⟩∧base≤g∧g < w.heap.size∧w.cell? ⟨g,j,none⟩ = some (.int .i64 (S.getD j 0:Nat))∧w.frozen? ⟨g,j,none⟩ = false ∧
   ∀ x:Nat,OwnI base (w.setCell ⟨g,j,none⟩ (.int .i64 (x:Nat))) (.slice ao n cap) (S.set j x):=by
 obtain ⟨h1,h2⟩:=h
 rcases h2 with ⟨_,h0⟩ | ⟨g,cap',cur,hv,hg,hh,hc,hm,hs,ht⟩
 ·omega
 ·simp only [Value.slice.injEq] at hv
  obtain ⟨rfl,rfl,rfl⟩:=hv
  have q:((mxL S).map intV)[j]? = some (.int .i64 ((S[j]:Nat):Int)):=by
   rw [List.getElem?_map,show (mxL S)[j]? = some ((S[j]:Nat):Int) from by unfold mxL;rw [List.getElem?_map,List.getElem?_eq_getElem hj];rfl];rfl
  rw [← ht,List.getElem?_take,if_pos (by omega)] at q
  refine ⟨g,rfl,hg,(Array.getElem?_eq_some_iff.1 hh).1,?_,frozen_of_row w g j _ _ hh,fun x=>⟨by simp [mxL],.inr ⟨g,cap,cur.setIfInBounds j (.int .i64 (x:Nat)),?_,hg,heap_setCell_same w g j _ _ _ hh,by simpa using hc,hm,by simpa using hs,?_⟩⟩⟩
  ·rw [cell_of_row w g j _ _ _ hh]
   have e:S.getD j 0 = S[j]:=by rw [List.getD_eq_getElem?_getD,List.getElem?_eq_getElem hj];rfl
   rw [e]
   simpa using q
  ·simp
  ·rw [Array.toList_setIfInBounds,List.take_set,List.length_set,ht]
   unfold mxL
   rw [List.map_set,List.map_set]
   rfl
end Go.Proofs.YtnnfjeieennffaaGreatDoor
