/- Part 40 of the texts. -/
import Derived.Test.YtnnfjeieennffaaGreatDoorPartf38
import Derived.Test.YtnnfjeieennffaaGreatDoorPartf19
import Derived.Test.YtnnfjeieennffaaGreatDoorPartf09
import Derived.Lib.BitFns
import Derived.Test.YtnnfjeieennffaaGreatDoorPartf36
import Derived.Test.YtnnfjeieennffaaGreatDoorPartf08
import Derived.Test.YtnnfjeieennffaaGreatDoorPartf05
import Derived.Maps.AppendAt
import Derived.Test.YtnnfjeieennffaaGreatDoorPartf37
import Derived.Test.YtnnfjeieennffaaGreatDoorPartf11
import Derived.Test.YtnnfjeieennffaaGreatDoorPartf07
import Derived.Test.YtnnfjeieennffaaGreatDoorPartf10
import Derived.Maps.Own
import Derived.Maps.OwnOps
import Derived.Maps.OwnSet
import Derived.DeepKeys4
import Derived.WalkSmall
import Derived.Deep.RegionHeld3
import Derived.Deep.AppendLies
import Derived.Test.YtnnfjeieennffaaGreatDoorPartf01
import Derived.Test.YtnnfjeieennffaaGreatDoorPartf34
import Derived.Test.YtnnfjeieennffaaGreatDoorPartf29
import Derived.Test.YtnnfjeieennffaaGreatDoorPartf35
import Derived.Deep.RegionLaw
import Derived.Test.YtnnfjeieennffaaGreatDoorPartf16
import Derived.Test.YtnnfjeieennffaaGreatDoorPartf18
import Derived.Deep.Cut
import Derived.BigQuiet
namespace Go.Proofs.YtnnfjeieennffaaGreatDoor
def pvN (r c:Nat) (S:List Nat) (j k:Nat):Nat:=nrV (colL c S j (r - j) k)
def gtA (r c:Nat) (S:List Nat) (j:Nat):Nat→Nat
 | 0=>j
 | t+1=>if cO (pvN r c S j (gtA r c S j t)) (pvN r c S j (j+t)) < 0 then j+t else gtA r c S j t
def gtK (r c:Nat) (S:List Nat) (j:Nat):Nat→Bool
 | 0=>true
 | t+1=>gtK r c S j t && fFin (pvN r c S j (j+t))
theorem gtA_ge (r c:Nat) (S:List Nat) (j:Nat):∀ t,j≤gtA r c S j t
 | 0=>Nat.le_refl _
 | t+1=>by
  show j≤if _ then _ else _
  split
  ·exact Nat.le_add_right _ _
  ·exact gtA_ge r c S j t
theorem gtA_lt (r c:Nat) (S:List Nat) (j:Nat):∀ t,0 < t→gtA r c S j t < j+t
 | 0,h=>absurd h (Nat.lt_irrefl 0)
 | t+1,_=>by
  show (if _ then _ else _) < _
  split
  ·exact Nat.lt_succ_self (j+t)
  ·rcases Nat.eq_zero_or_pos t with rfl | h
   ·exact Nat.lt_succ_self j
   ·exact Nat.lt_succ_of_lt (gtA_lt r c S j t h)
def pvA (r c:Nat) (S:List Nat) (j:Nat):Nat:=gtA r c S j (c - j)
def pvF (r c:Nat) (S:List Nat) (j:Nat):Bool:=gtK r c S j (c - j)
theorem pvA_ge (r c:Nat) (S:List Nat) (j:Nat):j≤pvA r c S j:=gtA_ge _ _ _ _ _
theorem pvA_lt (r c:Nat) (S:List Nat) {j:Nat} (h:j < c):pvA r c S j < c:=by
 have:=gtA_lt r c S j (c - j) (by omega)
 unfold pvA
 omega
def swL (l:List Nat) (i k:Nat):List Nat:=(l.set i (l.getD k 0)).set k (l.getD i 0)
theorem swL_len (l:List Nat) (i k:Nat):(swL l i k).length = l.length:=by unfold swL;rw [List.length_set,List.length_set]
theorem getD_set (l:List Nat) (i x k:Nat) (hi:i < l.length):(l.set i x).getD k 0 = if k = i then x else l.getD k 0:=by
 simp only [List.getD_eq_getElem?_getD,List.getElem?_set]
 by_cases h:i = k
 ·subst h;simp [hi]
 ·rw [if_neg h,if_neg (fun e=>h e.symm)]
theorem swL_at (l:List Nat) {i k:Nat} (hi:i < l.length) (hk:k < l.length) (q:Nat):(swL l i k).getD q 0 = if q = k then l.getD i 0 else if q = i then l.getD k 0 else l.getD q 0:=by
 unfold swL
 rw [getD_set _ _ _ _ (by rw [List.length_set];exact hk),getD_set _ _ _ _ hi]
def coL (r c:Nat) (S:List Nat) (L:List Nat):List Nat:=mkM r L.length (fun i k=>elM c S i (L.getD k 0))
theorem coL_len (r c:Nat) (S L:List Nat):(coL r c S L).length = r * L.length:=mkM_len _ _ _
theorem el_co (r c:Nat) (S L:List Nat) {p q:Nat} (hp:p < r) (hq:q < L.length):elM L.length (coL r c S L) p q = elM c S p (L.getD q 0):=el_mk r L.length _ hp hq
theorem range_at {n q:Nat} (h:q < n):(List.range n).getD q 0 = q:=by
 rw [List.getD_eq_getElem?_getD,List.getElem?_range h];rfl
def swM (r c:Nat) (S:List Nat) (j a:Nat):List Nat:=coL r c S (swL (List.range c) j a)
theorem sw_range_len (c j a:Nat):(swL (List.range c) j a).length = c:=by rw [swL_len,List.length_range]
theorem swM_len (r c:Nat) (S:List Nat) (j a:Nat):(swM r c S j a).length = r * c:=by unfold swM;rw [coL_len,sw_range_len]
def swI (j a q:Nat):Nat:=if q = a then j else if q = j then a else q
theorem el_sw (r c:Nat) (S:List Nat) {j a p q:Nat} (hj:j < c) (ha:a < c) (hp:p < r) (hq:q < c):elM c (swM r c S j a) p q = elM c S p (swI j a q):=by
 have e:=el_co r c S (swL (List.range c) j a) hp (q:=q) (by rw [sw_range_len];exact hq)
 rw [sw_range_len] at e
 unfold swM
 rw [e,swL_at _ (by rw [List.length_range];exact hj) (by rw [List.length_range];exact ha),range_at hj,range_at ha,range_at hq]
 rfl
def pvW (r c:Nat) (S:List Nat) (j:Nat):List Nat:=swM r c S j (pvA r c S j)
theorem pvW_len (r c:Nat) (S:List Nat) (j:Nat):(pvW r c S j).length = r * c:=swM_len _ _ _ _ _
def pvS (r c:Nat) (S:List Nat) (j:Nat):List Nat:=if j+1 < r then qrS r c (pvW r c S j) j else pvW r c S j
theorem pvS_len (r c:Nat) (S:List Nat) (j:Nat):(pvS r c S j).length = r * c:=by unfold pvS;split <;> first | exact qrS_len _ _ _ _ | exact pvW_len _ _ _ _
def pvR (r c:Nat) (S:List Nat):Nat→List Nat
 | 0=>S
 | j+1=>pvS r c (pvR r c S j) j
theorem pvR_len (r c:Nat) (S:List Nat) (h:S.length = r * c):∀ j,(pvR r c S j).length = r * c
 | 0=>h
 | _+1=>pvS_len _ _ _ _
def pvP (r c:Nat) (S:List Nat):Nat→List Nat
 | 0=>List.range c
 | j+1=>swL (pvP r c S j) j (pvA r c (pvR r c S j) j)
theorem pvP_len (r c:Nat) (S:List Nat):∀ j,(pvP r c S j).length = c
 | 0=>List.length_range
 | j+1=>by show (swL _ _ _).length = c;rw [swL_len,pvP_len r c S j]
def pvX (r c:Nat) (S:List Nat) (j:Nat):List Nat:=qxL r c (pvW r c (pvR r c S j) j) j
theorem pvX_len (r c:Nat) (S:List Nat) (j:Nat):(pvX r c S j).length = r - j:=qxL_len _ _ _ _
def pvO (r c:Nat) (S:List Nat) (j:Nat):Bool:=pvF r c S j && (decide (r≤j+1) || mrK (qxL r c (pvW r c S j) j))
def pvK (r c:Nat) (S:List Nat):Nat→Bool
 | 0=>true
 | j+1=>pvK r c S j && pvO r c (pvR r c S j) j
def upQ (r:Nat) (X:Nat→List Nat) (K:Nat):Nat→List Nat
 | 0=>eyM r
 | t+1=>apM r r (upQ r X K t) (K - 1 - t) 0 (mrV (X (K - 1 - t))) (mrT (X (K - 1 - t)))
theorem upQ_len (r:Nat) (X:Nat→List Nat) (K:Nat):∀ t,(upQ r X K t).length = r * r
 | 0=>show (eyM r).length = r * r from mkM_len r r _
 | _+1=>apM_len _ _ _ _ _ _ _
def pfQ (r c:Nat) (S:List Nat):List Nat:=upQ r (pvX r c S) (qrN r c) (qrN r c)
def pfR (r c:Nat) (S:List Nat):List Nat:=pvR r c S (min c r)
def pfP (r c:Nat) (S:List Nat):List Nat:=pvP r c S (min c r)
def pfK (r c:Nat) (S:List Nat):Bool:=pvK r c S (min c r) && (finL (pfQ r c S) && finL (pfR r c S))
theorem swL_perm (l:List Nat) {i k:Nat} (hi:i < l.length) (hk:k < l.length):(swL l i k).Perm l:=by
 rw [List.perm_iff_count]
 intro x
 unfold swL
 rw [List.count_set (by rw [List.length_set];exact hk),List.count_set hi]
 have e1:(l.set i (l.getD k 0))[k]'(by rw [List.length_set];exact hk) = l[k]:=by
  rw [List.getElem_set]
  split
  ·rename_i h;subst h;simp [List.getD_eq_getElem?_getD,hk]
  ·rfl
 rw [e1]
 have e2:l.getD k 0 = l[k]:=by simp [List.getD_eq_getElem?_getD,hk]
 have e3:l.getD i 0 = l[i]:=by simp [List.getD_eq_getElem?_getD,hi]
 rw [e2,e3]
 have p1:(l[i] == x) = true→0 < List.count x l:=fun h=>List.count_pos_iff.2 (by rw [← eq_of_beq h];exact List.getElem_mem hi)
 cases h1:(l[i] == x) <;> cases h2:(l[k] == x)
 ·simp
 ·simp
 ·simp
  have:=p1 h1;omega
 ·simp
  have:=p1 h1;omega
theorem pvP_perm (r c:Nat) (S:List Nat):∀ j,j≤c→(pvP r c S j).Perm (List.range c)
 | 0,_=>List.Perm.refl _
 | j+1,h=>(swL_perm _ (by rw [pvP_len];omega) (by rw [pvP_len];exact pvA_lt r c _ (by omega))).trans (pvP_perm r c S j (by omega))
end Go.Proofs.YtnnfjeieennffaaGreatDoor
namespace Go.Proofs.YtnnfjeieennffaaGreatDoor
open Go.RowKit
attribute [local go_sem ↓] Go.wp_at_zero Go.wp_at_succ
def nilAt (N:List Rw) (i c:Nat):Prop:=(nmAt (rwAt N i).R c).L.length = 0
end Go.Proofs.YtnnfjeieennffaaGreatDoor
namespace Go.Proofs.YtnnfjeieennffaaGreatDoor
open Go.RowKit
def KK:Nat→Nat
 | 0=>2098
 | c+1=>2 * KK c+1
end Go.Proofs.YtnnfjeieennffaaGreatDoor
namespace Go.Proofs.YtnnfjeieennffaaGreatDoor
open Go.RowKit
attribute [local go_sem ↓] Go.wp_at_zero Go.wp_at_succ
def mkJ (g:Nat→Nat) (j:Nat):List Nat:=4607182418800017408 :: fsL g (j - 1)
end Go.Proofs.YtnnfjeieennffaaGreatDoor
namespace Go.Proofs.YtnnfjeieennffaaGreatDoor
open Go.RowKit
theorem toN_cons {I:List Int} (h:1≤I.length):toN I = atB I 0 :: (toN I).drop 1:=by
 have h1:0 < (toN I).length:=by rw [toN_len];omega
 have:=List.drop_eq_getElem_cons h1
 rw [List.drop_zero] at this
 rw [this]
 congr 1
 have e:=toN_at I 0 (by omega)
 rw [List.getElem?_eq_getElem h1] at e
 exact Option.some.inj e
theorem drop_getD (I:List Int) {j:Nat} (h:j+1 < I.length):((toN I).drop 1).getD j 0 = atB I (j+1):=by
 rw [List.getD_eq_getElem?_getD,List.getElem?_drop,Nat.add_comm 1 j,toN_at I (j+1) h]
 rfl
theorem mr_mkJ {I:List Int} (h:1≤I.length) (k:Nat→Nat) (hk:∀ x,(if ngt ((toN I).drop 1) = true then 0 else dV x (hmD (atB I 0) ((toN I).drop 1))) = k x):mrV (toN I) = mkJ (fun j=>k (atB I (j+1))) I.length:=by
 have hl:((toN I).drop 1).length = I.length - 1:=by rw [List.length_drop,toN_len]
 rw [toN_cons h]
 show 4607182418800017408 :: ((toN I).drop 1).map (fun x=>if ngt ((toN I).drop 1) = true then 0 else dV x (hmD (atB I 0) ((toN I).drop 1))) = 4607182418800017408 :: fsL (fun j=>k (atB I (j+1))) (I.length - 1)
 congr 1
 rw [List.map_congr_left (g:=k) (fun x _=>hk x),list_range ((toN I).drop 1),List.map_map,hl]
 unfold fsL
 refine List.map_congr_left (fun j hj=>?_)
 show k (((toN I).drop 1).getD j 0) = _
 rw [drop_getD I (by have:=List.mem_range.1 hj;omega)]
theorem mk_facts {I:List Int} (h:1≤I.length):mrB (toN I) = (if ngt ((toN I).drop 1) = true then atB I 0 else hmB (atB I 0) ((toN I).drop 1))∧mrT (toN I) = (if ngt ((toN I).drop 1) = true then 0 else dV (aV (hmB (atB I 0) ((toN I).drop 1)) (fN (atB I 0))) (hmB (atB I 0) ((toN I).drop 1)))∧mrK (toN I) = (ngt ((toN I).drop 1) || (fFin (hmB (atB I 0) ((toN I).drop 1)) && fFin (hmD (atB I 0) ((toN I).drop 1)))):=by
 have e:=toN_cons h
 refine ⟨?_,?_,?_⟩
 ·conv=>lhs;rw [e]
  rfl
 ·conv=>lhs;rw [e]
  rfl
 ·conv=>lhs;rw [e]
  rfl
end Go.Proofs.YtnnfjeieennffaaGreatDoor
