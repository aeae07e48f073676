/- Part 29 of the texts. -/
import Derived.Test.YtenpggicmfhhdaaGreatDoorParta28
import Derived.Test.YtenpggicmfhhdaaGreatDoorParta18
import Derived.Test.YtenpggicmfhhdaaGreatDoorParta16
import Derived.Test.YtenpggicmfhhdaaGreatDoorParta17
import Derived.Test.YtenpggicmfhhdaaGreatDoorParta23
import Derived.Test.YtenpggicmfhhdaaGreatDoorParta24
import Derived.Test.YtenpggicmfhhdaaGreatDoorParta25
import Derived.Test.YtenpggicmfhhdaaGreatDoorParta27
import Derived.Test.YtenpggicmfhhdaaGreatDoorParta13
import Derived.Test.YtenpggicmfhhdaaGreatDoorParta14
import Derived.Test.YtenpggicmfhhdaaGreatDoorParta12
import Derived.Test.YtenpggicmfhhdaaGreatDoorParta11
import Derived.Deep.Cut
import Derived.BigQuiet
import Derived.Test.YtenpggicmfhhdaaGreatDoorParta05
import Derived.Test.YtenpggicmfhhdaaGreatDoorParta02
import Derived.Maps.AppendAt
import Derived.Test.YtenpggicmfhhdaaGreatDoorParta08
import Derived.Lib.BitFns
import Derived.Test.YtenpggicmfhhdaaGreatDoorParta07
import Derived.Test.YtenpggicmfhhdaaGreatDoorParta06
import Derived.Test.YtenpggicmfhhdaaGreatDoorParta01
import Derived.Maps.Own
import Derived.Maps.OwnOps
import Derived.Maps.OwnSet
import Derived.DeepKeys4
import Derived.WalkSmall
import Derived.OwnWalk
import Derived.Deep.AppendLies
import Derived.Test.YtenpggicmfhhdaaGreatDoorParta26
import Derived.Deep.RegionHeld3
namespace Go.Proofs.YtenpggicmfhhdaaGreatDoor
open Go.RowKit
attribute [local go_sem ↓] Go.wp_at_zero Go.wp_at_succ
theorem BoxM.away {w:World} {g b k:Nat} {x y:Int} {a:Option Addr} {n d:Nat} {z:Int} (hx:BoxM w b (.int .i64 x) (.int .i64 y) (.slice a n d)) (hc:w.cell? ⟨g,k,none⟩ = some (.int .u64 z)):b ≠ g:=by
 rintro rfl
 rw [cell_of_row w b k _ _ _ hx] at hc
 rcases (show k = 0 ∨ k = 1 ∨ k = 2 ∨ 3≤k by omega) with e | e | e | e
 ·subst e;simp at hc
 ·subst e;simp at hc
 ·subst e;simp at hc
 ·rw [Array.getElem?_eq_none (by simp;omega)] at hc;simp at hc
end Go.Proofs.YtenpggicmfhhdaaGreatDoor
namespace Go.Proofs.YtenpggicmfhhdaaGreatDoor
open Go.RowKit
attribute [local go_sem ↓] Go.wp_at_zero Go.wp_at_succ
theorem toN_getD (I:List Int) (j:Nat) (hj:j < I.length):(toN I).getD j 0 = atB I j:=by
 rw [List.getD_eq_getElem?_getD,toN_at I j hj]
 rfl
theorem ldS_drop (L:List Nat) {j:Nat} (h:j < L.length):ldS (L.drop j) = if fK (L.getD j 0) = 0 then ldS (L.drop (j+1)) else fS (L.getD j 0):=by
 rw [List.drop_eq_getElem_cons h,List.getD_eq_getElem?_getD,List.getElem?_eq_getElem h]
 rfl
end Go.Proofs.YtenpggicmfhhdaaGreatDoor
namespace Go.Proofs.YtenpggicmfhhdaaGreatDoor
def apJ (r c:Nat) (S:List Nat) (i k:Nat) (vs:List Nat) (tau d j:Nat):List Nat:=mkM r c (fun p q=>if (k≤q∧i≤p∧p < i+vs.length)∧(q < d ∨ (q = d∧p < i+j)) then (apL c S i q vs tau).getD (p - i) 0 else elM c S p q)
theorem apJ_len (r c:Nat) (S:List Nat) (i k:Nat) (vs:List Nat) (tau d j:Nat):(apJ r c S i k vs tau d j).length = r * c:=mkM_len _ _ _
theorem apJ_0 (r c:Nat) (S:List Nat) (i k:Nat) (vs:List Nat) (tau:Nat) (h:S.length = r * c):apJ r c S i k vs tau k 0 = S:=by
 unfold apJ
 rw [← mkM_of r c S h]
 refine mkM_congr (fun p q _ _=>?_)
 rw [mkM_of r c S h,if_neg (fun g=>by omega)]
 rfl
theorem apJ_next (r c:Nat) (S:List Nat) (i k:Nat) (vs:List Nat) (tau d:Nat):apJ r c S i k vs tau d vs.length = apJ r c S i k vs tau (d+1) 0:=by
 unfold apJ
 refine mkM_congr (fun p q _ _=>?_)
 by_cases g:(k≤q∧i≤p∧p < i+vs.length)∧(q < d ∨ (q = d∧p < i+vs.length))
 ·rw [if_pos g,if_pos ⟨g.1,by omega⟩]
 ·rw [if_neg g,if_neg (fun g2=>g ⟨g2.1,by omega⟩)]
theorem apJ_all (r c:Nat) (S:List Nat) (i k:Nat) (vs:List Nat) (tau d:Nat) (hd:c≤d):apJ r c S i k vs tau d 0 = apM r c S i k vs tau:=by
 unfold apJ apM
 refine mkM_congr (fun p q _ hq=>?_)
 by_cases g:k≤q∧i≤p∧p < i+vs.length
 ·rw [if_pos g,if_pos ⟨g,by omega⟩]
 ·rw [if_neg g,if_neg (fun g2=>g g2.1)]
theorem apJ_set (r c:Nat) (S:List Nat) {i k:Nat} {vs:List Nat} {tau d j:Nat} (hi:i+vs.length≤r) (hd:d < c) (hk:k≤d) (hj:j < vs.length) :
  (apJ r c S i k vs tau d j).set ((i+j) * c+d) ((apL c S i d vs tau).getD j 0) = apJ r c S i k vs tau d (j+1):=by
 unfold apJ
 rw [mkM_set r c _ _ (show i+j < r by omega) hd]
 refine mkM_congr (fun p q _ _=>?_)
 by_cases e:p = i+j∧q = d
 ·obtain ⟨rfl,rfl⟩:=e
  rw [if_pos ⟨rfl,rfl⟩,if_pos ⟨⟨hk,by omega,by omega⟩,.inr ⟨rfl,by omega⟩⟩,show i+j - i = j by omega]
 ·rw [if_neg e]
  by_cases g:(k≤q∧i≤p∧p < i+vs.length)∧(q < d ∨ (q = d∧p < i+j))
  ·rw [if_pos g,if_pos ⟨g.1,by omega⟩]
  ·rw [if_neg g,if_neg (fun g2=>g ⟨g2.1,by omega⟩)]
theorem apL_at (c:Nat) (S:List Nat) (i q:Nat) (vs:List Nat) (tau:Nat) {j:Nat} (hj:j < vs.length) :
  (apL c S i q vs tau).getD j 0 = aV (elM c S (i+j) q) (fN (mV (mV tau (dtV 0 vs (colL c S i vs.length q))) (vs.getD j 0))):=by
 unfold apL
 rw [apV_at _ vs _ j (colL_len _ _ _ _ _).symm hj,colL_at c S i vs.length q hj]
theorem apL_lt (c:Nat) (S:List Nat) (i q:Nat) (vs:List Nat) (tau:Nat) {j:Nat} (hj:j < vs.length) (hS:∀ p q,elM c S p q < 18446744073709551616):(apL c S i q vs tau).getD j 0 < 18446744073709551616:=by
 rw [apL_at c S i q vs tau hj]
 exact aV_lt _ _ (hS _ _) (fN_lt _ (mV_lt _ _))
theorem dtV_snoc (x y:Nat):∀ (xs ys:List Nat) (s:Nat),xs.length = ys.length→dtV s (xs ++ [x]) (ys ++ [y]) = aV (dtV s xs ys) (mV x y):=by
 intro xs
 induction xs with
 | nil =>
  intro ys s h
  match ys with
  | []=>rfl
  | y' :: ys=>cases h
 | cons x' xs ih =>
  intro ys s h
  match ys with
  | []=>cases h
  | y' :: ys=>exact ih ys _ (by simpa using h)
theorem dtK_dtV (I J:List Int):∀ j,j≤I.length→j≤J.length→dtK I J j = dtV 0 ((toN I).take j) ((toN J).take j):=by
 intro j
 induction j with
 | zero=>intro _ _;rfl
 | succ j ih =>
  intro h1 h2
  rw [toN_take I j h1,toN_take J j h2,dtV_snoc _ _ _ _ _ (by simp [toN_len];omega),← ih (by omega) (by omega)]
  rfl
end Go.Proofs.YtenpggicmfhhdaaGreatDoor
namespace Go.Proofs.YtenpggicmfhhdaaGreatDoor
def clJ (r c:Nat) (S:List Nat) (j b i:Nat):List Nat:=mkM r c (fun p q=>if q = j∧j≤p∧p < i then (if p = j then b else 0) else elM c S p q)
theorem clJ_len (r c:Nat) (S:List Nat) (j b i:Nat):(clJ r c S j b i).length = r * c:=mkM_len _ _ _
theorem clJ_first (r c:Nat) (S:List Nat) {j:Nat} (b:Nat) (h:S.length = r * c) (hj:j < r) (hc:j < c):S.set (j * c+j) b = clJ r c S j b (j+1):=by
 have e:S = mkM r c (fun p q=>elM c S p q):=by
  conv=>lhs;rw [← mkM_of r c S h]
  rfl
 conv=>lhs;rw [e]
 rw [mkM_set r c _ _ hj hc]
 unfold clJ
 refine mkM_congr (fun p q _ _=>?_)
 by_cases g:p = j∧q = j
 ·rw [if_pos g,if_pos ⟨g.2,by omega,by omega⟩,if_pos g.1]
 ·rw [if_neg g,if_neg (fun g2=>g (by omega))]
theorem clJ_set (r c:Nat) (S:List Nat) {j i:Nat} (b:Nat) (hj:j < i) (hi:i < r) (hc:j < c):(clJ r c S j b i).set (i * c+j) 0 = clJ r c S j b (i+1):=by
 unfold clJ
 rw [mkM_set r c _ _ hi hc]
 refine mkM_congr (fun p q _ _=>?_)
 by_cases g:p = i∧q = j
 ·rw [if_pos g,if_pos ⟨g.2,by omega,by omega⟩,if_neg (by omega)]
 ·rw [if_neg g]
  by_cases g2:q = j∧j≤p∧p < i
  ·rw [if_pos g2,if_pos (show q = j∧j≤p∧p < i+1 by omega)]
  ·rw [if_neg g2,if_neg (show ¬ (q = j∧j≤p∧p < i+1) by omega)]
def clM (r c:Nat) (S:List Nat) (j b:Nat):List Nat:=clJ r c S j b r
theorem clM_len (r c:Nat) (S:List Nat) (j b:Nat):(clM r c S j b).length = r * c:=clJ_len _ _ _ _ _ _
def qxL (r c:Nat) (S:List Nat) (j:Nat):List Nat:=colL c S j (r - j) j
theorem qxL_len (r c:Nat) (S:List Nat) (j:Nat):(qxL r c S j).length = r - j:=colL_len _ _ _ _ _
def qrS (r c:Nat) (S:List Nat) (j:Nat):List Nat:=clM r c (apM r c S j j (mrV (qxL r c S j)) (mrT (qxL r c S j))) j (mrB (qxL r c S j))
theorem qrS_len (r c:Nat) (S:List Nat) (j:Nat):(qrS r c S j).length = r * c:=clM_len _ _ _ _ _
def finL (xs:List Nat):Bool:=fnK (mxL xs) xs.length
def qrO (r c:Nat) (S:List Nat) (j:Nat):Bool:=finL (qxL r c S j) && mrK (qxL r c S j)
def qrR (r c:Nat) (S:List Nat):Nat→List Nat
 | 0=>S
 | j+1=>qrS r c (qrR r c S j) j
def qrX (r c:Nat) (S:List Nat) (j:Nat):List Nat:=qxL r c (qrR r c S j) j
def qrK (r c:Nat) (S:List Nat):Nat→Bool
 | 0=>true
 | j+1=>qrK r c S j && qrO r c (qrR r c S j) j
theorem qrR_len (r c:Nat) (S:List Nat) (h:S.length = r * c):∀ j,(qrR r c S j).length = r * c
 | 0=>h
 | _+1=>qrS_len _ _ _ _
theorem qrX_len (r c:Nat) (S:List Nat) (j:Nat):(qrX r c S j).length = r - j:=qxL_len _ _ _ _
def qrN (r c:Nat):Nat:=min c (r - 1)
theorem qrN_lt (r c j:Nat):j < qrN r c ↔ (j:Int) < (c:Int)∧(j:Int) < (r:Int) - 1:=by
 unfold qrN
 omega
def qrQ (r c:Nat) (S:List Nat) (K:Nat):Nat→List Nat
 | 0=>eyM r
 | t+1=>apM r r (qrQ r c S K t) (K - 1 - t) 0 (mrV (qrX r c S (K - 1 - t))) (mrT (qrX r c S (K - 1 - t)))
theorem qrQ_len (r c:Nat) (S:List Nat) (K:Nat):∀ t,(qrQ r c S K t).length = r * r
 | 0=>show (eyM r).length = r * r from mkM_len r r _
 | _+1=>apM_len _ _ _ _ _ _ _
def facQ (r c:Nat) (S:List Nat):List Nat:=qrQ r c S (qrN r c) (qrN r c)
def facR (r c:Nat) (S:List Nat):List Nat:=qrR r c S (qrN r c)
def facK (r c:Nat) (S:List Nat):Bool:=qrK r c S (qrN r c) && (finL (facQ r c S) && finL (facR r c S))
end Go.Proofs.YtenpggicmfhhdaaGreatDoor
namespace Go.Proofs.YtenpggicmfhhdaaGreatDoor
def dnM (r c:Nat) (S:List Nat):List Nat:=mkM r c (fun p q=>elM c S (r - 1 - p) q)
def lfM (r c:Nat) (S:List Nat):List Nat:=mkM r c (fun p q=>elM c S p (c - 1 - q))
theorem dn_len (r c:Nat) (S:List Nat):(dnM r c S).length = r * c:=mkM_len _ _ _
theorem lf_len (r c:Nat) (S:List Nat):(lfM r c S).length = r * c:=mkM_len _ _ _
theorem el_dn (r c:Nat) (S:List Nat) {p q:Nat} (hp:p < r) (hq:q < c):elM c (dnM r c S) p q = elM c S (r - 1 - p) q:=el_mk r c _ hp hq
theorem el_tu15 (r c:Nat) (S:List Nat) {p q:Nat} (hp:p < c) (hq:q < r):elM r (tuM r c S) p q = elM c S q p:=el_mk c r (fun k i=>elM c S i k) hp hq
theorem lf_tu (r c:Nat) (S:List Nat):tuM c r (dnM c r (tuM r c S)) = lfM r c S:=by
 unfold lfM
 rw [show tuM c r (dnM c r (tuM r c S)) = mkM r c (fun k i=>elM r (dnM c r (tuM r c S)) i k) from rfl]
 refine mkM_congr (fun p q hp hq=>?_)
 rw [el_dn c r _ hq hp,el_tu15 r c S (by omega) hp]
def lqL (r c:Nat) (S:List Nat):List Nat:=tuM c r (facR c r (tuM r c S))
def lqQ (r c:Nat) (S:List Nat):List Nat:=tuM c c (facQ c r (tuM r c S))
def lqK (r c:Nat) (S:List Nat):Bool:=facK c r (tuM r c S)
def rqR (r c:Nat) (S:List Nat):List Nat:=lfM r c (dnM r c (lqL r c (dnM r c S)))
def rqQ (r c:Nat) (S:List Nat):List Nat:=dnM c c (lqQ r c (dnM r c S))
def rqK (r c:Nat) (S:List Nat):Bool:=lqK r c (dnM r c S)
end Go.Proofs.YtenpggicmfhhdaaGreatDoor
