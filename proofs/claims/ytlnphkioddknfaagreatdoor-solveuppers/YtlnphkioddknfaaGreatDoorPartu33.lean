/- Part 33 of the texts. -/
import Derived.Test.YtlnphkioddknfaaGreatDoorPartu32
import Derived.Test.YtlnphkioddknfaaGreatDoorPartu27
import Derived.Deep.RegionHeld3
import Derived.Test.YtlnphkioddknfaaGreatDoorPartu21
import Derived.Test.YtlnphkioddknfaaGreatDoorPartu19
import Derived.Test.YtlnphkioddknfaaGreatDoorPartu20
import Derived.Test.YtlnphkioddknfaaGreatDoorPartu28
import Derived.Test.YtlnphkioddknfaaGreatDoorPartu29
import Derived.Test.YtlnphkioddknfaaGreatDoorPartu31
import Derived.Test.YtlnphkioddknfaaGreatDoorPartu16
import Derived.Test.YtlnphkioddknfaaGreatDoorPartu17
import Derived.Test.YtlnphkioddknfaaGreatDoorPartu18
import Derived.Deep.Cut
import Derived.BigQuiet
import Derived.Test.YtlnphkioddknfaaGreatDoorPartu05
import Derived.Maps.AppendAt
import Derived.Test.YtlnphkioddknfaaGreatDoorPartu09
import Derived.Lib.BitFns
import Derived.Test.YtlnphkioddknfaaGreatDoorPartu08
import Derived.Test.YtlnphkioddknfaaGreatDoorPartu07
import Derived.Test.YtlnphkioddknfaaGreatDoorPartu10
import Derived.Maps.Own
import Derived.Maps.OwnOps
import Derived.Maps.OwnSet
import Derived.DeepKeys4
import Derived.WalkSmall
import Derived.Test.YtlnphkioddknfaaGreatDoorPartu01
import Derived.OwnWalk
import Derived.Test.YtlnphkioddknfaaGreatDoorPartu02
import Derived.Test.YtlnphkioddknfaaGreatDoorPartu30
set_option maxHeartbeats 4000000
set_option maxRecDepth 20000
namespace Go.Proofs.YtlnphkioddknfaaGreatDoor
open Go.RowKit
attribute [local go_sem ↓] Go.wp_at_zero Go.wp_at_succ
theorem r9sub_of (a b v:Nat) (o:Option Nat) (w:World)
  (hA:∀ i w',(binOp .sub i (.float .f64 a) (.float .f64 b)).run Tryz.prog w' = .ok (.float .f64 (fres o a b w')) (fwld o w'))
  (F1:∀ w',Calls Tryz.prog 109 #[.int .u64 a] w' fun r w''=>r = .returned (.float .f64 a)∧w' = w'')
  (F2:∀ w',Calls Tryz.prog 109 #[.int .u64 b] w' fun r w''=>r = .returned (.float .f64 b)∧w' = w'')
  (N1:∀ u w',Calls Tryz.prog 75 #[.float .f64 (fres o a b u)] w' fun r w''=>r = .returned (.int .u64 v)∧w' = w'') :
  Calls Tryz.prog 49 #[.int .u64 a,.int .u64 b] w fun r w'=>r = .returned (.int .u64 (v:Nat))∧Below w.heap.size w w':=by
 have L1:=hide F1;have L2:=hide F2;have M1:=hide N1
 have B:=hide (below_fwld o w)
 clear F1 F2 N1
 go_enter Tryz.func49,Tryz.ntmps49
 go_wp2_with fail
 refine (uH L1 _).mono ?_
 rintro e w2 ⟨rfl,rfl⟩
 go_wp2_with fail
 refine (uH L2 _).mono ?_
 rintro e w2 ⟨rfl,rfl⟩
 go_wp2_with fail
 refine (uH M1 _ _).mono ?_
 rintro e w2 ⟨rfl,rfl⟩
 clear L1 L2 M1
 go_wp2
 go_ret
 exact ⟨rfl,uH B⟩
theorem r9sub_any (a b:Nat) (w:World) (ha:a < 18446744073709551616) (hb:b < 18446744073709551616) :
  Calls Tryz.prog 49 #[.int .u64 a,.int .u64 b] w fun r w'=>r = .returned (.int .u64 (aV a (fN b):Nat))∧Below w.heap.size w w':=by
 refine r9sub_of a b (aV a (fN b)) (Ieee.double.sub a b) w (fun i w'=>fsub_run i a b w') (fun w'=>f9_any a w' ha) (fun w'=>f9_any b w' hb) (fun u w'=>b9_of _ _ w' (fun w''=>?_))
 rw [fsub_add a b hb]
 cases h:Ieee.double.add a (fN b) with
 | some r =>
  have:=canon_add a (fN b) u w'' ha (fN_lt b hb)
  rw [h] at this
  exact this
 | none =>
  have hn:aN a (fN b) = true:=by
   cases e:aN a (fN b) with
   | true=>rfl
   | false=>rw [fadd_some a (fN b) ha (fN_lt b hb) e] at h;cases h
  rw [(fadd_none a (fN b) ha (fN_lt b hb) hn).2]
  obtain ⟨h3,h4⟩:=fres_none a b u
  have:=canon_any _ w'' h3
  rw [if_pos h4] at this
  exact this
end Go.Proofs.YtlnphkioddknfaaGreatDoor
namespace Go.Proofs.YtlnphkioddknfaaGreatDoor
open Go.RowKit
attribute [local go_sem ↓] Go.wp_at_zero Go.wp_at_succ
theorem r9div_of (a b v:Nat) (o:Option Nat) (w:World)
  (hA:∀ i w',(binOp .quo i (.float .f64 a) (.float .f64 b)).run Tryz.prog w' = .ok (.float .f64 (fres o a b w')) (fwld o w'))
  (F1:∀ w',Calls Tryz.prog 109 #[.int .u64 a] w' fun r w''=>r = .returned (.float .f64 a)∧w' = w'')
  (F2:∀ w',Calls Tryz.prog 109 #[.int .u64 b] w' fun r w''=>r = .returned (.float .f64 b)∧w' = w'')
  (N1:∀ u w',Calls Tryz.prog 75 #[.float .f64 (fres o a b u)] w' fun r w''=>r = .returned (.int .u64 v)∧w' = w'') :
  Calls Tryz.prog 52 #[.int .u64 a,.int .u64 b] w fun r w'=>r = .returned (.int .u64 (v:Nat))∧Below w.heap.size w w':=by
 have L1:=hide F1;have L2:=hide F2;have M1:=hide N1
 have B:=hide (below_fwld o w)
 clear F1 F2 N1
 go_enter Tryz.func52,Tryz.ntmps52
 go_wp2_with fail
 refine (uH L1 _).mono ?_
 rintro e w2 ⟨rfl,rfl⟩
 go_wp2_with fail
 refine (uH L2 _).mono ?_
 rintro e w2 ⟨rfl,rfl⟩
 go_wp2_with fail
 refine (uH M1 _ _).mono ?_
 rintro e w2 ⟨rfl,rfl⟩
 clear L1 L2 M1
 go_wp2
 go_ret
 exact ⟨rfl,uH B⟩
theorem r9div_any (a b:Nat) (w:World) (ha:a < 18446744073709551616) (hb:b < 18446744073709551616) :
  Calls Tryz.prog 52 #[.int .u64 a,.int .u64 b] w fun r w'=>r = .returned (.int .u64 (dV a b:Nat))∧Below w.heap.size w w' :=
 r9div_of a b (dV a b) (Ieee.double.div a b) w (fun i w'=>fdiv_run i a b w') (fun w'=>f9_any a w' ha) (fun w'=>f9_any b w' hb) (fun u w'=>b9_of _ _ w' (fun w''=>canon_div a b u w'' ha hb))
end Go.Proofs.YtlnphkioddknfaaGreatDoor
namespace Go.Proofs.YtlnphkioddknfaaGreatDoor
open Go.RowKit
attribute [local go_sem ↓] Go.wp_at_zero Go.wp_at_succ
theorem toN_getD (I:List Int) (j:Nat) (hj:j < I.length):(toN I).getD j 0 = atB I j:=by
 rw [List.getD_eq_getElem?_getD,toN_at I j hj]
 rfl
theorem ldS_drop (L:List Nat) {j:Nat} (h:j < L.length):ldS (L.drop j) = if fK (L.getD j 0) = 0 then ldS (L.drop (j+1)) else fS (L.getD j 0):=by
 rw [List.drop_eq_getElem_cons h,List.getD_eq_getElem?_getD,List.getElem?_eq_getElem h]
 rfl
end Go.Proofs.YtlnphkioddknfaaGreatDoor
namespace Go.Proofs.YtlnphkioddknfaaGreatDoor
def apJ (r c:Nat) (S:List Nat) (i k:Nat) (vs:List Nat) (tau d j:Nat):List Nat:=mkM r c (fun p q=>if (k≤q∧i≤p∧p < i+vs.length)∧(q < d ∨ (q = d∧p < i+j)) then (apL c S i q vs tau).getD (p - i) 0 else elM c S p q)
theorem apJ_len (r c:Nat) (S:List Nat) (i k:Nat) (vs:List Nat) (tau d j:Nat):(apJ r c S i k vs tau d j).length = r * c:=mkM_len _ _ _
theorem apJ_0 (r c:Nat) (S:List Nat) (i k:Nat) (vs:List Nat) (tau:Nat) (h:S.length = r * c):apJ r c S i k vs tau k 0 = S:=by
 unfold apJ
 rw [← mkM_of r c S h]
 refine mkM_congr (fun p q _ _=>?_)
 rw [mkM_of r c S h,if_neg (fun g=>by omega)]
 rfl
theorem apJ_next (r c:Nat) (S:List Nat) (i k:Nat) (vs:List Nat) (tau d:Nat):apJ r c S i k vs tau d vs.length = apJ r c S i k vs tau (d+1) 0:=by
 unfold apJ
 refine mkM_congr (fun p q _ _=>?_)
 by_cases g:(k≤q∧i≤p∧p < i+vs.length)∧(q < d ∨ (q = d∧p < i+vs.length))
 ·rw [if_pos g,if_pos ⟨g.1,by omega⟩]
 ·rw [if_neg g,if_neg (fun g2=>g ⟨g2.1,by omega⟩)]
theorem apJ_all (r c:Nat) (S:List Nat) (i k:Nat) (vs:List Nat) (tau d:Nat) (hd:c≤d):apJ r c S i k vs tau d 0 = apM r c S i k vs tau:=by
 unfold apJ apM
 refine mkM_congr (fun p q _ hq=>?_)
 by_cases g:k≤q∧i≤p∧p < i+vs.length
 ·rw [if_pos g,if_pos ⟨g,by omega⟩]
 ·rw [if_neg g,if_neg (fun g2=>g g2.1)]
theorem apJ_set (r c:Nat) (S:List Nat) {i k:Nat} {vs:List Nat} {tau d j:Nat} (hi:i+vs.length≤r) (hd:d < c) (hk:k≤d) (hj:j < vs.length) :
  (apJ r c S i k vs tau d j).set ((i+j) * c+d) ((apL c S i d vs tau).getD j 0) = apJ r c S i k vs tau d (j+1):=by
 unfold apJ
 rw [mkM_set r c _ _ (show i+j < r by omega) hd]
 refine mkM_congr (fun p q _ _=>?_)
 by_cases e:p = i+j∧q = d
 ·obtain ⟨rfl,rfl⟩:=e
  rw [if_pos ⟨rfl,rfl⟩,if_pos ⟨⟨hk,by omega,by omega⟩,.inr ⟨rfl,by omega⟩⟩,show i+j - i = j by omega]
 ·rw [if_neg e]
  by_cases g:(k≤q∧i≤p∧p < i+vs.length)∧(q < d ∨ (q = d∧p < i+j))
  ·rw [if_pos g,if_pos ⟨g.1,by omega⟩]
  ·rw [if_neg g,if_neg (fun g2=>g ⟨g2.1,by omega⟩)]
theorem apL_at (c:Nat) (S:List Nat) (i q:Nat) (vs:List Nat) (tau:Nat) {j:Nat} (hj:j < vs.length) :
  (apL c S i q vs tau).getD j 0 = aV (elM c S (i+j) q) (fN (mV (mV tau (dtV 0 vs (colL c S i vs.length q))) (vs.getD j 0))):=by
 unfold apL
 rw [apV_at _ vs _ j (colL_len _ _ _ _ _).symm hj,colL_at c S i vs.length q hj]
theorem apL_lt (c:Nat) (S:List Nat) (i q:Nat) (vs:List Nat) (tau:Nat) {j:Nat} (hj:j < vs.length) (hS:∀ p q,elM c S p q < 18446744073709551616):(apL c S i q vs tau).getD j 0 < 18446744073709551616:=by
 rw [apL_at c S i q vs tau hj]
 exact aV_lt _ _ (hS _ _) (fN_lt _ (mV_lt _ _))
theorem dtV_snoc (x y:Nat):∀ (xs ys:List Nat) (s:Nat),xs.length = ys.length→dtV s (xs ++ [x]) (ys ++ [y]) = aV (dtV s xs ys) (mV x y):=by
 intro xs
 induction xs with
 | nil =>
  intro ys s h
  match ys with
  | []=>rfl
  | y' :: ys=>cases h
 | cons x' xs ih =>
  intro ys s h
  match ys with
  | []=>cases h
  | y' :: ys=>exact ih ys _ (by simpa using h)
theorem dtK_dtV (I J:List Int):∀ j,j≤I.length→j≤J.length→dtK I J j = dtV 0 ((toN I).take j) ((toN J).take j):=by
 intro j
 induction j with
 | zero=>intro _ _;rfl
 | succ j ih =>
  intro h1 h2
  rw [toN_take I j h1,toN_take J j h2,dtV_snoc _ _ _ _ _ (by simp [toN_len];omega),← ih (by omega) (by omega)]
  rfl
end Go.Proofs.YtlnphkioddknfaaGreatDoor
namespace Go.Proofs.YtlnphkioddknfaaGreatDoor
def clJ (r c:Nat) (S:List Nat) (j b i:Nat):List Nat:=mkM r c (fun p q=>if q = j∧j≤p∧p < i then (if p = j then b else 0) else elM c S p q)
theorem clJ_len (r c:Nat) (S:List Nat) (j b i:Nat):(clJ r c S j b i).length = r * c:=mkM_len _ _ _
theorem clJ_first (r c:Nat) (S:List Nat) {j:Nat} (b:Nat) (h:S.length = r * c) (hj:j < r) (hc:j < c):S.set (j * c+j) b = clJ r c S j b (j+1):=by
 have e:S = mkM r c (fun p q=>elM c S p q):=by
  conv=>lhs;rw [← mkM_of r c S h]
  rfl
 conv=>lhs;rw [e]
 rw [mkM_set r c _ _ hj hc]
 unfold clJ
 refine mkM_congr (fun p q _ _=>?_)
 by_cases g:p = j∧q = j
 ·rw [if_pos g,if_pos ⟨g.2,by omega,by omega⟩,if_pos g.1]
 ·rw [if_neg g,if_neg (fun g2=>g (by omega))]
theorem clJ_set (r c:Nat) (S:List Nat) {j i:Nat} (b:Nat) (hj:j < i) (hi:i < r) (hc:j < c):(clJ r c S j b i).set (i * c+j) 0 = clJ r c S j b (i+1):=by
 unfold clJ
 rw [mkM_set r c _ _ hi hc]
 refine mkM_congr (fun p q _ _=>?_)
 by_cases g:p = i∧q = j
 ·rw [if_pos g,if_pos ⟨g.2,by omega,by omega⟩,if_neg (by omega)]
 ·rw [if_neg g]
  by_cases g2:q = j∧j≤p∧p < i
  ·rw [if_pos g2,if_pos (show q = j∧j≤p∧p < i+1 by omega)]
  ·rw [if_neg g2,if_neg (show ¬ (q = j∧j≤p∧p < i+1) by omega)]
def clM (r c:Nat) (S:List Nat) (j b:Nat):List Nat:=clJ r c S j b r
theorem clM_len (r c:Nat) (S:List Nat) (j b:Nat):(clM r c S j b).length = r * c:=clJ_len _ _ _ _ _ _
def qxL (r c:Nat) (S:List Nat) (j:Nat):List Nat:=colL c S j (r - j) j
theorem qxL_len (r c:Nat) (S:List Nat) (j:Nat):(qxL r c S j).length = r - j:=colL_len _ _ _ _ _
def qrS (r c:Nat) (S:List Nat) (j:Nat):List Nat:=clM r c (apM r c S j j (mrV (qxL r c S j)) (mrT (qxL r c S j))) j (mrB (qxL r c S j))
theorem qrS_len (r c:Nat) (S:List Nat) (j:Nat):(qrS r c S j).length = r * c:=clM_len _ _ _ _ _
def finL (xs:List Nat):Bool:=fnK (mxL xs) xs.length
def qrO (r c:Nat) (S:List Nat) (j:Nat):Bool:=finL (qxL r c S j) && mrK (qxL r c S j)
def qrR (r c:Nat) (S:List Nat):Nat→List Nat
 | 0=>S
 | j+1=>qrS r c (qrR r c S j) j
def qrX (r c:Nat) (S:List Nat) (j:Nat):List Nat:=qxL r c (qrR r c S j) j
def qrK (r c:Nat) (S:List Nat):Nat→Bool
 | 0=>true
 | j+1=>qrK r c S j && qrO r c (qrR r c S j) j
theorem qrR_len (r c:Nat) (S:List Nat) (h:S.length = r * c):∀ j,(qrR r c S j).length = r * c
 | 0=>h
 | _+1=>qrS_len _ _ _ _
theorem qrX_len (r c:Nat) (S:List Nat) (j:Nat):(qrX r c S j).length = r - j:=qxL_len _ _ _ _
def qrN (r c:Nat):Nat:=min c (r - 1)
theorem qrN_lt (r c j:Nat):j < qrN r c ↔ (j:Int) < (c:Int)∧(j:Int) < (r:Int) - 1:=by
 unfold qrN
 omega
def qrQ (r c:Nat) (S:List Nat) (K:Nat):Nat→List Nat
 | 0=>eyM r
 | t+1=>apM r r (qrQ r c S K t) (K - 1 - t) 0 (mrV (qrX r c S (K - 1 - t))) (mrT (qrX r c S (K - 1 - t)))
theorem qrQ_len (r c:Nat) (S:List Nat) (K:Nat):∀ t,(qrQ r c S K t).length = r * r
 | 0=>show (eyM r).length = r * r from mkM_len r r _
 | _+1=>apM_len _ _ _ _ _ _ _
def facQ (r c:Nat) (S:List Nat):List Nat:=qrQ r c S (qrN r c) (qrN r c)
def facR (r c:Nat) (S:List Nat):List Nat:=qrR r c S (qrN r c)
def facK (r c:Nat) (S:List Nat):Bool:=qrK r c S (qrN r c) && (finL (facQ r c S) && finL (facR r c S))
end Go.Proofs.YtlnphkioddknfaaGreatDoor
