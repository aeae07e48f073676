/- Part 26 of the texts. -/
import Derived.Test.YtnnfjeieennffaaGreatDoorPartb25
import Derived.Test.YtnnfjeieennffaaGreatDoorPartb23
import Derived.Test.YtnnfjeieennffaaGreatDoorPartb20
import Derived.Test.YtnnfjeieennffaaGreatDoorPartb17
import Derived.Laws.Cover2
import Derived.Laws.Externs
import Derived.Test.YtnnfjeieennffaaGreatDoorPartb03
import Derived.Laws.FloatArith
import Derived.Test.YtnnfjeieennffaaGreatDoorPartb18
import Derived.Test.YtnnfjeieennffaaGreatDoorPartb16
import Derived.Test.YtnnfjeieennffaaGreatDoorPartb14
import Derived.Test.YtnnfjeieennffaaGreatDoorPartb12
import Derived.Test.YtnnfjeieennffaaGreatDoorPartb13
import Derived.Test.YtnnfjeieennffaaGreatDoorPartb11
import Derived.Deep.Cut
import Derived.BigQuiet
import Derived.Test.YtnnfjeieennffaaGreatDoorPartb01
import Derived.Test.YtnnfjeieennffaaGreatDoorPartb24
namespace Go.Proofs.YtnnfjeieennffaaGreatDoor
open Go.RowKit
def gw (ε:Rat):Nat→Rat
 | 0=>1
 | k+1=>(1+2 * ε) * gw ε k
def bk (ε:Rat):Nat→Rat
 | 0=>0
 | k+1=>3+(1+2 * ε) * (1+2 * ε) * bk ε k
def er (ε δ:Rat):Nat→Rat
 | 0=>0
 | k+1=>gw ε k+er ε δ k * (1+2 * ε+δ)
end Go.Proofs.YtnnfjeieennffaaGreatDoor
namespace Go.Proofs.YtnnfjeieennffaaGreatDoor
open Go.RowKit
attribute [local go_sem ↓] Go.wp_at_zero Go.wp_at_succ
theorem fnK_down (I:List Int):∀ (m k:Nat),k≤m→fnK I m = true→fnK I k = true:=by
 intro m
 induction m with
 | zero=>intro k hk _;rw [show k = 0 by omega];rfl
 | succ m ih =>
  intro k hk h
  have h':(fnK I m && fFin (atB I m)) = true:=h
  rw [Bool.and_eq_true] at h'
  by_cases e:k = m+1
  ·subst e;exact h
  ·exact ih k (by omega) h'.1
theorem fnK_no (I:List Int) (n k:Nat) (hk:k < n) (h:fFin (atB I k) = false):fnK I n = false:=by
 cases e:fnK I n
 ·rfl
 ·have h2:(fnK I k && fFin (atB I k)) = true:=fnK_down I n (k+1) (by omega) e
  rw [h,Bool.and_false] at h2
  cases h2
end Go.Proofs.YtnnfjeieennffaaGreatDoor
namespace Go.Proofs.YtnnfjeieennffaaGreatDoor
open Go.RowKit
attribute [local go_sem ↓] Go.wp_at_zero Go.wp_at_succ
def sqK (I:List Int):Nat→Int
 | 0=>0
 | k+1=>sqK I k+fZ (atB I k) * fZ (atB I k)
end Go.Proofs.YtnnfjeieennffaaGreatDoor
namespace Go.Proofs.YtnnfjeieennffaaGreatDoor
open Go.RowKit
def toN (I:List Int):List Nat:=I.map Int.toNat
theorem toN_len (I:List Int):(toN I).length = I.length:=by simp [toN]
theorem toN_at (I:List Int) (j:Nat) (hj:j < I.length):(toN I)[j]? = some (atB I j):=by simp [toN,atB,hj]
theorem toN_take (I:List Int) (j:Nat) (hj:j < I.length):(toN I).take (j+1) = (toN I).take j ++ [atB I j]:=by
 rw [List.take_add_one,toN_at I j hj]
 rfl
theorem toN_all (I:List Int) (P:Nat→Prop) (h:∀ j,j < I.length→P (atB I j)):∀ x ∈ toN I,P x:=by
 intro x hx
 obtain ⟨j,hj,rfl⟩:=List.getElem_of_mem hx
 have hj':j < I.length:=by rw [← toN_len];exact hj
 have e:=toN_at I j hj'
 rw [List.getElem?_eq_getElem hj] at e
 rw [Option.some.inj e]
 exact h j hj'
theorem bgF_snoc (x:Nat):∀ (xs:List Nat) (m:Nat),bgF m (xs ++ [x]) = mx (bgF m xs) (fR x):=by
 intro xs
 induction xs with
 | nil=>intro m;rfl
 | cons y ys ih=>intro m;exact ih _
theorem ssV_snoc (k:Int) (x:Nat):∀ (xs:List Nat) (s:Nat),ssV k s (xs ++ [x]) = sqV k (ssV k s xs) x:=by
 intro xs
 induction xs with
 | nil=>intro m;rfl
 | cons y ys ih=>intro m;exact ih _
theorem bgK_list (I:List Int):∀ j,j≤I.length→bgK I j = bgF 0 ((toN I).take j):=by
 intro j
 induction j with
 | zero=>intro _;rfl
 | succ j ih =>
  intro hj
  rw [toN_take I j (by omega),bgF_snoc,← ih (by omega)]
  rfl
theorem bgK_all (I:List Int):bgK I I.length = bgF 0 (toN I):=by
 rw [bgK_list I _ (Nat.le_refl _),List.take_of_length_le (by rw [toN_len];exact Nat.le_refl _)]
theorem dtK_list (k:Int) (I:List Int):∀ j,j≤I.length→dtK (tL k I) (tL k I) j = ssV k 0 ((toN I).take j):=by
 intro j
 induction j with
 | zero=>intro _;rfl
 | succ j ih =>
  intro hj
  rw [toN_take I j (by omega),ssV_snoc,← ih (by omega)]
  show aV (dtK (tL k I) (tL k I) j) (mV (atB (tL k I) j) (atB (tL k I) j)) = _
  rw [show atB (tL k I) j = xV (atB I j) (-k) from mkL_at _ _ j (by omega)]
  rfl
theorem dtK_all (k:Int) (I:List Int):dtK (tL k I) (tL k I) I.length = ssV k 0 (toN I):=by
 rw [dtK_list k I _ (Nat.le_refl _),List.take_of_length_le (by rw [toN_len];exact Nat.le_refl _)]
theorem nmV_nrV (I:List Int):nmV I = nrV (toN I):=by
 unfold nmV nrV
 rw [dtK_all,bgK_all]
end Go.Proofs.YtnnfjeieennffaaGreatDoor
namespace Go.Proofs.YtnnfjeieennffaaGreatDoor
open Go.RowKit
def smI (f:Nat→Int):Nat→Int
 | 0=>0
 | n+1=>smI f n+f n
end Go.Proofs.YtnnfjeieennffaaGreatDoor
