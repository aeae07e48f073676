/- Part 30 of the texts. -/
import Derived.Test.YtfkndkaneffgdaaGreatDoorPartC28
import Derived.Deep.RegionLaw
import Derived.Deep.RegionWith
import Derived.Test.YtfkndkaneffgdaaGreatDoorPartC29
import Derived.Test.YtfkndkaneffgdaaGreatDoorPartC22
import Derived.Test.YtfkndkaneffgdaaGreatDoorPartC21
import Derived.Test.YtfkndkaneffgdaaGreatDoorPartC20
import Derived.Test.YtfkndkaneffgdaaGreatDoorPartC17
import Derived.Test.YtfkndkaneffgdaaGreatDoorPartC26
import Derived.Test.YtfkndkaneffgdaaGreatDoorPartC24
import Derived.Test.YtfkndkaneffgdaaGreatDoorPartC01
import Derived.Test.YtfkndkaneffgdaaGreatDoorPartC13
import Derived.Test.YtfkndkaneffgdaaGreatDoorPartC15
import Derived.Deep.Cut
import Derived.BigQuiet
import Derived.Maps.Own
import Derived.Maps.OwnOps
import Derived.Maps.OwnSet
import Derived.DeepKeys4
import Derived.Test.YtfkndkaneffgdaaGreatDoorPartC09
import Derived.WalkSmall
import Derived.Test.YtfkndkaneffgdaaGreatDoorPartC08
import Derived.Lib.BitFns
import Derived.Test.YtfkndkaneffgdaaGreatDoorPartC07
import Derived.OwnWalk
import Derived.Test.YtfkndkaneffgdaaGreatDoorPartC05
import Derived.Test.YtfkndkaneffgdaaGreatDoorPartC02
import Derived.Test.YtfkndkaneffgdaaGreatDoorPartC06
import Derived.Test.YtfkndkaneffgdaaGreatDoorPartC27
import Derived.Test.YtfkndkaneffgdaaGreatDoorPartC23
import Derived.Deep.RegionHeld3
/- The reference of layer 10: Eye, In. -/
namespace Go.Proofs.YtfkndkaneffgdaaGreatDoor
open Go.RowKit
attribute [local go_sem ↓] Go.wp_at_zero Go.wp_at_succ
theorem NewM.any {w : World} {r c : Nat} {S : List Nat} {ao : Option Addr} {cap : Nat} (h : BitsAt w ao cap (mxL S)) : NewM 0 w r c S (.agg #[.int .i64 r, .int .i64 c, .slice ao S.length cap]) := by
  refine ⟨ao, cap, rfl, ?_, h⟩
  rcases h.2.2 with e | ⟨b, off, e1, _, _⟩
  · exact .inl e
  · exact .inr ⟨b, off, e1, Nat.zero_le _⟩

end Go.Proofs.YtfkndkaneffgdaaGreatDoor

/- The reference of layer 10: In, Copy, Stack, Beside. -/
namespace Go.Proofs.YtfkndkaneffgdaaGreatDoor
open Go.RowKit
attribute [local go_sem ↓] Go.wp_at_zero Go.wp_at_succ
theorem OwnB.least {base base' : Nat} {w : World} {v : Value} {S : List Nat} (h : OwnB base w v S) (hb : base' ≤ base) : OwnB base' w v S := by
  refine ⟨⟨h.1.1, ?_⟩, h.2⟩
  rcases h.1.2 with e | ⟨g, cap, cur, hv, hg, rest⟩
  · exact .inl e
  · exact .inr ⟨g, cap, cur, hv, Nat.le_trans hb hg, rest⟩
/-- Stores into a box that lies elsewhere. -/
theorem OwnB.putM {base : Nat} {w : World} {v : Value} {S : List Nat} (h : OwnB base w v S) {b : Nat} {x y z : Value} (_hx : BoxM w b x y z) (hb : b < base) (u u' u'' : Value) : OwnB base (((w.setCell ⟨b, 0, none⟩ u).setCell ⟨b, 1, none⟩ u').setCell ⟨b, 2, none⟩ u'') v S := by
  refine ⟨⟨h.1.1, ?_⟩, h.2⟩
  rcases h.1.2 with e | ⟨g, cap, cur, hv, hg, hh, rest⟩
  · exact .inl e
  · refine .inr ⟨g, cap, cur, hv, hg, ?_, rest⟩
    have ne : g ≠ b := by omega
    rw [Below.heap_setCell _ ⟨b, 2, none⟩ u'' g ne, Below.heap_setCell _ ⟨b, 1, none⟩ u' g ne, Below.heap_setCell _ ⟨b, 0, none⟩ u g ne]
    exact hh

end Go.Proofs.YtfkndkaneffgdaaGreatDoor

/- The law of layer 10: awake, spoil. -/
namespace Go.Proofs.YtfkndkaneffgdaaGreatDoor
open Go.RowKit
attribute [local go_sem ↓] Go.wp_at_zero Go.wp_at_succ
/-- A cell of a list of numbers lies in no matrix's box. -/
theorem BoxM.away {w : World} {g b k : Nat} {x y : Int} {a : Option Addr} {n d : Nat} {z : Int} (hx : BoxM w b (.int .i64 x) (.int .i64 y) (.slice a n d)) (hc : w.cell? ⟨g, k, none⟩ = some (.int .u64 z)) : b ≠ g := by
  rintro rfl
  rw [cell_of_row w b k _ _ _ hx] at hc
  rcases (show k = 0 ∨ k = 1 ∨ k = 2 ∨ 3 ≤ k by omega) with e | e | e | e
  · subst e; simp at hc
  · subst e; simp at hc
  · subst e; simp at hc
  · rw [Array.getElem?_eq_none (by simp; omega)] at hc; simp at hc

end Go.Proofs.YtfkndkaneffgdaaGreatDoor

/- The reference of layer 13: noughts, lead. -/
namespace Go.Proofs.YtfkndkaneffgdaaGreatDoor
open Go.RowKit
attribute [local go_sem ↓] Go.wp_at_zero Go.wp_at_succ

theorem toN_getD (I : List Int) (j : Nat) (hj : j < I.length) : (toN I).getD j 0 = atB I j := by
  rw [List.getD_eq_getElem?_getD, toN_at I j hj]
  rfl
theorem ldS_drop (L : List Nat) {j : Nat} (h : j < L.length) : ldS (L.drop j) = if fK (L.getD j 0) = 0 then ldS (L.drop (j + 1)) else fS (L.getD j 0) := by
  rw [List.drop_eq_getElem_cons h, List.getD_eq_getElem?_getD, List.getElem?_eq_getElem h]
  rfl

end Go.Proofs.YtfkndkaneffgdaaGreatDoor

/- A matrix mirrored place by place. Ahead of stage 13. -/
namespace Go.Proofs.YtfkndkaneffgdaaGreatDoor

/-- The columns before d mirrored, of column d the first j numbers. -/
def apJ (r c : Nat) (S : List Nat) (i k : Nat) (vs : List Nat) (tau d j : Nat) : List Nat := mkM r c (fun p q => if (k ≤ q ∧ i ≤ p ∧ p < i + vs.length) ∧ (q < d ∨ (q = d ∧ p < i + j)) then (apL c S i q vs tau).getD (p - i) 0 else elM c S p q)
theorem apJ_len (r c : Nat) (S : List Nat) (i k : Nat) (vs : List Nat) (tau d j : Nat) : (apJ r c S i k vs tau d j).length = r * c := mkM_len _ _ _
theorem apJ_0 (r c : Nat) (S : List Nat) (i k : Nat) (vs : List Nat) (tau : Nat) (h : S.length = r * c) : apJ r c S i k vs tau k 0 = S := by
  unfold apJ
  rw [← mkM_of r c S h]
  refine mkM_congr (fun p q _ _ => ?_)
  rw [mkM_of r c S h, if_neg (fun g => by omega)]
  rfl
theorem apJ_next (r c : Nat) (S : List Nat) (i k : Nat) (vs : List Nat) (tau d : Nat) : apJ r c S i k vs tau d vs.length = apJ r c S i k vs tau (d + 1) 0 := by
  unfold apJ
  refine mkM_congr (fun p q _ _ => ?_)
  by_cases g : (k ≤ q ∧ i ≤ p ∧ p < i + vs.length) ∧ (q < d ∨ (q = d ∧ p < i + vs.length))
  · rw [if_pos g, if_pos ⟨g.1, by omega⟩]
  · rw [if_neg g, if_neg (fun g2 => g ⟨g2.1, by omega⟩)]
theorem apJ_all (r c : Nat) (S : List Nat) (i k : Nat) (vs : List Nat) (tau d : Nat) (hd : c ≤ d) : apJ r c S i k vs tau d 0 = apM r c S i k vs tau := by
  unfold apJ apM
  refine mkM_congr (fun p q _ hq => ?_)
  by_cases g : k ≤ q ∧ i ≤ p ∧ p < i + vs.length
  · rw [if_pos g, if_pos ⟨g, by omega⟩]
  · rw [if_neg g, if_neg (fun g2 => g g2.1)]
theorem apJ_set (r c : Nat) (S : List Nat) {i k : Nat} {vs : List Nat} {tau d j : Nat} (hi : i + vs.length ≤ r) (hd : d < c) (hk : k ≤ d) (hj : j < vs.length) :
    (apJ r c S i k vs tau d j).set ((i + j) * c + d) ((apL c S i d vs tau).getD j 0) = apJ r c S i k vs tau d (j + 1) := by
  unfold apJ
  rw [mkM_set r c _ _ (show i + j < r by omega) hd]
  refine mkM_congr (fun p q _ _ => ?_)
  by_cases e : p = i + j ∧ q = d
  · obtain ⟨rfl, rfl⟩ := e
    rw [if_pos ⟨rfl, rfl⟩, if_pos ⟨⟨hk, by omega, by omega⟩, .inr ⟨rfl, by omega⟩⟩, show i + j - i = j by omega]
  · rw [if_neg e]
    by_cases g : (k ≤ q ∧ i ≤ p ∧ p < i + vs.length) ∧ (q < d ∨ (q = d ∧ p < i + j))
    · rw [if_pos g, if_pos ⟨g.1, by omega⟩]
    · rw [if_neg g, if_neg (fun g2 => g ⟨g2.1, by omega⟩)]
theorem apL_at (c : Nat) (S : List Nat) (i q : Nat) (vs : List Nat) (tau : Nat) {j : Nat} (hj : j < vs.length) :
    (apL c S i q vs tau).getD j 0 = aV (elM c S (i + j) q) (fN (mV (mV tau (dtV 0 vs (colL c S i vs.length q))) (vs.getD j 0))) := by
  unfold apL
  rw [apV_at _ vs _ j (colL_len _ _ _ _ _).symm hj, colL_at c S i vs.length q hj]
theorem apL_lt (c : Nat) (S : List Nat) (i q : Nat) (vs : List Nat) (tau : Nat) {j : Nat} (hj : j < vs.length) (hS : ∀ p q, elM c S p q < 18446744073709551616) : (apL c S i q vs tau).getD j 0 < 18446744073709551616 := by
  rw [apL_at c S i q vs tau hj]
  exact aV_lt _ _ (hS _ _) (fN_lt _ (mV_lt _ _))

/-- A sum of products by places and by lists. -/
theorem dtV_snoc (x y : Nat) : ∀ (xs ys : List Nat) (s : Nat), xs.length = ys.length → dtV s (xs ++ [x]) (ys ++ [y]) = aV (dtV s xs ys) (mV x y) := by
  intro xs
  induction xs with
  | nil =>
    intro ys s h
    match ys with
    | [] => rfl
    | y' :: ys => cases h
  | cons x' xs ih =>
    intro ys s h
    match ys with
    | [] => cases h
    | y' :: ys => exact ih ys _ (by simpa using h)
theorem dtK_dtV (I J : List Int) : ∀ j, j ≤ I.length → j ≤ J.length → dtK I J j = dtV 0 ((toN I).take j) ((toN J).take j) := by
  intro j
  induction j with
  | zero => intro _ _; rfl
  | succ j ih =>
    intro h1 h2
    rw [toN_take I j h1, toN_take J j h2, dtV_snoc _ _ _ _ _ (by simp [toN_len]; omega), ← ih (by omega) (by omega)]
    rfl

end Go.Proofs.YtfkndkaneffgdaaGreatDoor

