/- Part 39 of the texts. -/
import Derived.Test.YtimejpbmehegeaaGreatDoorPartd38
import Derived.Deep.RegionWith
import Derived.Deep.RegionLaw
import Derived.Test.YtimejpbmehegeaaGreatDoorPartd30
import Derived.Deep.RegionHeld3
import Derived.Test.YtimejpbmehegeaaGreatDoorPartd31
import Derived.Test.YtimejpbmehegeaaGreatDoorPartd32
import Derived.Test.YtimejpbmehegeaaGreatDoorPartd33
/- The reference of layer 10: In, Copy, Stack, Beside. -/
namespace Go.Proofs.YtimejpbmehegeaaGreatDoor
open Go.RowKit
attribute [local go_sem ↓] Go.wp_at_zero Go.wp_at_succ
theorem OwnB.least {base base' : Nat} {w : World} {v : Value} {S : List Nat} (h : OwnB base w v S) (hb : base' ≤ base) : OwnB base' w v S := by
  refine ⟨⟨h.1.1, ?_⟩, h.2⟩
  rcases h.1.2 with e | ⟨g, cap, cur, hv, hg, rest⟩
  · exact .inl e
  · exact .inr ⟨g, cap, cur, hv, Nat.le_trans hb hg, rest⟩
/-- Stores into a box that lies elsewhere. -/
theorem OwnB.putM {base : Nat} {w : World} {v : Value} {S : List Nat} (h : OwnB base w v S) {b : Nat} {x y z : Value} (_hx : BoxM w b x y z) (hb : b < base) (u u' u'' : Value) : OwnB base (((w.setCell ⟨b, 0, none⟩ u).setCell ⟨b, 1, none⟩ u').setCell ⟨b, 2, none⟩ u'') v S := by
  refine ⟨⟨h.1.1, ?_⟩, h.2⟩
  rcases h.1.2 with e | ⟨g, cap, cur, hv, hg, hh, rest⟩
  · exact .inl e
  · refine .inr ⟨g, cap, cur, hv, hg, ?_, rest⟩
    have ne : g ≠ b := by omega
    rw [Below.heap_setCell _ ⟨b, 2, none⟩ u'' g ne, Below.heap_setCell _ ⟨b, 1, none⟩ u' g ne, Below.heap_setCell _ ⟨b, 0, none⟩ u g ne]
    exact hh

end Go.Proofs.YtimejpbmehegeaaGreatDoor

/- The law of layer 10: awake, spoil. -/
namespace Go.Proofs.YtimejpbmehegeaaGreatDoor
open Go.RowKit
attribute [local go_sem ↓] Go.wp_at_zero Go.wp_at_succ
/-- A cell of a list of numbers lies in no matrix's box. -/
theorem BoxM.away {w : World} {g b k : Nat} {x y : Int} {a : Option Addr} {n d : Nat} {z : Int} (hx : BoxM w b (.int .i64 x) (.int .i64 y) (.slice a n d)) (hc : w.cell? ⟨g, k, none⟩ = some (.int .u64 z)) : b ≠ g := by
  rintro rfl
  rw [cell_of_row w b k _ _ _ hx] at hc
  rcases (show k = 0 ∨ k = 1 ∨ k = 2 ∨ 3 ≤ k by omega) with e | e | e | e
  · subst e; simp at hc
  · subst e; simp at hc
  · subst e; simp at hc
  · rw [Array.getElem?_eq_none (by simp; omega)] at hc; simp at hc

end Go.Proofs.YtimejpbmehegeaaGreatDoor

/- Layer 10: differences (the program's Sub and the reference's), the reference's columns. -/
namespace Go.Proofs.YtimejpbmehegeaaGreatDoor
open Go.RowKit
attribute [local go_sem ↓] Go.wp_at_zero Go.wp_at_succ
/-- A column's numbers. -/
def clL (r c : Nat) (S : List Nat) (k : Nat) : List Nat := fsL (fun i => elM c S i k) r

set_option maxRecDepth 20000 in
set_option maxHeartbeats 4000000 in
theorem rcol_any (r c cap k : Nat) (ao : Option Addr) (S : List Nat) (w : World) (h : Mx w ao cap r c S) (hk : k < c) :
    Calls Tryz.prog 54 #[.agg #[.int .i64 r, .int .i64 c, .slice ao S.length cap], .int .i64 k, .int .i64 0] w fun e w' => ∃ bo d, e = .returned (.slice bo r d) ∧ BitsAt w' bo d (mxL (clL r c S k)) ∧ Below w.heap.size w w' := by
  have HH := hide h
  have r6 := h.2.2.1
  have s0 := size_alloc9 w (.cells #[.int .i64 r, .int .i64 c, .slice ao S.length cap] 36)
  have b0 := below_alloc9 w (.cells #[.int .i64 r, .int .i64 c, .slice ao S.length cap] 36)
  have X0 := BoxM.new w (.int .i64 r) (.int .i64 c) (.slice ao S.length cap)
  have b1 := below_alloc9 (w.alloc (.cells #[.int .i64 r, .int .i64 c, .slice ao S.length cap] 36)) (.cells #[] 24)
  have O0 := OwnB.nil (w.alloc (.cells #[.int .i64 r, .int .i64 c, .slice ao S.length cap] 36)) (w.heap.size + 1) (by rw [s0]; omega)
  rw [s0] at O0
  have HO := hide O0; have HX := hide (X0.all b1); have HB := hide (b0.trans (b1.mono b0.size))
  obtain ⟨l, hl⟩ : ∃ l, S.length = l := ⟨_, rfl⟩
  rw [hl] at HX HB HO
  rw [hl]
  have HLL := hide hl
  clear h s0 b0 X0 b1 O0 hl
  go_enter Tryz.func54, Tryz.ntmps54
  go_wp2_with fail
  go_loopw [7, 8] (fun v i wr => ∃ j : Nat, j ≤ r ∧ i = .int .i64 j ∧ Hid (OwnB (w.heap.size + 1) wr v (fsL (fun i => elM c S i k) j)) ∧ Hid (BoxM wr w.heap.size (.int .i64 r) (.int .i64 c) (.slice ao l cap)) ∧ Hid (Below w.heap.size w wr)) (fun _ i _ => r - (intOf i).toNat)
  case atStart => exact ⟨0, Nat.zero_le _, rfl, HO, HX, HB⟩
  case round =>
    clear HO HX HB
    obtain ⟨j, hj, rfl, hO, hX, hB⟩ := hrel
    have t0 := (unhide hX).c0; have t1 := (unhide hX).c1; have t2 := (unhide hX).c2
    by_cases hlt : j < r
    · have hjI : (j : Int) < (r : Int) := by omega
      have C := hide (fun w' (m : Mx w' ao cap r c S) => rat_any r c cap j k ao S w' m hlt hk)
      rw [unhide HLL] at C
      have HM := hide ((unhide HH).below hB.out)
      have ho := hide ((unhide HH).el_lt j k)
      have hlen := hide (show (fsL (fun i => elM c S i k) j).length ≤ 1000000 from by rw [fsL_len]; omega)
      have eS := hide (fsL_succ (fun i => elM c S i k) j)
      generalize elM c S j k = o at *
      go_wp2_with fail
      refine (unhide C _ (unhide HM)).mono ?_
      rintro e w2 ⟨rfl, hb2⟩
      have own2 := (unhide hO).below hb2
      have box2 := (unhide hX).all hb2
      have B2 := hB.out.trans (hb2.mono hB.out.size)
      obtain ⟨v3, w3, run3, own3, bel3, _, _⟩ := own2.push o (unhide ho) (unhide hlen) (by have := box2.lt; omega) 22
      have RUN := hide run3
      have O3 := hide (show OwnB (w.heap.size + 1) w3 v3 (fsL (fun i => elM c S i k) (j + 1)) from by rw [unhide eS]; exact own3)
      have X3 := hide (box2.below bel3 (by omega))
      have B3 := hide (B2.trans (bel3.mono (by omega)))
      clear hb2 C hO hX hB own2 box2 B2 run3 own3 bel3 ho hlen eS HM t0 t1 t2
      go_wp2_with (at_builtin; refine wpList_append_ran _ rfl _ _ 22 rfl _ _ _ _ rfl rfl (unhide RUN) ?_; clear RUN)
      go_round
      case rel => exact ⟨j + 1, by omega, by go_num, O3, X3, B3⟩
      case measure => simp [intOf]; omega
    · have hjj : r = j := by omega
      subst hjj
      obtain ⟨b1, d1, e1, q1⟩ := (unhide hO).bits
      rw [fsL_len] at e1
      subst e1
      have Q1 := hide q1
      clear q1 hO
      go_wp2_with fail
      go_ret
      exact ⟨b1, d1, rfl, unhide Q1, hB.out⟩

end Go.Proofs.YtimejpbmehegeaaGreatDoor

/- The reference of layer 13: noughts, lead. -/
namespace Go.Proofs.YtimejpbmehegeaaGreatDoor
open Go.RowKit
attribute [local go_sem ↓] Go.wp_at_zero Go.wp_at_succ

theorem toN_getD (I : List Int) (j : Nat) (hj : j < I.length) : (toN I).getD j 0 = atB I j := by
  rw [List.getD_eq_getElem?_getD, toN_at I j hj]
  rfl
theorem ldS_drop (L : List Nat) {j : Nat} (h : j < L.length) : ldS (L.drop j) = if fK (L.getD j 0) = 0 then ldS (L.drop (j + 1)) else fS (L.getD j 0) := by
  rw [List.drop_eq_getElem_cons h, List.getD_eq_getElem?_getD, List.getElem?_eq_getElem h]
  rfl

end Go.Proofs.YtimejpbmehegeaaGreatDoor

/- A matrix mirrored place by place. Ahead of stage 13. -/
namespace Go.Proofs.YtimejpbmehegeaaGreatDoor

/-- The columns before d mirrored, of column d the first j numbers. -/
def apJ (r c : Nat) (S : List Nat) (i k : Nat) (vs : List Nat) (tau d j : Nat) : List Nat := mkM r c (fun p q => if (k ≤ q ∧ i ≤ p ∧ p < i + vs.length) ∧ (q < d ∨ (q = d ∧ p < i + j)) then (apL c S i q vs tau).getD (p - i) 0 else elM c S p q)
theorem apJ_len (r c : Nat) (S : List Nat) (i k : Nat) (vs : List Nat) (tau d j : Nat) : (apJ r c S i k vs tau d j).length = r * c := mkM_len _ _ _
theorem apJ_0 (r c : Nat) (S : List Nat) (i k : Nat) (vs : List Nat) (tau : Nat) (h : S.length = r * c) : apJ r c S i k vs tau k 0 = S := by
  unfold apJ
  rw [← mkM_of r c S h]
  refine mkM_congr (fun p q _ _ => ?_)
  rw [mkM_of r c S h, if_neg (fun g => by omega)]
  rfl
theorem apJ_next (r c : Nat) (S : List Nat) (i k : Nat) (vs : List Nat) (tau d : Nat) : apJ r c S i k vs tau d vs.length = apJ r c S i k vs tau (d + 1) 0 := by
  unfold apJ
  refine mkM_congr (fun p q _ _ => ?_)
  by_cases g : (k ≤ q ∧ i ≤ p ∧ p < i + vs.length) ∧ (q < d ∨ (q = d ∧ p < i + vs.length))
  · rw [if_pos g, if_pos ⟨g.1, by omega⟩]
  · rw [if_neg g, if_neg (fun g2 => g ⟨g2.1, by omega⟩)]
theorem apJ_all (r c : Nat) (S : List Nat) (i k : Nat) (vs : List Nat) (tau d : Nat) (hd : c ≤ d) : apJ r c S i k vs tau d 0 = apM r c S i k vs tau := by
  unfold apJ apM
  refine mkM_congr (fun p q _ hq => ?_)
  by_cases g : k ≤ q ∧ i ≤ p ∧ p < i + vs.length
  · rw [if_pos g, if_pos ⟨g, by omega⟩]
  · rw [if_neg g, if_neg (fun g2 => g g2.1)]
theorem apJ_set (r c : Nat) (S : List Nat) {i k : Nat} {vs : List Nat} {tau d j : Nat} (hi : i + vs.length ≤ r) (hd : d < c) (hk : k ≤ d) (hj : j < vs.length) :
    (apJ r c S i k vs tau d j).set ((i + j) * c + d) ((apL c S i d vs tau).getD j 0) = apJ r c S i k vs tau d (j + 1) := by
  unfold apJ
  rw [mkM_set r c _ _ (show i + j < r by omega) hd]
  refine mkM_congr (fun p q _ _ => ?_)
  by_cases e : p = i + j ∧ q = d
  · obtain ⟨rfl, rfl⟩ := e
    rw [if_pos ⟨rfl, rfl⟩, if_pos ⟨⟨hk, by omega, by omega⟩, .inr ⟨rfl, by omega⟩⟩, show i + j - i = j by omega]
  · rw [if_neg e]
    by_cases g : (k ≤ q ∧ i ≤ p ∧ p < i + vs.length) ∧ (q < d ∨ (q = d ∧ p < i + j))
    · rw [if_pos g, if_pos ⟨g.1, by omega⟩]
    · rw [if_neg g, if_neg (fun g2 => g ⟨g2.1, by omega⟩)]
theorem apL_at (c : Nat) (S : List Nat) (i q : Nat) (vs : List Nat) (tau : Nat) {j : Nat} (hj : j < vs.length) :
    (apL c S i q vs tau).getD j 0 = aV (elM c S (i + j) q) (fN (mV (mV tau (dtV 0 vs (colL c S i vs.length q))) (vs.getD j 0))) := by
  unfold apL
  rw [apV_at _ vs _ j (colL_len _ _ _ _ _).symm hj, colL_at c S i vs.length q hj]
theorem apL_lt (c : Nat) (S : List Nat) (i q : Nat) (vs : List Nat) (tau : Nat) {j : Nat} (hj : j < vs.length) (hS : ∀ p q, elM c S p q < 18446744073709551616) : (apL c S i q vs tau).getD j 0 < 18446744073709551616 := by
  rw [apL_at c S i q vs tau hj]
  exact aV_lt _ _ (hS _ _) (fN_lt _ (mV_lt _ _))

/-- A sum of products by places and by lists. -/
theorem dtV_snoc (x y : Nat) : ∀ (xs ys : List Nat) (s : Nat), xs.length = ys.length → dtV s (xs ++ [x]) (ys ++ [y]) = aV (dtV s xs ys) (mV x y) := by
  intro xs
  induction xs with
  | nil =>
    intro ys s h
    match ys with
    | [] => rfl
    | y' :: ys => cases h
  | cons x' xs ih =>
    intro ys s h
    match ys with
    | [] => cases h
    | y' :: ys => exact ih ys _ (by simpa using h)
theorem dtK_dtV (I J : List Int) : ∀ j, j ≤ I.length → j ≤ J.length → dtK I J j = dtV 0 ((toN I).take j) ((toN J).take j) := by
  intro j
  induction j with
  | zero => intro _ _; rfl
  | succ j ih =>
    intro h1 h2
    rw [toN_take I j h1, toN_take J j h2, dtV_snoc _ _ _ _ _ (by simp [toN_len]; omega), ← ih (by omega) (by omega)]
    rfl

end Go.Proofs.YtimejpbmehegeaaGreatDoor

