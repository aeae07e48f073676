/- Part 23 of the texts. -/
import Derived.Test.YtheepcdlakjdcaaDoorPart22
import Derived.Deep.RegionWith
import Derived.Deep.RegionLaw
import Derived.Test.YtheepcdlakjdcaaDoorChecked
import Derived.Test.YtheepcdlakjdcaaDoorPart02
import Derived.ProofKit
import Derived.SizedLaws
import Derived.Lib.SmallJoins
/- The reference of layer 10: Eye, In. -/
namespace Go.Proofs.YtheepcdlakjdcaaDoor
open Go.RowKit
attribute [local go_sem ↓] Go.wp_at_zero Go.wp_at_succ

/-- A matrix in a variable's box at g, the result's box at gr. -/
structure LpSt (w wr : World) (g gr p q : Nat) (mo : Option Addr) (mc : Nat) (S : List Nat) : Prop where
  bel : Below w.heap.size w wr
  box : BoxM wr g (.int .i64 p) (.int .i64 q) (.slice mo S.length mc)
  res : BoxM wr gr (.int .i64 0) (.int .i64 0) (.slice none 0 0)
  bits : BitsAt wr mo mc (mxL S)
  ne : gr ≠ g
  lo : w.heap.size ≤ g
theorem LpSt.all {w wr w' : World} {g gr p q : Nat} {mo : Option Addr} {mc : Nat} {S : List Nat} (h : LpSt w wr g gr p q mo mc S) (hb : Below wr.heap.size wr w') : LpSt w w' g gr p q mo mc S :=
  ⟨h.bel.trans (hb.mono h.bel.size), h.box.all hb, h.res.all hb, h.bits.below hb, h.ne, h.lo⟩
theorem LpSt.put {w wr : World} {g gr p q : Nat} {mo : Option Addr} {mc : Nat} {S : List Nat} (h : LpSt w wr g gr p q mo mc S) {no : Option Addr} {nc : Nat} {T : List Nat} (hT : BitsAt wr no nc (mxL T)) :
    LpSt w (((wr.setCell ⟨g, 0, none⟩ (.int .i64 p)).setCell ⟨g, 1, none⟩ (.int .i64 q)).setCell ⟨g, 2, none⟩ (.slice no T.length nc)) g gr p q no nc T :=
  ⟨below_putM h.bel h.lo _ _ _, h.box.put _ _ _, ((h.res.other (p := ⟨g, 0, none⟩) h.ne _).other (p := ⟨g, 1, none⟩) h.ne _).other (p := ⟨g, 2, none⟩) h.ne _, hT.putM h.box _ _ _, h.ne, h.lo⟩

theorem NewM.any {w : World} {r c : Nat} {S : List Nat} {ao : Option Addr} {cap : Nat} (h : BitsAt w ao cap (mxL S)) : NewM 0 w r c S (.agg #[.int .i64 r, .int .i64 c, .slice ao S.length cap]) := by
  refine ⟨ao, cap, rfl, ?_, h⟩
  rcases h.2.2 with e | ⟨b, off, e1, _, _⟩
  · exact .inl e
  · exact .inr ⟨b, off, e1, Nat.zero_le _⟩

/-- The first j ones of Eye. -/
def eyJ (n j : Nat) : List Nat := mkM n n (fun i k => if k = i ∧ i < j then 4607182418800017408 else 0)
theorem eyJ_0 (n : Nat) : eyJ n 0 = List.replicate (n * n) 0 := by
  rw [mkM_noughts]
  exact mkM_congr (fun i k _ _ => if_neg (by omega))
theorem eyJ_set (n j : Nat) (hj : j < n) : (eyJ n j).set (j * n + j) 4607182418800017408 = eyJ n (j + 1) := by
  unfold eyJ
  rw [mkM_set n n _ _ hj hj]
  refine mkM_congr (fun x y _ _ => ?_)
  by_cases h : x = j ∧ y = j
  · rw [if_pos h, if_pos (by omega)]
  · rw [if_neg h]
    by_cases e : y = x ∧ x < j
    · rw [if_pos e, if_pos (by omega)]
    · rw [if_neg e, if_neg (by omega)]
theorem eyJ_all (n : Nat) : eyJ n n = eyM n := mkM_congr (fun i k hi _ => by
  by_cases e : k = i
  · rw [if_pos ⟨e, hi⟩, if_pos e]
  · rw [if_neg (fun h => e h.1), if_neg e])
theorem eyJ_len (n j : Nat) : (eyJ n j).length = n * n := mkM_len _ _ _

set_option maxRecDepth 20000 in
set_option maxHeartbeats 4000000 in
theorem reye_any (n : Nat) (w : World) (hn : n ≤ 6) :
    Calls Tryd.prog 16 #[.int .i64 n] w fun e w' => ∃ v, e = .returned v ∧ NewM 0 w' n n (eyM n) v ∧ Below w.heap.size w w' := by
  have K1 := hide (fun w' => rzeros_any n n w' hn hn)
  have b0 := below_alloc9 w (.cells #[.int .i64 0, .int .i64 0, .slice none 0 0] 24)
  have X0 := BoxM.new w (.int .i64 0) (.int .i64 0) (.slice none 0 0)
  have s0 := size_alloc9 w (.cells #[.int .i64 0, .int .i64 0, .slice none 0 0] 24)
  have HB0 := hide b0; have HX0 := hide X0; have HS0 := hide s0
  clear b0 X0 s0
  go_enter Tryd.func16, Tryd.ntmps16
  go_wp2_with fail
  refine (unhide K1 _).mono ?_
  rintro e w1 ⟨v, rfl, ⟨mo, mc, rfl, nw, qs⟩, hb1⟩
  have ba := below_alloc9 w1 (.cells #[.int .i64 n, .int .i64 n, .slice mo (List.replicate (n * n) 0).length mc] 24)
  have BB := (unhide HB0).trans (hb1.mono (unhide HB0).size)
  have L0 := hide (show LpSt w (w1.alloc (.cells #[.int .i64 n, .int .i64 n, .slice mo (eyJ n 0).length mc] 24)) w1.heap.size w.heap.size n n mo mc (eyJ n 0) from by
    rw [eyJ_0]
    exact ⟨BB.trans (ba.mono BB.size), BoxM.new w1 _ _ _, ((unhide HX0).all hb1).all ba, qs.below ba, by have := hb1.size; rw [unhide HS0] at this; omega, BB.size⟩)
  rw [← eyJ_0]
  clear K1 hb1 ba BB nw qs HB0 HX0 HS0
  go_wp2_with fail
  generalize w1.heap.size = g at *
  go_loopw [4] (fun i wr => ∃ (j : Nat) (no : Option Addr) (nc : Nat), j ≤ n ∧ i = .int .i64 j ∧ Hid (LpSt w wr g w.heap.size n n no nc (eyJ n j))) (fun i _ => n - (intOf i).toNat)
  case atStart => exact ⟨0, mo, mc, Nat.zero_le _, rfl, L0⟩
  case round =>
    clear L0
    obtain ⟨j, no, nc, hj, rfl, hL⟩ := hrel
    have y0 := (unhide hL).box.c0; have y1 := (unhide hL).box.c1; have y2 := (unhide hL).box.c2
    by_cases hlt : j < n
    · have hjI : (j : Int) < (n : Int) := by omega
      have C := hide (rwith_any n n nc j j 4607182418800017408 no (eyJ n j) _ ⟨(unhide hL).bits, eyJ_len n j, hn, hn⟩ hlt hlt (by decide))
      rw [eyJ_set n j hlt, show ((4607182418800017408 : Nat) : Int) = 4607182418800017408 from rfl] at C
      generalize (eyJ n j).length = l at *
      go_wp2_with fail
      refine Calls.mono (unhide C) ?_
      rintro e w2 ⟨v, rfl, ⟨no', nc', rfl, _, q2⟩, hb2⟩
      have L2 := (unhide hL).all hb2
      have f0 := L2.box.free 0; have f1 := L2.box.free 1; have f2 := L2.box.free 2
      have u0 := L2.box.c0; have u1 := L2.box.c1; have u2 := L2.box.c2
      have L3 := hide (L2.put q2)
      clear C hb2 L2 hL y0 y1 y2 q2
      go_wp2_with fail
      go_round
      case rel => exact ⟨j + 1, no', nc', by omega, by go_num, L3⟩
      case measure => simp [intOf]; omega
    · have hjj : j = n := by omega
      subst hjj
      rw [eyJ_all] at hL y2
      have r0 := (unhide hL).res.c0; have r1 := (unhide hL).res.c1; have r2 := (unhide hL).res.c2
      have f0 := (unhide hL).res.free 0; have f1 := (unhide hL).res.free 1; have f2 := (unhide hL).res.free 2
      have XP := (unhide hL).res.put (.int .i64 j) (.int .i64 j) (.slice no (eyM j).length nc)
      have z0 := XP.c0; have z1 := XP.c1; have z2 := XP.c2
      have Q := hide (BitsAt.putM (unhide hL).bits (unhide hL).res (.int .i64 j) (.int .i64 j) (.slice no (eyM j).length nc))
      have BP := hide (below_putM (unhide hL).bel (Nat.le_refl _) (.int .i64 j) (.int .i64 j) (.slice no (eyM j).length nc))
      clear XP hL
      go_wp2
      exact bodyPost_ret (v := .agg #[.int .i64 j, .int .i64 j, .slice no (eyM j).length nc]) (by simp [results, Tryd.results16, go_sem, z0, z1, z2]) rfl ⟨_, rfl, NewM.any (unhide Q), unhide BP⟩

end Go.Proofs.YtheepcdlakjdcaaDoor

/- The reference of layer 10: In, Copy, Stack, Beside. -/
namespace Go.Proofs.YtheepcdlakjdcaaDoor
open Go.RowKit
attribute [local go_sem ↓] Go.wp_at_zero Go.wp_at_succ
theorem OwnB.least {base base' : Nat} {w : World} {v : Value} {S : List Nat} (h : OwnB base w v S) (hb : base' ≤ base) : OwnB base' w v S := by
  refine ⟨⟨h.1.1, ?_⟩, h.2⟩
  rcases h.1.2 with e | ⟨g, cap, cur, hv, hg, rest⟩
  · exact .inl e
  · exact .inr ⟨g, cap, cur, hv, Nat.le_trans hb hg, rest⟩
end Go.Proofs.YtheepcdlakjdcaaDoor

/- The law of layer 10: awake, spoil. -/
namespace Go.Proofs.YtheepcdlakjdcaaDoor
open Go.RowKit
attribute [local go_sem ↓] Go.wp_at_zero Go.wp_at_succ

/-- Eye of two rows, times itself. -/
theorem eye_two : muM 2 2 2 (eyM 2) (eyM 2) = eyM 2 := mu_eye 2 2 (eyM 2) (mkM_len _ _ _) (by decide)

set_option maxRecDepth 20000 in
set_option maxHeartbeats 4000000 in
theorem awake10_of (S : List Nat) (l : Nat) (w : World) (hl : S.length = l) (hs : l ≤ 36)
    (C1 : ∀ w', Calls Tryd.prog 14 #[.int .i64 2] w' fun e w'' => ∃ v, e = .returned (.tuple #[v, .int .i64 0]) ∧ NewM 0 w'' 2 2 S v ∧ Below w'.heap.size w' w'')
    (C2 : ∀ w' ao cap, Below w.heap.size w w' → BitsAt w' ao cap (mxL S) → Calls Tryd.prog 31 #[.agg #[.int .i64 2, .int .i64 2, .slice ao l cap], .agg #[.int .i64 2, .int .i64 2, .slice ao l cap]] w' fun e w'' => ∃ v, e = .returned (.tuple #[v, .int .i64 0]) ∧ NewM 0 w'' 2 2 S v ∧ Below w'.heap.size w' w'')
    (C3 : ∀ w', Calls Tryd.prog 16 #[.int .i64 2] w' fun e w'' => ∃ v, e = .returned v ∧ NewM 0 w'' 2 2 S v ∧ Below w'.heap.size w' w'') :
    Calls Tryd.prog 11 #[] w fun e w' => e = .returned (.bool true) ∧ Below w.heap.size w w' := by
  have K1 := hide C1; have K2 := hide C2; have K3 := hide C3; have HL := hide hl
  have K4 := hide (fun w' ao bo cap d (h : BitsAt w' ao cap (mxL S)) (h2 : BitsAt w' bo d (mxL S)) => rsame_any 2 2 ao bo cap d S w' h h2 (by omega))
  rw [hl] at K4
  clear C1 C2 C3 hl
  go_enter Tryd.func11, Tryd.ntmps11
  go_wp2_with fail
  refine (unhide K1 _).mono ?_
  rintro e w1 ⟨v, rfl, ⟨ao, cap, rfl, _, q1⟩, hb1⟩
  rw [unhide HL]
  have ba := below_alloc9 w1 (.cells #[.int .i64 (2 : Nat), .int .i64 (2 : Nat), .slice ao l cap] 24)
  have B1 := hide (hb1.trans (ba.mono hb1.size))
  have Q1 := hide (q1.below ba)
  clear q1 hb1 ba K1
  go_wp2_with fail
  refine (unhide K2 _ _ _ (unhide B1) (unhide Q1)).mono ?_
  rintro e w2 ⟨v, rfl, ⟨bo, d, rfl, _, q2⟩, hb2⟩
  rw [unhide HL]
  have B2 := (unhide B1).trans (hb2.mono (unhide B1).size)
  have ba := below_alloc9 w2 (.cells #[.int .i64 (2 : Nat), .int .i64 (2 : Nat), .slice bo l d] 24)
  have x2 := BoxM.new w2 (.int .i64 (2 : Nat)) (.int .i64 (2 : Nat)) (.slice bo l d)
  have B3 := hide (B2.trans (ba.mono B2.size))
  have Q2 := hide (q2.below ba)
  have X2 := hide x2
  clear q2 hb2 ba K2 B1 B2 Q1 x2
  go_wp2_with fail
  refine at_world (fun W => Below w.heap.size w W ∧ BitsAt W bo d (mxL S) ∧ BoxM W w2.heap.size (.int .i64 2) (.int .i64 2) (.slice bo l d)) ⟨unhide B3, unhide Q2, unhide X2⟩ ?_
  clear B3 Q2 X2
  rintro W ⟨bw, qw, xw⟩
  generalize w2.heap.size = g at *
  have HB := hide bw; have HQ := hide qw
  have HK := hide (fun w' (h : Below W.heap.size W w') => (show Below W.heap.size W w' ∧ w'.cell? ⟨g, 0, none⟩ = some (.int .i64 2) ∧ w'.cell? ⟨g, 1, none⟩ = some (.int .i64 2) ∧ w'.cell? ⟨g, 2, none⟩ = some (.slice bo l d) from ⟨h, (xw.all h).c0, (xw.all h).c1, (xw.all h).c2⟩))
  clear bw qw xw
  go_region_held3 (fun w' => Below W.heap.size W w' ∧ w'.cell? ⟨g, 0, none⟩ = some (.int .i64 2) ∧ w'.cell? ⟨g, 1, none⟩ = some (.int .i64 2) ∧ w'.cell? ⟨g, 2, none⟩ = some (.slice bo l d))
    (first | exact unhide HK _ (Below.refl _ _).drew | exact unhide HK _ (by assumption) | fail "KK")
    (first | (go_at_call 16; refine (unhide K3 _).mono ?_; rintro e w4 ⟨v, rfl, ⟨eo, ec, rfl, _, qe⟩, hb4⟩; have hB4 : Below W.heap.size W w4 := Below.trans (And.left (by assumption)) (hb4.mono (Below.size (And.left (by assumption)))); have QE := hide qe; rw [unhide HL]; clear qe hb4 K3) | (go_at_call 30; refine (unhide K4 _ _ _ _ _ (by exact (unhide HQ).below (And.left (by assumption))) (unhide QE)).mono ?_; rintro e w5 ⟨rfl, hb5⟩; have hB5 : Below W.heap.size W w5 := Below.trans (And.left (by assumption)) (hb5.mono (Below.size (And.left (by assumption)))); clear hb5 K4) | fail "NO ARM")
  all_goals
    go_wp2
    go_ret
    exact ⟨rfl, (unhide HB).trans (Below.mono (And.left (by assumption)) (unhide HB).size)⟩

theorem awake10_any (w : World) (hT : Tab w) : Calls Tryd.prog 11 #[] w fun e w' => e = .returned (.bool true) ∧ Below w.heap.size w w' := by
  have hm : ∀ (w' : World) ao cap, BitsAt w' ao cap (mxL (eyM 2)) → Mx w' ao cap 2 2 (eyM 2) := fun w' ao cap h => ⟨h, mkM_len _ _ _, by omega, by omega⟩
  refine awake10_of (eyM 2) 4 w (mkM_len _ _ _) (by omega) (fun w' => (mEye_ok 2 w' (by omega)).mono ?_) (fun w' ao cap hb h => ?_) (fun w' => reye_any 2 w' (by omega))
  · rintro e w'' ⟨v, rfl, h1, h2⟩
    exact ⟨v, rfl, h1.least (Nat.zero_le _), h2⟩
  · have C := mMul_ok 2 2 cap 2 cap ao ao (eyM 2) (eyM 2) w' (hm w' ao cap h) (hm w' ao cap h) (hT.all hb)
    rw [eye_two] at C
    refine C.mono ?_
    rintro e w'' ⟨v, rfl, h1, h2⟩
    exact ⟨v, rfl, h1.least (Nat.zero_le _), h2⟩

end Go.Proofs.YtheepcdlakjdcaaDoor

/- Package matrix: At; the law MatrixChecks, walked. -/
namespace Go.Proofs.YtheepcdlakjdcaaDoor
open Go.RowKit
attribute [local go_sem ↓] Go.wp_at_zero Go.wp_at_succ

set_option maxRecDepth 20000 in
set_option maxHeartbeats 4000000 in
theorem mAt_form (r c : Int) (ao : Option Addr) (n cap : Nat) (i k : Int) (w : World) (hn : n ≤ 35184372088830) (h : okB r c n = false) :
    Calls Tryd.prog 8 #[.agg #[.int .i64 r, .int .i64 c, .slice ao n cap], .int .i64 i, .int .i64 k] w fun e w' => e = .returned (.tuple #[.int .u64 0, .int .i64 1]) ∧ Below w.heap.size w w' := by
  have K := hide (right1_any r c ao n cap (w.alloc (.cells #[.int .i64 r, .int .i64 c, .slice ao n cap] 24)) hn)
  rw [h] at K
  simp only [size_alloc9] at K
  have KB := hide (boxes1 w (.int .i64 r) (.int .i64 c) (.slice ao n cap))
  clear h
  go_enter Tryd.func8, Tryd.ntmps8
  go_wp2_with fail
  refine Calls.mono (unhide K) ?_
  rintro e w1 ⟨rfl, hb1⟩
  have B := hide (unhide KB w1 hb1).1
  clear K KB hb1
  go_wp2
  exact bodyPost_ret (v := .tuple #[.int .u64 0, .int .i64 1]) (by simp [results, Tryd.results8, go_sem]) rfl ⟨rfl, unhide B⟩

set_option maxRecDepth 20000 in
set_option maxHeartbeats 4000000 in
theorem mAt_none (r c n cap : Nat) (ao : Option Addr) (i k : Int) (w : World) (hn : n ≤ 35184372088830) (h : okB r c n = true) (ho : i < 0 ∨ (0 ≤ i ∧ (r : Int) ≤ i) ∨ (0 ≤ i ∧ i < (r : Int) ∧ k < 0) ∨ (0 ≤ i ∧ i < (r : Int) ∧ 0 ≤ k ∧ (c : Int) ≤ k)) :
    Calls Tryd.prog 8 #[.agg #[.int .i64 r, .int .i64 c, .slice ao n cap], .int .i64 i, .int .i64 k] w fun e w' => e = .returned (.tuple #[.int .u64 0, .int .i64 7]) ∧ Below w.heap.size w w' := by
  have K := hide (right1_any r c ao n cap (w.alloc (.cells #[.int .i64 r, .int .i64 c, .slice ao n cap] 24)) hn)
  rw [h] at K
  simp only [size_alloc9] at K
  have KB := hide (boxes1 w (.int .i64 r) (.int .i64 c) (.slice ao n cap))
  clear h
  rcases ho with h1 | ⟨h1, h2⟩ | ⟨h1, h2, h3⟩ | ⟨h1, h2, h3, h4⟩
  all_goals
    go_enter Tryd.func8, Tryd.ntmps8
    go_wp2_with fail
    refine Calls.mono (unhide K) ?_
    rintro e w1 ⟨rfl, hb1⟩
    obtain ⟨b1, x1⟩ := unhide KB w1 hb1
    have B := hide b1
    have t0 := x1.c0; have t1 := x1.c1; have t2 := x1.c2
    clear K KB hb1 b1 x1
    go_wp2
    exact bodyPost_ret (v := .tuple #[.int .u64 0, .int .i64 7]) (by simp [results, Tryd.results8, go_sem]) rfl ⟨rfl, unhide B⟩

set_option maxRecDepth 20000 in
set_option maxHeartbeats 4000000 in
theorem mAt_of (r c n cap i k x : Nat) (ao : Option Addr) (w : World) (hn : n ≤ 35184372088830) (h : okB r c n = true) (hi : i < r) (hk : k < c)
    (C : ∀ w', Below w.heap.size w w' → Calls Tryd.prog 33 #[.agg #[.int .i64 r, .int .i64 c, .slice ao n cap], .int .i64 i, .int .i64 k] w' fun e w'' => e = .returned (.int .u64 (x : Nat)) ∧ Below w'.heap.size w' w'') :
    Calls Tryd.prog 8 #[.agg #[.int .i64 r, .int .i64 c, .slice ao n cap], .int .i64 i, .int .i64 k] w fun e w' => e = .returned (.tuple #[.int .u64 (x : Nat), .int .i64 0]) ∧ Below w.heap.size w w' := by
  have K := hide (right1_any r c ao n cap (w.alloc (.cells #[.int .i64 r, .int .i64 c, .slice ao n cap] 24)) hn)
  rw [h] at K
  simp only [size_alloc9] at K
  have KB := hide (boxes1 w (.int .i64 r) (.int .i64 c) (.slice ao n cap))
  have KC := hide C
  have e1 : (i : Int) < (r : Int) := by omega
  have e2 : (k : Int) < (c : Int) := by omega
  clear h C
  go_enter Tryd.func8, Tryd.ntmps8
  go_wp2_with fail
  refine Calls.mono (unhide K) ?_
  rintro e w1 ⟨rfl, hb1⟩
  obtain ⟨b1, x1⟩ := unhide KB w1 hb1
  have B := hide b1
  have t0 := x1.c0; have t1 := x1.c1; have t2 := x1.c2
  clear K KB hb1 b1 x1
  go_wp2_with fail
  refine (unhide KC _ (unhide B)).mono ?_
  rintro e w2 ⟨rfl, hb2⟩
  have B2 := hide ((unhide B).trans (hb2.mono (unhide B).size))
  clear KC hb2 B
  go_wp2
  exact bodyPost_ret (v := .tuple #[.int .u64 (x : Nat), .int .i64 0]) (by simp [results, Tryd.results8, go_sem]) rfl ⟨rfl, unhide B2⟩

set_option maxRecDepth 20000 in
set_option maxHeartbeats 4000000 in
theorem matrixChecks_form (r c : Int) (ao : Option Addr) (n cap : Nat) (i k : Int) (w : World) (hn : n ≤ 35184372088830) (hT : Tab w) (h : okB r c n = false) :
    Calls Tryd.prog 3 #[.agg #[.int .i64 r, .int .i64 c, .slice ao n cap], .int .i64 i, .int .i64 k] w fun e w' => e = .returned (.bool true) ∧ Below w.heap.size w w' := by
  have K1 := hide (fun w' => mAt_form r c ao n cap i k w' hn h)
  have K2 := hide (fun w' => rright_any r c ao n cap w')
  have K3 := hide (fun w' => mcheck_any r c ao n cap w' hn)
  rw [h] at K2 K3
  simp only [Bool.false_eq_true, if_false] at K3
  have HB := hide (below_alloc9 w (.cells #[.int .i64 r, .int .i64 c, .slice ao n cap] 24))
  have HX := hide (BoxM.new w (.int .i64 r) (.int .i64 c) (.slice ao n cap))
  have HT := hide hT
  clear hT h
  go_enter Tryd.func3, Tryd.ntmps3
  go_wp2_with fail
  refine (unhide K1 _).mono ?_
  rintro e w1 ⟨rfl, hb⟩
  have HB := hide ((unhide HB).trans (hb.mono (unhide HB).size)); have x := (unhide HX).all hb
  have HX := hide x
  have t0 := x.c0; have t1 := x.c1; have t2 := x.c2
  clear hb K1 x
  go_wp2_with fail
  refine (unhide K2 _).mono ?_
  rintro e w2 ⟨rfl, hb⟩
  have HB := hide ((unhide HB).trans (hb.mono (unhide HB).size)); have x := (unhide HX).all hb
  have HX := hide x
  clear t0 t1 t2
  have t0 := x.c0; have t1 := x.c1; have t2 := x.c2
  clear hb K2 x
  go_wp2_with fail
  refine (unhide K3 _).mono ?_
  rintro e w3 ⟨rfl, hb⟩
  have HB := hide ((unhide HB).trans (hb.mono (unhide HB).size))
  clear hb K3 t0 t1 t2
  go_wp2_with fail
  refine (awake10_any _ ((unhide HT).all (unhide HB))).mono ?_
  rintro e w4 ⟨rfl, hb⟩
  have HB := hide ((unhide HB).trans (hb.mono (unhide HB).size))
  clear hb
  go_wp2
  go_ret
  exact ⟨rfl, unhide HB⟩

set_option maxRecDepth 20000 in
set_option maxHeartbeats 4000000 in
theorem matrixChecks_none (r c n cap : Nat) (ao : Option Addr) (i k : Int) (w : World) (hn : n ≤ 35184372088830) (hT : Tab w) (h : okB r c n = true) (ho : i < 0 ∨ (0 ≤ i ∧ (r : Int) ≤ i) ∨ (0 ≤ i ∧ i < (r : Int) ∧ k < 0) ∨ (0 ≤ i ∧ i < (r : Int) ∧ 0 ≤ k ∧ (c : Int) ≤ k)) :
    Calls Tryd.prog 3 #[.agg #[.int .i64 r, .int .i64 c, .slice ao n cap], .int .i64 i, .int .i64 k] w fun e w' => e = .returned (.bool true) ∧ Below w.heap.size w w' := by
  have K1 := hide (fun w' => mAt_none r c n cap ao i k w' hn h ho)
  have K2 := hide (fun w' => rright_any r c ao n cap w')
  have K3 := hide (fun w' => mcheck_any r c ao n cap w' hn)
  rw [h] at K2 K3
  simp only [if_true] at K3
  have HB := hide (below_alloc9 w (.cells #[.int .i64 r, .int .i64 c, .slice ao n cap] 24))
  have HX := hide (BoxM.new w (.int .i64 r) (.int .i64 c) (.slice ao n cap))
  have HT := hide hT
  clear hT h
  rcases ho with h1 | ⟨h1, h2⟩ | ⟨h1, h2, h3⟩ | ⟨h1, h2, h3, h4⟩
  all_goals
    go_enter Tryd.func3, Tryd.ntmps3
    go_wp2_with fail
    refine (unhide K1 _).mono ?_
    rintro e w1 ⟨rfl, hb⟩
    have HB := hide ((unhide HB).trans (hb.mono (unhide HB).size)); have x := (unhide HX).all hb
    have HX := hide x
    have t0 := x.c0; have t1 := x.c1; have t2 := x.c2
    clear hb K1 x
    go_wp2_with fail
    refine (unhide K2 _).mono ?_
    rintro e w2 ⟨rfl, hb⟩
    have HB := hide ((unhide HB).trans (hb.mono (unhide HB).size)); have x := (unhide HX).all hb
    have HX := hide x
    clear t0 t1 t2
    have t0 := x.c0; have t1 := x.c1; have t2 := x.c2
    clear hb K2 x
    go_wp2_with fail
    refine (unhide K3 _).mono ?_
    rintro e w3 ⟨rfl, hb⟩
    have HB := hide ((unhide HB).trans (hb.mono (unhide HB).size))
    clear hb K3 t0 t1 t2
    go_wp2_with fail
    refine (awake10_any _ ((unhide HT).all (unhide HB))).mono ?_
    rintro e w4 ⟨rfl, hb⟩
    have HB := hide ((unhide HB).trans (hb.mono (unhide HB).size))
    clear hb
    go_wp2
    go_ret
    exact ⟨rfl, unhide HB⟩

set_option maxRecDepth 20000 in
set_option maxHeartbeats 4000000 in
theorem matrixChecks_of (r c n cap i k x : Nat) (ao : Option Addr) (w : World) (hn : n ≤ 35184372088830) (hT : Tab w) (h : okB r c n = true) (hi : i < r) (hk : k < c)
    (C1 : ∀ w', Below w.heap.size w w' → Calls Tryd.prog 8 #[.agg #[.int .i64 r, .int .i64 c, .slice ao n cap], .int .i64 i, .int .i64 k] w' fun e w'' => e = .returned (.tuple #[.int .u64 (x : Nat), .int .i64 0]) ∧ Below w'.heap.size w' w'')
    (C2 : ∀ w', Below w.heap.size w w' → Calls Tryd.prog 12 #[.agg #[.int .i64 r, .int .i64 c, .slice ao n cap], .int .i64 i, .int .i64 k] w' fun e w'' => e = .returned (.int .u64 (x : Nat)) ∧ Below w'.heap.size w' w'') :
    Calls Tryd.prog 3 #[.agg #[.int .i64 r, .int .i64 c, .slice ao n cap], .int .i64 i, .int .i64 k] w fun e w' => e = .returned (.bool true) ∧ Below w.heap.size w w' := by
  have K1 := hide C1; have K4 := hide C2
  have K2 := hide (fun w' => rright_any r c ao n cap w')
  have K3 := hide (fun w' => mcheck_any r c ao n cap w' hn)
  rw [h] at K2 K3
  simp only [if_true] at K3
  have HB := hide (below_alloc9 w (.cells #[.int .i64 r, .int .i64 c, .slice ao n cap] 24))
  have HX := hide (BoxM.new w (.int .i64 r) (.int .i64 c) (.slice ao n cap))
  have HT := hide hT
  have e1 : (i : Int) < (r : Int) := by omega
  have e2 : (k : Int) < (c : Int) := by omega
  clear hT h C1 C2
  go_enter Tryd.func3, Tryd.ntmps3
  go_wp2_with fail
  refine (unhide K1 _ (unhide HB)).mono ?_
  rintro e w1 ⟨rfl, hb⟩
  have HB := hide ((unhide HB).trans (hb.mono (unhide HB).size)); have x1 := (unhide HX).all hb
  have HX := hide x1
  have t0 := x1.c0; have t1 := x1.c1; have t2 := x1.c2
  clear hb K1 x1
  go_wp2_with fail
  refine (unhide K2 _).mono ?_
  rintro e w2 ⟨rfl, hb⟩
  have HB := hide ((unhide HB).trans (hb.mono (unhide HB).size)); have x1 := (unhide HX).all hb
  have HX := hide x1
  clear t0 t1 t2
  have t0 := x1.c0; have t1 := x1.c1; have t2 := x1.c2
  clear hb K2 x1
  go_wp2_with fail
  refine (unhide K3 _).mono ?_
  rintro e w3 ⟨rfl, hb⟩
  have HB := hide ((unhide HB).trans (hb.mono (unhide HB).size)); have x1 := (unhide HX).all hb
  clear t0 t1 t2
  have t0 := x1.c0; have t1 := x1.c1; have t2 := x1.c2
  clear hb K3 x1 HX
  go_wp2_with fail
  refine (unhide K4 _ (unhide HB)).mono ?_
  rintro e w4 ⟨rfl, hb⟩
  have HB := hide ((unhide HB).trans (hb.mono (unhide HB).size))
  clear hb K4 t0 t1 t2
  go_wp2_with fail
  refine (awake10_any _ ((unhide HT).all (unhide HB))).mono ?_
  rintro e w5 ⟨rfl, hb⟩
  have HB := hide ((unhide HB).trans (hb.mono (unhide HB).size))
  clear hb
  go_wp2
  go_ret
  exact ⟨rfl, unhide HB⟩

theorem matrixChecks_walk (r c : Int) (ao : Option Addr) (cap : Nat) (I : List Int) (i k : Int) (w : World) (hI : BitsAt w ao cap I) (hl : I.length ≤ 17592186043904) (_hr : -9223372036854775808 ≤ r ∧ r ≤ 9223372036854775807) (_hc : -9223372036854775808 ≤ c ∧ c ≤ 9223372036854775807) (_hi : -9223372036854775808 ≤ i ∧ i ≤ 9223372036854775807) (_hk : -9223372036854775808 ≤ k ∧ k ≤ 9223372036854775807) (hT : Tab w) :
    Calls Tryd.prog 3 #[.agg #[.int .i64 r, .int .i64 c, .slice ao I.length cap], .int .i64 i, .int .i64 k] w fun e w' => e = .returned (.bool true) ∧ Below w.heap.size w w' := by
  cases h : okB r c I.length
  · exact matrixChecks_form r c ao _ cap i k w (by omega) hT h
  · obtain ⟨p, q, rfl, rfl, hM, hS⟩ := Mx.of hI h
    by_cases ho : i < 0 ∨ (0 ≤ i ∧ (p : Int) ≤ i) ∨ (0 ≤ i ∧ i < (p : Int) ∧ k < 0) ∨ (0 ≤ i ∧ i < (p : Int) ∧ 0 ≤ k ∧ (q : Int) ≤ k)
    · exact matrixChecks_none p q _ cap ao i k w (by omega) hT h ho
    · obtain ⟨x, rfl⟩ := Int.eq_ofNat_of_zero_le (show 0 ≤ i by omega)
      obtain ⟨y, rfl⟩ := Int.eq_ofNat_of_zero_le (show 0 ≤ k by omega)
      have hx : x < p := by omega
      have hy : y < q := by omega
      rw [← natL_len]
      rw [← natL_len] at h
      refine matrixChecks_of p q _ cap x y (elM q (natL I) x y) ao w (by have := hM.small; omega) hT h hx hy (fun w' hb => ?_) (fun w' hb => rat_any p q cap x y ao _ w' (hM.below hb) hx hy)
      exact mAt_of p q _ cap x y _ ao w' (by have := hM.small; omega) h hx hy (fun w'' hb' => mat_any p q cap x y ao _ w'' ((hM.below hb).below hb') hx hy)

end Go.Proofs.YtheepcdlakjdcaaDoor

/- A struct of a sign and limbs that came in, opened. -/
namespace Go.Proofs.YtheepcdlakjdcaaDoor
open Go.ChangeShapes Go.WideShapes Go.ChangeAt Go.RowKit Go.Joins

theorem Tryd.own : ownKnob Tryd.prog.godebug = none := by kernel_rfl
theorem Tryd.laidOut : laidOutB Tryd.prog = true := by kernel_rfl
end Go.Proofs.YtheepcdlakjdcaaDoor

