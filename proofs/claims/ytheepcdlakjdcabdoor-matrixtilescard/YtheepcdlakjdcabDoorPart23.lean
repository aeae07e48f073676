/- Part 23 of the texts. -/
import Derived.Test.YtheepcdlakjdcabDoorPart22
import Derived.Deep.RegionLaw
import Derived.Deep.RegionWith
/- The reference of layer 10: With, Copy, Stack, Same, Eye, Col; the law's told, form. -/
namespace Go.Proofs.YtheepcdlakjdcabDoor
open Go.RowKit
attribute [local go_sem ↓] Go.wp_at_zero Go.wp_at_succ
theorem rwith_any (r c cap i k x : Nat) (ao : Option Addr) (S : List Nat) (w : World) (h : Mx w ao cap r c S) (hi : i < r) (hk : k < c) (hx : x < 18446744073709551616) :
    Calls Tryd.prog 28 #[.agg #[.int .i64 r, .int .i64 c, .slice ao S.length cap], .int .i64 i, .int .i64 k, .int .u64 x] w fun e w' => ∃ v, e = .returned v ∧ NewM w.heap.size w' r c (S.set (i * c + k) x) v ∧ Below w.heap.size w w' := by
  have hp : i * c + k < S.length := by rw [h.2.1]; exact place_lt hi hk
  have h36 := h.small
  have b0 := below_alloc9 w (.cells #[.int .i64 r, .int .i64 c, .slice ao S.length cap] 24)
  have s0 := size_alloc9 w (.cells #[.int .i64 r, .int .i64 c, .slice ao S.length cap] 24)
  have b1 := below_alloc9 (w.alloc (.cells #[.int .i64 r, .int .i64 c, .slice ao S.length cap] 24)) (.cells #[.int .i64 0, .int .i64 0, .slice none 0 0] 24)
  have s1 := size_alloc9 (w.alloc (.cells #[.int .i64 r, .int .i64 c, .slice ao S.length cap] 24)) (.cells #[.int .i64 0, .int .i64 0, .slice none 0 0] 24)
  have bb := b0.trans (b1.mono b0.size)
  have b2 := below_alloc9 ((w.alloc (.cells #[.int .i64 r, .int .i64 c, .slice ao S.length cap] 24)).alloc (.cells #[.int .i64 0, .int .i64 0, .slice none 0 0] 24)) (.cells #[] 35)
  have on := OwnB.nil ((w.alloc (.cells #[.int .i64 r, .int .i64 c, .slice ao S.length cap] 24)).alloc (.cells #[.int .i64 0, .int .i64 0, .slice none 0 0] 24)) (w.heap.size + 1 + 1) (by rw [s1, s0]; omega)
  have bits := (h.1.below bb).below b2
  obtain ⟨po, pc, w1, run, own, gr⟩ := copy_bits _ (w.heap.size + 1 + 1) 22 ao cap (mxL S) _ bits (by rw [mxL_len]; omega) on.1 (by simp)
  rw [natL_mxL, mxL_len] at *
  have bel := (b2.mono (Nat.le_of_eq (by rw [s1, s0]))).grown gr (by simp) (fun g hg => by cases hg; rw [s1, s0]; exact Nat.le_refl _)
  rw [s1, s0] at run
  obtain ⟨g, hg, _⟩ := own.at hp
  exact rwith_of r c S.length cap i k (i * c) x g ao po pc S w w1 rfl (cast_mul10 i c) hp h36 hx run own bel hg

set_option maxRecDepth 20000 in
set_option maxHeartbeats 2000000 in
theorem rsame_any (r c : Int) (ao bo : Option Addr) (cap d : Nat) (S : List Nat) (w : World) (h : BitsAt w ao cap (mxL S)) (h2 : BitsAt w bo d (mxL S)) (hl : S.length ≤ 1000000) :
    Calls Tryd.prog 9 #[.agg #[.int .i64 r, .int .i64 c, .slice ao S.length cap], .agg #[.int .i64 r, .int .i64 c, .slice bo S.length d]] w fun e w' => e = .returned (.bool true) ∧ Below w.heap.size w w' := by
  have b0 := below_alloc9 w (.cells #[.int .i64 r, .int .i64 c, .slice ao S.length cap] 24)
  have b1 := below_alloc9 (w.alloc (.cells #[.int .i64 r, .int .i64 c, .slice ao S.length cap] 24)) (.cells #[.int .i64 r, .int .i64 c, .slice bo S.length d] 24)
  have bb := b0.trans (b1.mono b0.size)
  have K := hide (same_any ao bo cap d (mxL S) _ (h.below bb) (h2.below bb) (by rw [mxL_len]; omega))
  rw [mxL_len] at K
  have HB := hide bb
  clear b0 b1 bb h h2
  generalize S.length = n at *
  go_enter Tryd.func9, Tryd.ntmps9
  go_wp2_with fail
  refine Calls.mono (unhide K) ?_
  rintro e w1 ⟨rfl, hb1⟩
  clear K
  go_wp2
  go_ret
  exact ⟨rfl, (unhide HB).trans (hb1.mono (unhide HB).size)⟩

end Go.Proofs.YtheepcdlakjdcabDoor

/- The reference of layer 10: Eye, In. -/
namespace Go.Proofs.YtheepcdlakjdcabDoor
open Go.RowKit
attribute [local go_sem ↓] Go.wp_at_zero Go.wp_at_succ

/-- A matrix in a variable's box at g, the result's box at gr. -/
structure LpSt (w wr : World) (g gr p q : Nat) (mo : Option Addr) (mc : Nat) (S : List Nat) : Prop where
  bel : Below w.heap.size w wr
  box : BoxM wr g (.int .i64 p) (.int .i64 q) (.slice mo S.length mc)
  res : BoxM wr gr (.int .i64 0) (.int .i64 0) (.slice none 0 0)
  bits : BitsAt wr mo mc (mxL S)
  ne : gr ≠ g
  lo : w.heap.size ≤ g
theorem LpSt.all {w wr w' : World} {g gr p q : Nat} {mo : Option Addr} {mc : Nat} {S : List Nat} (h : LpSt w wr g gr p q mo mc S) (hb : Below wr.heap.size wr w') : LpSt w w' g gr p q mo mc S :=
  ⟨h.bel.trans (hb.mono h.bel.size), h.box.all hb, h.res.all hb, h.bits.below hb, h.ne, h.lo⟩
theorem LpSt.put {w wr : World} {g gr p q : Nat} {mo : Option Addr} {mc : Nat} {S : List Nat} (h : LpSt w wr g gr p q mo mc S) {no : Option Addr} {nc : Nat} {T : List Nat} (hT : BitsAt wr no nc (mxL T)) :
    LpSt w (((wr.setCell ⟨g, 0, none⟩ (.int .i64 p)).setCell ⟨g, 1, none⟩ (.int .i64 q)).setCell ⟨g, 2, none⟩ (.slice no T.length nc)) g gr p q no nc T :=
  ⟨below_putM h.bel h.lo _ _ _, h.box.put _ _ _, ((h.res.other (p := ⟨g, 0, none⟩) h.ne _).other (p := ⟨g, 1, none⟩) h.ne _).other (p := ⟨g, 2, none⟩) h.ne _, hT.putM h.box _ _ _, h.ne, h.lo⟩

theorem NewM.any {w : World} {r c : Nat} {S : List Nat} {ao : Option Addr} {cap : Nat} (h : BitsAt w ao cap (mxL S)) : NewM 0 w r c S (.agg #[.int .i64 r, .int .i64 c, .slice ao S.length cap]) := by
  refine ⟨ao, cap, rfl, ?_, h⟩
  rcases h.2.2 with e | ⟨b, off, e1, _, _⟩
  · exact .inl e
  · exact .inr ⟨b, off, e1, Nat.zero_le _⟩

/-- The first j ones of Eye. -/
def eyJ (n j : Nat) : List Nat := mkM n n (fun i k => if k = i ∧ i < j then 4607182418800017408 else 0)
theorem eyJ_0 (n : Nat) : eyJ n 0 = List.replicate (n * n) 0 := by
  rw [mkM_noughts]
  exact mkM_congr (fun i k _ _ => if_neg (by omega))
theorem eyJ_set (n j : Nat) (hj : j < n) : (eyJ n j).set (j * n + j) 4607182418800017408 = eyJ n (j + 1) := by
  unfold eyJ
  rw [mkM_set n n _ _ hj hj]
  refine mkM_congr (fun x y _ _ => ?_)
  by_cases h : x = j ∧ y = j
  · rw [if_pos h, if_pos (by omega)]
  · rw [if_neg h]
    by_cases e : y = x ∧ x < j
    · rw [if_pos e, if_pos (by omega)]
    · rw [if_neg e, if_neg (by omega)]
theorem eyJ_all (n : Nat) : eyJ n n = eyM n := mkM_congr (fun i k hi _ => by
  by_cases e : k = i
  · rw [if_pos ⟨e, hi⟩, if_pos e]
  · rw [if_neg (fun h => e h.1), if_neg e])
theorem eyJ_len (n j : Nat) : (eyJ n j).length = n * n := mkM_len _ _ _

set_option maxRecDepth 20000 in
set_option maxHeartbeats 4000000 in
theorem reye_any (n : Nat) (w : World) (hn : n ≤ 6) :
    Calls Tryd.prog 12 #[.int .i64 n] w fun e w' => ∃ v, e = .returned v ∧ NewM 0 w' n n (eyM n) v ∧ Below w.heap.size w w' := by
  have K1 := hide (fun w' => rzeros_any n n w' hn hn)
  have b0 := below_alloc9 w (.cells #[.int .i64 0, .int .i64 0, .slice none 0 0] 24)
  have X0 := BoxM.new w (.int .i64 0) (.int .i64 0) (.slice none 0 0)
  have s0 := size_alloc9 w (.cells #[.int .i64 0, .int .i64 0, .slice none 0 0] 24)
  have HB0 := hide b0; have HX0 := hide X0; have HS0 := hide s0
  clear b0 X0 s0
  go_enter Tryd.func12, Tryd.ntmps12
  go_wp2_with fail
  refine (unhide K1 _).mono ?_
  rintro e w1 ⟨v, rfl, ⟨mo, mc, rfl, nw, qs⟩, hb1⟩
  have ba := below_alloc9 w1 (.cells #[.int .i64 n, .int .i64 n, .slice mo (List.replicate (n * n) 0).length mc] 24)
  have BB := (unhide HB0).trans (hb1.mono (unhide HB0).size)
  have L0 := hide (show LpSt w (w1.alloc (.cells #[.int .i64 n, .int .i64 n, .slice mo (eyJ n 0).length mc] 24)) w1.heap.size w.heap.size n n mo mc (eyJ n 0) from by
    rw [eyJ_0]
    exact ⟨BB.trans (ba.mono BB.size), BoxM.new w1 _ _ _, ((unhide HX0).all hb1).all ba, qs.below ba, by have := hb1.size; rw [unhide HS0] at this; omega, BB.size⟩)
  rw [← eyJ_0]
  clear K1 hb1 ba BB nw qs HB0 HX0 HS0
  go_wp2_with fail
  generalize w1.heap.size = g at *
  go_loopw [4] (fun i wr => ∃ (j : Nat) (no : Option Addr) (nc : Nat), j ≤ n ∧ i = .int .i64 j ∧ Hid (LpSt w wr g w.heap.size n n no nc (eyJ n j))) (fun i _ => n - (intOf i).toNat)
  case atStart => exact ⟨0, mo, mc, Nat.zero_le _, rfl, L0⟩
  case round =>
    clear L0
    obtain ⟨j, no, nc, hj, rfl, hL⟩ := hrel
    have y0 := (unhide hL).box.c0; have y1 := (unhide hL).box.c1; have y2 := (unhide hL).box.c2
    by_cases hlt : j < n
    · have hjI : (j : Int) < (n : Int) := by omega
      have C := hide (rwith_any n n nc j j 4607182418800017408 no (eyJ n j) _ ⟨(unhide hL).bits, eyJ_len n j, hn, hn⟩ hlt hlt (by decide))
      rw [eyJ_set n j hlt, show ((4607182418800017408 : Nat) : Int) = 4607182418800017408 from rfl] at C
      generalize (eyJ n j).length = l at *
      go_wp2_with fail
      refine Calls.mono (unhide C) ?_
      rintro e w2 ⟨v, rfl, ⟨no', nc', rfl, _, q2⟩, hb2⟩
      have L2 := (unhide hL).all hb2
      have f0 := L2.box.free 0; have f1 := L2.box.free 1; have f2 := L2.box.free 2
      have u0 := L2.box.c0; have u1 := L2.box.c1; have u2 := L2.box.c2
      have L3 := hide (L2.put q2)
      clear C hb2 L2 hL y0 y1 y2 q2
      go_wp2_with fail
      go_round
      case rel => exact ⟨j + 1, no', nc', by omega, by go_num, L3⟩
      case measure => simp [intOf]; omega
    · have hjj : j = n := by omega
      subst hjj
      rw [eyJ_all] at hL y2
      have r0 := (unhide hL).res.c0; have r1 := (unhide hL).res.c1; have r2 := (unhide hL).res.c2
      have f0 := (unhide hL).res.free 0; have f1 := (unhide hL).res.free 1; have f2 := (unhide hL).res.free 2
      have XP := (unhide hL).res.put (.int .i64 j) (.int .i64 j) (.slice no (eyM j).length nc)
      have z0 := XP.c0; have z1 := XP.c1; have z2 := XP.c2
      have Q := hide (BitsAt.putM (unhide hL).bits (unhide hL).res (.int .i64 j) (.int .i64 j) (.slice no (eyM j).length nc))
      have BP := hide (below_putM (unhide hL).bel (Nat.le_refl _) (.int .i64 j) (.int .i64 j) (.slice no (eyM j).length nc))
      clear XP hL
      go_wp2
      exact bodyPost_ret (v := .agg #[.int .i64 j, .int .i64 j, .slice no (eyM j).length nc]) (by simp [results, Tryd.results12, go_sem, z0, z1, z2]) rfl ⟨_, rfl, NewM.any (unhide Q), unhide BP⟩

end Go.Proofs.YtheepcdlakjdcabDoor

/- The reference of layer 10: In, Copy, Stack, Beside. -/
namespace Go.Proofs.YtheepcdlakjdcabDoor
open Go.RowKit
attribute [local go_sem ↓] Go.wp_at_zero Go.wp_at_succ
theorem OwnB.least {base base' : Nat} {w : World} {v : Value} {S : List Nat} (h : OwnB base w v S) (hb : base' ≤ base) : OwnB base' w v S := by
  refine ⟨⟨h.1.1, ?_⟩, h.2⟩
  rcases h.1.2 with e | ⟨g, cap, cur, hv, hg, rest⟩
  · exact .inl e
  · exact .inr ⟨g, cap, cur, hv, Nat.le_trans hb hg, rest⟩
/-- Stores into a box that lies elsewhere. -/
theorem OwnB.putM {base : Nat} {w : World} {v : Value} {S : List Nat} (h : OwnB base w v S) {b : Nat} {x y z : Value} (_hx : BoxM w b x y z) (hb : b < base) (u u' u'' : Value) : OwnB base (((w.setCell ⟨b, 0, none⟩ u).setCell ⟨b, 1, none⟩ u').setCell ⟨b, 2, none⟩ u'') v S := by
  refine ⟨⟨h.1.1, ?_⟩, h.2⟩
  rcases h.1.2 with e | ⟨g, cap, cur, hv, hg, hh, rest⟩
  · exact .inl e
  · refine .inr ⟨g, cap, cur, hv, hg, ?_, rest⟩
    have ne : g ≠ b := by omega
    rw [Below.heap_setCell _ ⟨b, 2, none⟩ u'' g ne, Below.heap_setCell _ ⟨b, 1, none⟩ u' g ne, Below.heap_setCell _ ⟨b, 0, none⟩ u g ne]
    exact hh

end Go.Proofs.YtheepcdlakjdcabDoor

/- The law of layer 10: awake, spoil. -/
namespace Go.Proofs.YtheepcdlakjdcabDoor
open Go.RowKit
attribute [local go_sem ↓] Go.wp_at_zero Go.wp_at_succ

/-- Eye of two rows, times itself. -/
theorem eye_two : muM 2 2 2 (eyM 2) (eyM 2) = eyM 2 := mu_eye 2 2 (eyM 2) (mkM_len _ _ _) (by decide)

set_option maxRecDepth 20000 in
set_option maxHeartbeats 4000000 in
theorem awake10_of (S : List Nat) (l : Nat) (w : World) (hl : S.length = l) (hs : l ≤ 36)
    (C1 : ∀ w', Calls Tryd.prog 13 #[.int .i64 2] w' fun e w'' => ∃ v, e = .returned (.tuple #[v, .int .i64 0]) ∧ NewM 0 w'' 2 2 S v ∧ Below w'.heap.size w' w'')
    (C2 : ∀ w' ao cap, Below w.heap.size w w' → BitsAt w' ao cap (mxL S) → Calls Tryd.prog 11 #[.agg #[.int .i64 2, .int .i64 2, .slice ao l cap], .agg #[.int .i64 2, .int .i64 2, .slice ao l cap]] w' fun e w'' => ∃ v, e = .returned (.tuple #[v, .int .i64 0]) ∧ NewM 0 w'' 2 2 S v ∧ Below w'.heap.size w' w'')
    (C3 : ∀ w', Calls Tryd.prog 12 #[.int .i64 2] w' fun e w'' => ∃ v, e = .returned v ∧ NewM 0 w'' 2 2 S v ∧ Below w'.heap.size w' w'') :
    Calls Tryd.prog 5 #[] w fun e w' => e = .returned (.bool true) ∧ Below w.heap.size w w' := by
  have K1 := hide C1; have K2 := hide C2; have K3 := hide C3; have HL := hide hl
  have K4 := hide (fun w' ao bo cap d (h : BitsAt w' ao cap (mxL S)) (h2 : BitsAt w' bo d (mxL S)) => rsame_any 2 2 ao bo cap d S w' h h2 (by omega))
  rw [hl] at K4
  clear C1 C2 C3 hl
  go_enter Tryd.func5, Tryd.ntmps5
  go_wp2_with fail
  refine (unhide K1 _).mono ?_
  rintro e w1 ⟨v, rfl, ⟨ao, cap, rfl, _, q1⟩, hb1⟩
  rw [unhide HL]
  have ba := below_alloc9 w1 (.cells #[.int .i64 (2 : Nat), .int .i64 (2 : Nat), .slice ao l cap] 24)
  have B1 := hide (hb1.trans (ba.mono hb1.size))
  have Q1 := hide (q1.below ba)
  clear q1 hb1 ba K1
  go_wp2_with fail
  refine (unhide K2 _ _ _ (unhide B1) (unhide Q1)).mono ?_
  rintro e w2 ⟨v, rfl, ⟨bo, d, rfl, _, q2⟩, hb2⟩
  rw [unhide HL]
  have B2 := (unhide B1).trans (hb2.mono (unhide B1).size)
  have ba := below_alloc9 w2 (.cells #[.int .i64 (2 : Nat), .int .i64 (2 : Nat), .slice bo l d] 24)
  have x2 := BoxM.new w2 (.int .i64 (2 : Nat)) (.int .i64 (2 : Nat)) (.slice bo l d)
  have B3 := hide (B2.trans (ba.mono B2.size))
  have Q2 := hide (q2.below ba)
  have X2 := hide x2
  clear q2 hb2 ba K2 B1 B2 Q1 x2
  go_wp2_with fail
  refine at_world (fun W => Below w.heap.size w W ∧ BitsAt W bo d (mxL S) ∧ BoxM W w2.heap.size (.int .i64 2) (.int .i64 2) (.slice bo l d)) ⟨unhide B3, unhide Q2, unhide X2⟩ ?_
  clear B3 Q2 X2
  rintro W ⟨bw, qw, xw⟩
  generalize w2.heap.size = g at *
  have HB := hide bw; have HQ := hide qw
  have HK := hide (fun w' (h : Below W.heap.size W w') => (show Below W.heap.size W w' ∧ w'.cell? ⟨g, 0, none⟩ = some (.int .i64 2) ∧ w'.cell? ⟨g, 1, none⟩ = some (.int .i64 2) ∧ w'.cell? ⟨g, 2, none⟩ = some (.slice bo l d) from ⟨h, (xw.all h).c0, (xw.all h).c1, (xw.all h).c2⟩))
  clear bw qw xw
  go_region_held3 (fun w' => Below W.heap.size W w' ∧ w'.cell? ⟨g, 0, none⟩ = some (.int .i64 2) ∧ w'.cell? ⟨g, 1, none⟩ = some (.int .i64 2) ∧ w'.cell? ⟨g, 2, none⟩ = some (.slice bo l d))
    (first | exact unhide HK _ (Below.refl _ _).drew | exact unhide HK _ (by assumption) | fail "KK")
    (first | (go_at_call 12; refine (unhide K3 _).mono ?_; rintro e w4 ⟨v, rfl, ⟨eo, ec, rfl, _, qe⟩, hb4⟩; have hB4 : Below W.heap.size W w4 := Below.trans (And.left (by assumption)) (hb4.mono (Below.size (And.left (by assumption)))); have QE := hide qe; rw [unhide HL]; clear qe hb4 K3) | (go_at_call 9; refine (unhide K4 _ _ _ _ _ (by exact (unhide HQ).below (And.left (by assumption))) (unhide QE)).mono ?_; rintro e w5 ⟨rfl, hb5⟩; have hB5 : Below W.heap.size W w5 := Below.trans (And.left (by assumption)) (hb5.mono (Below.size (And.left (by assumption)))); clear hb5 K4) | fail "NO ARM")
  all_goals
    go_wp2
    go_ret
    exact ⟨rfl, (unhide HB).trans (Below.mono (And.left (by assumption)) (unhide HB).size)⟩

theorem awake10_any (w : World) (hT : Tab w) : Calls Tryd.prog 5 #[] w fun e w' => e = .returned (.bool true) ∧ Below w.heap.size w w' := by
  have hm : ∀ (w' : World) ao cap, BitsAt w' ao cap (mxL (eyM 2)) → Mx w' ao cap 2 2 (eyM 2) := fun w' ao cap h => ⟨h, mkM_len _ _ _, by omega, by omega⟩
  refine awake10_of (eyM 2) 4 w (mkM_len _ _ _) (by omega) (fun w' => (mEye_ok 2 w' (by omega)).mono ?_) (fun w' ao cap hb h => ?_) (fun w' => reye_any 2 w' (by omega))
  · rintro e w'' ⟨v, rfl, h1, h2⟩
    exact ⟨v, rfl, h1.least (Nat.zero_le _), h2⟩
  · have C := mMul_ok 2 2 cap 2 cap ao ao (eyM 2) (eyM 2) w' (hm w' ao cap h) (hm w' ao cap h) (hT.all hb)
    rw [eye_two] at C
    refine C.mono ?_
    rintro e w'' ⟨v, rfl, h1, h2⟩
    exact ⟨v, rfl, h1.least (Nat.zero_le _), h2⟩

end Go.Proofs.YtheepcdlakjdcabDoor

/- The law MatrixTiles, walked. -/
namespace Go.Proofs.YtheepcdlakjdcabDoor
open Go.RowKit
attribute [local go_sem ↓] Go.wp_at_zero Go.wp_at_succ

set_option maxRecDepth 20000 in
set_option maxHeartbeats 4000000 in
theorem matrixTiles_form (r c : Int) (ao : Option Addr) (n cap : Nat) (i k : Int) (w : World) (hT : Tab w) (h : okB r c n = false) :
    Calls Tryd.prog 3 #[.agg #[.int .i64 r, .int .i64 c, .slice ao n cap], .int .i64 i, .int .i64 k] w fun e w' => e = .returned (.bool true) ∧ Below w.heap.size w w' := by
  have K2 := hide (fun w' => rright_any r c ao n cap w')
  rw [h] at K2
  have HB := hide (below_alloc9 w (.cells #[.int .i64 r, .int .i64 c, .slice ao n cap] 24))
  have HT := hide hT
  clear hT h
  go_enter Tryd.func3, Tryd.ntmps3
  go_wp2_with fail
  refine (unhide K2 _).mono ?_
  rintro e w2 ⟨rfl, hb⟩
  replace HB := hide ((unhide HB).trans (hb.mono (unhide HB).size))
  clear hb K2
  go_wp2_with fail
  refine (awake10_any _ ((unhide HT).all (unhide HB))).mono ?_
  rintro e w4 ⟨rfl, hb⟩
  replace HB := hide ((unhide HB).trans (hb.mono (unhide HB).size))
  clear hb
  go_wp2
  go_ret
  exact ⟨rfl, unhide HB⟩

/-- What stands behind the product: its box g. -/
def TlW (w : World) (r c n cap : Nat) (ao : Option Addr) (po : Option Addr) (pd : Nat) (S : List Nat) (g : Nat) (W : World) : Prop :=
  Below w.heap.size w W ∧ BoxM W w.heap.size (.int .i64 r) (.int .i64 c) (.slice ao n cap) ∧ BoxM W g (.int .i64 r) (.int .i64 c) (.slice po n pd) ∧ BitsAt W po pd (mxL S)

set_option maxRecDepth 20000 in
set_option maxHeartbeats 8000000 in
theorem matrixTiles_of (r c n cap x y z u a1 a2 b1 b2 : Nat) (ao : Option Addr) (i k : Int) (S A1 A2 B1 B2 E : List Nat) (w : World) (hT : Tab w) (h : okB r c n = true) (hr : r ≤ 6) (hc : c ≤ 6) (hx : x ≤ r) (hy : y ≤ c) (hi : (IntKind.u64.wrap i).tmod ((r : Int) + 1) = (x : Int)) (hk : (IntKind.u64.wrap k).tmod ((c : Int) + 1) = (y : Int)) (hz : (r : Int) - (x : Int) = (z : Int)) (hu : (c : Int) - (y : Int) = (u : Int))
    (hS : BitsAt w ao cap (mxL S)) (hn : S.length = n) (h36 : n ≤ 36) (l1 : A1.length = a1) (l2 : A2.length = a2) (l3 : B1.length = b1) (l4 : B2.length = b2)
    (C1 : ∀ w', Below w.heap.size w w' → Calls Tryd.prog 6 #[.agg #[.int .i64 r, .int .i64 c, .slice ao n cap], .int .i64 0, .int .i64 0, .int .i64 x, .int .i64 c] w' fun e w'' => ∃ v, e = .returned (.tuple #[v, .int .i64 0]) ∧ NewM w'.heap.size w'' x c A1 v ∧ Below w'.heap.size w' w'')
    (C2 : ∀ w', Below w.heap.size w w' → Calls Tryd.prog 6 #[.agg #[.int .i64 r, .int .i64 c, .slice ao n cap], .int .i64 x, .int .i64 0, .int .i64 z, .int .i64 c] w' fun e w'' => ∃ v, e = .returned (.tuple #[v, .int .i64 0]) ∧ NewM w'.heap.size w'' z c A2 v ∧ Below w'.heap.size w' w'')
    (C3 : ∀ w', Below w.heap.size w w' → Calls Tryd.prog 6 #[.agg #[.int .i64 r, .int .i64 c, .slice ao n cap], .int .i64 0, .int .i64 0, .int .i64 r, .int .i64 y] w' fun e w'' => ∃ v, e = .returned (.tuple #[v, .int .i64 0]) ∧ NewM w'.heap.size w'' r y B1 v ∧ Below w'.heap.size w' w'')
    (C4 : ∀ w', Below w.heap.size w w' → Calls Tryd.prog 6 #[.agg #[.int .i64 r, .int .i64 c, .slice ao n cap], .int .i64 0, .int .i64 y, .int .i64 r, .int .i64 u] w' fun e w'' => ∃ v, e = .returned (.tuple #[v, .int .i64 0]) ∧ NewM w'.heap.size w'' r u B2 v ∧ Below w'.heap.size w' w'')
    (C5 : ∀ w' xo xd yo yd, BitsAt w' xo xd (mxL A1) → BitsAt w' yo yd (mxL A2) → Calls Tryd.prog 7 #[.agg #[.int .i64 x, .int .i64 c, .slice xo a1 xd], .agg #[.int .i64 z, .int .i64 c, .slice yo a2 yd]] w' fun e w'' => ∃ v, e = .returned (.tuple #[v, .int .i64 0]) ∧ NewM w'.heap.size w'' r c S v ∧ Below w'.heap.size w' w'')
    (C6 : ∀ w' xo xd yo yd, BitsAt w' xo xd (mxL B1) → BitsAt w' yo yd (mxL B2) → Calls Tryd.prog 8 #[.agg #[.int .i64 r, .int .i64 y, .slice xo b1 xd], .agg #[.int .i64 r, .int .i64 u, .slice yo b2 yd]] w' fun e w'' => ∃ v, e = .returned (.tuple #[v, .int .i64 0]) ∧ NewM w'.heap.size w'' r c S v ∧ Below w'.heap.size w' w'')
    (C7 : ∀ w', Calls Tryd.prog 12 #[.int .i64 r] w' fun e w'' => ∃ v, e = .returned v ∧ NewM 0 w'' r r E v ∧ Below w'.heap.size w' w'')
    (C8 : (∀ s ∈ S, fFin s = true ∧ s ≠ 9223372036854775808) → ∀ w' xo xd, Below w.heap.size w w' → BitsAt w' xo xd (mxL E) → Calls Tryd.prog 11 #[.agg #[.int .i64 r, .int .i64 r, .slice xo E.length xd], .agg #[.int .i64 r, .int .i64 c, .slice ao n cap]] w' fun e w'' => ∃ v, e = .returned (.tuple #[v, .int .i64 0]) ∧ NewM w'.heap.size w'' r c S v ∧ Below w'.heap.size w' w'') :
    Calls Tryd.prog 3 #[.agg #[.int .i64 r, .int .i64 c, .slice ao n cap], .int .i64 i, .int .i64 k] w fun e w' => e = .returned (.bool true) ∧ Below w.heap.size w w' := by
  have K0 := hide (fun w' => rright_any r c ao n cap w')
  rw [h] at K0
  have K1 := hide C1; have K2 := hide C2; have K3 := hide C3; have K4 := hide C4; have K5 := hide C5; have K6 := hide C6; have K7 := hide C7; have K8 := hide C8
  have HT := hide hT; have HS := hide hS; have HN := hide hn; have L1 := hide l1; have L2 := hide l2; have L3 := hide l3; have L4 := hide l4
  have KS := hide (fun w' uo ud ao cap (x : BitsAt w' uo ud (mxL S)) (y : BitsAt w' ao cap (mxL S)) => rsame_any r c uo ao ud cap S w' x y (by omega))
  rw [hn] at KS
  have HB := hide (below_alloc9 w (.cells #[.int .i64 r, .int .i64 c, .slice ao n cap] 24)); have HX := hide (BoxM.new w (.int .i64 r) (.int .i64 c) (.slice ao n cap))
  clear hT hS hn l1 l2 l3 l4 C1 C2 C3 C4 C5 C6 C7 C8 h
  go_enter Tryd.func3, Tryd.ntmps3
  go_wp2_with fail
  refine (unhide K0 _).mono ?_
  rintro e w0 ⟨rfl, hb⟩
  replace HB := hide ((unhide HB).trans (hb.mono (unhide HB).size)); replace HX := hide ((unhide HX).all hb)
  clear hb K0
  have a0 := (unhide HX).c0; have a1' := (unhide HX).c1; have a2' := (unhide HX).c2
  go_wp2_with fail
  refine (unhide K1 _ (unhide HB)).mono ?_
  rintro e w1 ⟨v, rfl, ⟨po, pd, rfl, _, qq⟩, hb⟩
  rw [unhide L1]
  have ba := below_alloc9 w1 (.cells #[.int .i64 x, .int .i64 c, .slice po a1 pd] 24)
  have hbb := hb.trans (ba.mono hb.size)
  replace HB := hide ((unhide HB).trans (hbb.mono (unhide HB).size)); replace HX := hide ((unhide HX).all hbb)
  have Qp := hide (qq.below ba); have Xp := hide (BoxM.new w1 (.int .i64 x) (.int .i64 c) (.slice po a1 pd))
  clear hb hbb ba qq K1 a0 a1' a2'
  have a0 := (unhide HX).c0; have a1' := (unhide HX).c1; have a2' := (unhide HX).c2
  go_wp2_with fail
  generalize w1.heap.size = gp at *
  refine (unhide K2 _ (unhide HB)).mono ?_
  rintro e w2 ⟨v, rfl, ⟨qo, qd, rfl, _, qq⟩, hb⟩
  rw [unhide L2]
  have ba := below_alloc9 w2 (.cells #[.int .i64 z, .int .i64 c, .slice qo a2 qd] 24)
  have hbb := hb.trans (ba.mono hb.size)
  replace HB := hide ((unhide HB).trans (hbb.mono (unhide HB).size)); replace HX := hide ((unhide HX).all hbb)
  replace Qp := hide ((unhide Qp).below hbb); replace Xp := hide ((unhide Xp).all hbb)
  have Qq := hide (qq.below ba); have Xq := hide (BoxM.new w2 (.int .i64 z) (.int .i64 c) (.slice qo a2 qd))
  clear hb hbb ba qq K2 a0 a1' a2'
  have a0 := (unhide HX).c0; have a1' := (unhide HX).c1; have a2' := (unhide HX).c2
  go_wp2_with fail
  generalize w2.heap.size = gq at *
  refine (unhide K3 _ (unhide HB)).mono ?_
  rintro e w3 ⟨v, rfl, ⟨so, sd, rfl, _, qq⟩, hb⟩
  rw [unhide L3]
  have ba := below_alloc9 w3 (.cells #[.int .i64 r, .int .i64 y, .slice so b1 sd] 24)
  have hbb := hb.trans (ba.mono hb.size)
  replace HB := hide ((unhide HB).trans (hbb.mono (unhide HB).size)); replace HX := hide ((unhide HX).all hbb)
  replace Qp := hide ((unhide Qp).below hbb); replace Xp := hide ((unhide Xp).all hbb)
  replace Qq := hide ((unhide Qq).below hbb); replace Xq := hide ((unhide Xq).all hbb)
  have Qs := hide (qq.below ba); have Xs := hide (BoxM.new w3 (.int .i64 r) (.int .i64 y) (.slice so b1 sd))
  clear hb hbb ba qq K3 a0 a1' a2'
  have a0 := (unhide HX).c0; have a1' := (unhide HX).c1; have a2' := (unhide HX).c2
  go_wp2_with fail
  generalize w3.heap.size = gs at *
  refine (unhide K4 _ (unhide HB)).mono ?_
  rintro e w4 ⟨v, rfl, ⟨to, td, rfl, _, qq⟩, hb⟩
  rw [unhide L4]
  have ba := below_alloc9 w4 (.cells #[.int .i64 r, .int .i64 u, .slice to b2 td] 24)
  have hbb := hb.trans (ba.mono hb.size)
  replace HB := hide ((unhide HB).trans (hbb.mono (unhide HB).size)); replace HX := hide ((unhide HX).all hbb)
  replace Qp := hide ((unhide Qp).below hbb); replace Xp := hide ((unhide Xp).all hbb)
  replace Qq := hide ((unhide Qq).below hbb); replace Xq := hide ((unhide Xq).all hbb)
  replace Qs := hide ((unhide Qs).below hbb); replace Xs := hide ((unhide Xs).all hbb)
  have Qt := hide (qq.below ba); have Xt := hide (BoxM.new w4 (.int .i64 r) (.int .i64 u) (.slice to b2 td))
  clear hb hbb ba qq K4 a0 a1' a2'
  have a0 := (unhide HX).c0; have a1' := (unhide HX).c1; have a2' := (unhide HX).c2
  have c0 := (unhide Xp).c0; have c1 := (unhide Xp).c1; have c2 := (unhide Xp).c2
  have d0 := (unhide Xq).c0; have d1 := (unhide Xq).c1; have d2 := (unhide Xq).c2
  go_wp2_with fail
  generalize w4.heap.size = gt at *
  refine (unhide K5 _ _ _ _ _ (unhide Qp) (unhide Qq)).mono ?_
  rintro e w5 ⟨v, rfl, ⟨mo, md, rfl, _, qq⟩, hb⟩
  rw [unhide HN]
  have ba := below_alloc9 w5 (.cells #[.int .i64 r, .int .i64 c, .slice mo n md] 24)
  have hbb := hb.trans (ba.mono hb.size)
  replace HB := hide ((unhide HB).trans (hbb.mono (unhide HB).size)); replace HX := hide ((unhide HX).all hbb)
  replace Qs := hide ((unhide Qs).below hbb); replace Xs := hide ((unhide Xs).all hbb)
  replace Qt := hide ((unhide Qt).below hbb); replace Xt := hide ((unhide Xt).all hbb)
  have Qm := hide (qq.below ba); have Xm := hide (BoxM.new w5 (.int .i64 r) (.int .i64 c) (.slice mo n md))
  clear hb hbb ba qq K5 a0 a1' a2' c0 c1 c2 d0 d1 d2 Qp Xp Qq Xq
  have c0 := (unhide Xs).c0; have c1 := (unhide Xs).c1; have c2 := (unhide Xs).c2
  have d0 := (unhide Xt).c0; have d1 := (unhide Xt).c1; have d2 := (unhide Xt).c2
  go_wp2_with fail
  generalize w5.heap.size = gm at *
  refine (unhide K6 _ _ _ _ _ (unhide Qs) (unhide Qt)).mono ?_
  rintro e w6 ⟨v, rfl, ⟨lo, ld, rfl, _, qq⟩, hb⟩
  rw [unhide HN]
  have ba := below_alloc9 w6 (.cells #[.int .i64 r, .int .i64 c, .slice lo n ld] 24)
  have hbb := hb.trans (ba.mono hb.size)
  replace HB := hide ((unhide HB).trans (hbb.mono (unhide HB).size)); replace HX := hide ((unhide HX).all hbb)
  replace Qm := hide ((unhide Qm).below hbb); replace Xm := hide ((unhide Xm).all hbb)
  have Ql := hide (qq.below ba); have Xl := hide (BoxM.new w6 (.int .i64 r) (.int .i64 c) (.slice lo n ld))
  clear hb hbb ba qq K6 c0 c1 c2 d0 d1 d2 Qs Xs Qt Xt
  have a0 := (unhide HX).c0; have a1' := (unhide HX).c1; have a2' := (unhide HX).c2
  have c0 := (unhide Xm).c0; have c1 := (unhide Xm).c1; have c2 := (unhide Xm).c2
  go_wp2_with fail
  generalize w6.heap.size = gl at *
  refine (unhide KS _ _ _ _ _ (unhide Qm) ((unhide HS).below (unhide HB))).mono ?_
  rintro e w7 ⟨rfl, hbb⟩
  replace HB := hide ((unhide HB).trans (hbb.mono (unhide HB).size)); replace HX := hide ((unhide HX).all hbb)
  replace Ql := hide ((unhide Ql).below hbb); replace Xl := hide ((unhide Xl).all hbb)
  clear hbb a0 a1' a2' c0 c1 c2 Qm Xm
  have a0 := (unhide HX).c0; have a1' := (unhide HX).c1; have a2' := (unhide HX).c2
  have c0 := (unhide Xl).c0; have c1 := (unhide Xl).c1; have c2 := (unhide Xl).c2
  go_wp2_with fail
  refine (unhide KS _ _ _ _ _ (unhide Ql) ((unhide HS).below (unhide HB))).mono ?_
  rintro e w8 ⟨rfl, hbb⟩
  replace HB := hide ((unhide HB).trans (hbb.mono (unhide HB).size)); replace HX := hide ((unhide HX).all hbb)
  clear hbb a0 a1' a2' c0 c1 c2 Ql Xl
  go_wp2_with fail
  go_loopw [19] (fun i wr => ∃ j : Nat, j ≤ n ∧ i = .int .i64 j ∧ Hid (Below w.heap.size w wr) ∧ Hid (BoxM wr w.heap.size (.int .i64 r) (.int .i64 c) (.slice ao n cap)) ∧ Hid (∀ t, t < j → fFin (S.getD t 0) = true ∧ S.getD t 0 ≠ 9223372036854775808)) (fun i _ => n - (intOf i).toNat)
  case atStart => exact ⟨0, Nat.zero_le _, rfl, HB, HX, hide (fun t h => by omega)⟩
  case round =>
    clear HB HX
    obtain ⟨j, hj, rfl, hB, hX, hF⟩ := hrel
    have a0 := (unhide hX).c0; have a1' := (unhide hX).c1; have a2' := (unhide hX).c2
    by_cases hlt : j < n
    · have hjI : (j : Int) < (n : Int) := by omega
      obtain ⟨b, off, eb, lb, cb⟩ := ((unhide HS).below hB.out).ne (by rw [mxL_len, unhide HN]; omega)
      have xa := cb j (by rw [mxL_len, unhide HN]; exact hlt)
      rw [mxL_at] at xa
      have lx : S.getD j 0 < 18446744073709551616 := by rw [← mxL_at]; exact (unhide HS).lt j
      have CF := hide (fun w' => rfinite_any (S.getD j 0) w' lx)
      subst eb
      have STEP := hide (fun (h1 : fFin (S.getD j 0) = true) (h2 : S.getD j 0 ≠ 9223372036854775808) => (show ∀ t, t < j + 1 → fFin (S.getD t 0) = true ∧ S.getD t 0 ≠ 9223372036854775808 from fun t ht => by
        by_cases e : t = j
        · subst e; exact ⟨h1, h2⟩
        · exact unhide hF t (by omega)))
      generalize S.getD j 0 = s at *
      clear cb lb
      have HB := hB
      go_wp2_with fail
      refine (unhide CF _).mono ?_
      rintro e w9 ⟨rfl, rfl⟩
      clear CF
      cases hf : fFin s
      · clear STEP hf
        go_wp2_with fail
        refine (awake10_any _ ((unhide HT).all (unhide HB))).mono ?_
        rintro e w19 ⟨rfl, hb⟩
        replace HB := hide ((unhide HB).trans (hb.mono (unhide HB).size))
        clear hb
        go_wp2
        go_ret
        exact ⟨rfl, unhide HB⟩
      · by_cases hs : s = 9223372036854775808
        · subst hs
          clear STEP hf
          go_wp2_with fail
          refine (awake10_any _ ((unhide HT).all (unhide HB))).mono ?_
          rintro e w19 ⟨rfl, hb⟩
          replace HB := hide ((unhide HB).trans (hb.mono (unhide HB).size))
          clear hb
          go_wp2
          go_ret
          exact ⟨rfl, unhide HB⟩
        · have hs2 : ¬ ((s : Int) = 9223372036854775808) := by omega
          have ST := hide (unhide STEP hf hs)
          clear STEP hf HB
          go_wp2_with fail
          go_round
          case rel => exact ⟨j + 1, by omega, by go_num, hB, hX, ST⟩
          case measure => simp [intOf]; omega
    · have hjj : n = j := by omega
      subst hjj
      have K9 := hide (unhide K8 (fun s hs => by
        obtain ⟨t, ht, rfl⟩ := List.mem_iff_getElem.1 hs
        have := unhide hF t (by rw [← unhide HN]; exact ht)
        rwa [List.getD_eq_getElem?_getD, List.getElem?_eq_getElem ht] at this))
      have HB := hB; have HX := hX
      clear hF K8 hB hX hj hlt
      go_wp2_with fail
      refine at_world (fun W => Below w.heap.size w W ∧ BoxM W w.heap.size (.int .i64 r) (.int .i64 c) (.slice ao n cap)) ⟨unhide HB, unhide HX⟩ ?_
      rintro W ⟨bw, xw⟩
      clear HB HX a0 a1' a2'
      have HW := hide (fun w' (h : Below W.heap.size W w') => bw.trans (h.mono bw.size))
      have HK := hide (fun w' (h : Below W.heap.size W w') => (show Below W.heap.size W w' ∧ (w'.cell? ⟨w.heap.size, 0, none⟩ = some (.int .i64 r) ∧ w'.cell? ⟨w.heap.size, 1, none⟩ = some (.int .i64 c) ∧ w'.cell? ⟨w.heap.size, 2, none⟩ = some (.slice ao n cap)) from ⟨h, (xw.all h).c0, (xw.all h).c1, (xw.all h).c2⟩))
      have HKA := hide (fun w' (o : Obj) (h : Below W.heap.size W w') => unhide HK _ (h.alloc h.size o))
      have HKS := hide (fun w' g (u u' u'' : Value) (h : Below W.heap.size W w') (hg : W.heap.size ≤ g) => unhide HK _ (below_putM h hg u u' u''))
      have BXB := hide (fun (w' w'' : World) (h : Below (w'.alloc (.cells #[.int .i64 0, .int .i64 0, .slice none 0 0] 24)).heap.size (w'.alloc (.cells #[.int .i64 0, .int .i64 0, .slice none 0 0] 24)) w'') => (BoxM.new w' (.int .i64 0) (.int .i64 0) (.slice none 0 0)).all h)
      have BXA := hide (fun (w'' : World) (h : Below (W.drew.alloc (.cells #[.int .i64 0, .int .i64 0, .slice none 0 0] 24)).heap.size (W.drew.alloc (.cells #[.int .i64 0, .int .i64 0, .slice none 0 0] 24)) w'') => (show BoxM w'' W.heap.size (.int .i64 0) (.int .i64 0) (.slice none 0 0) from (BoxM.new W.drew (.int .i64 0) (.int .i64 0) (.slice none 0 0)).all h))
      have HTL := hide (fun w' g po pd (h : Below W.heap.size W w') (x : BoxM w' g (.int .i64 r) (.int .i64 c) (.slice po n pd)) (qb : BitsAt w' po pd (mxL S)) => (show TlW w r c n cap ao po pd S g w' from ⟨bw.trans (h.mono bw.size), xw.all h, x, qb⟩))
      clear bw xw
      go_region_held3 (fun w' => Below W.heap.size W w' ∧ (w'.cell? ⟨w.heap.size, 0, none⟩ = some (.int .i64 r) ∧ w'.cell? ⟨w.heap.size, 1, none⟩ = some (.int .i64 c) ∧ w'.cell? ⟨w.heap.size, 2, none⟩ = some (.slice ao n cap)))
        (first | exact unhide HK _ (Below.refl _ _).drew | exact unhide HK _ (by assumption) | exact unhide HKA _ _ (Below.refl _ _).drew | exact unhide HKA _ _ (by assumption) | exact unhide HKA _ _ (And.left (by assumption)) | exact unhide HKS _ _ _ _ _ (by assumption) (by first | exact Nat.le_refl _ | exact Below.size (by assumption)) | fail "KK")
        (first | (go_at_call 12; refine (unhide K7 _).mono ?_; rintro e w10 ⟨v, rfl, ⟨eo, ed, rfl, _, qe⟩, hb1⟩; have hB10 : Below W.heap.size W w10 := Below.trans (And.left (by assumption)) (hb1.mono (Below.size (And.left (by assumption)))); (first | (have xb := BoxM.all xb hb1) | (have xb : BoxM w10 W.heap.size (.int .i64 0) (.int .i64 0) (.slice none 0 0) := unhide BXA _ hb1) | (have xb := unhide BXB _ _ hb1) | skip); have QE := hide qe; clear hb1 qe K7) | (go_at_call 11; refine (unhide K9 _ _ _ (unhide HW _ (And.left (by assumption))) (by first | exact unhide QE | exact (unhide QE).below ((Below.refl _ _).alloc (Nat.le_refl _) _))).mono ?_; rintro e w11 ⟨v, rfl, ⟨po, pd, rfl, _, qp⟩, hb1⟩; have hB11 : Below W.heap.size W w11 := Below.trans (And.left (by assumption)) (hb1.mono (Below.size (And.left (by assumption)))); (first | (have xb := BoxM.all xb hb1) | (have xb : BoxM w11 W.heap.size (.int .i64 0) (.int .i64 0) (.slice none 0 0) := unhide BXA _ hb1) | (have xb := unhide BXB _ _ hb1) | skip); have QP := hide qp; rw [unhide HN]; clear hb1 qp K9; (first | (have f0 := BoxM.free xb 0; have f1 := BoxM.free xb 1; have f2 := BoxM.free xb 2; have u0 := BoxM.c0 xb; have u1 := BoxM.c1 xb; have u2 := BoxM.c2 xb) | skip)) | fail "NO ARM")
      all_goals
        first
          | (refine at_thenB (TlW w r c n cap ao po pd S w11.heap.size) (unhide HTL _ _ _ _ (hB11.alloc hB11.size _) (BoxM.new _ _ _ _) ((unhide QP).below (below_alloc9 _ _))) ?_; rintro V ⟨bv, mv, pv, qv⟩; generalize w11.heap.size = gp at *)
          | (refine at_thenB (TlW w r c n cap ao po pd S w10.heap.size) (unhide HTL _ _ _ _ (below_putM hB11 (Below.size (by assumption)) _ _ _) (xb.put _ _ _) ((unhide QP).putM xb _ _ _)) ?_; rintro V ⟨bv, mv, pv, qv⟩; generalize w10.heap.size = gp at *)
          | (refine at_thenB (TlW w r c n cap ao po pd S W.heap.size) (unhide HTL _ _ _ _ (below_putM hB11 (Nat.le_refl _) _ _ _) (xb.put _ _ _) ((unhide QP).putM xb _ _ _)) ?_; rintro V ⟨bv, mv, pv, qv⟩; generalize W.heap.size = gp at *)
          | fail "NO WAY"
      all_goals
        have HB := hide bv; have QV := hide qv
        have a0 := mv.c0; have a1' := mv.c1; have a2' := mv.c2
        have c0 := pv.c0; have c1 := pv.c1; have c2 := pv.c2
        clear HTL HK HKA HKS BXA BXB HW QP QE bv mv pv qv
        go_wp2_with fail
        refine (unhide KS _ _ _ _ _ (unhide QV) ((unhide HS).below (unhide HB))).mono ?_
        rintro e w12 ⟨rfl, hb⟩
        replace HB := hide ((unhide HB).trans (hb.mono (unhide HB).size))
        clear hb KS QV a0 a1' a2' c0 c1 c2
        go_wp2_with fail
        refine (awake10_any _ ((unhide HT).all (unhide HB))).mono ?_
        rintro e w19 ⟨rfl, hb⟩
        replace HB := hide ((unhide HB).trans (hb.mono (unhide HB).size))
        clear hb
        go_wp2
        go_ret
        exact ⟨rfl, unhide HB⟩

theorem mod_place (i : Int) (r : Nat) (hr : r ≤ 6) : ∃ x : Nat, (IntKind.u64.wrap i).tmod ((r : Int) + 1) = (x : Int) ∧ x ≤ r := by
  have h0 : 0 ≤ IntKind.u64.wrap i := by
    simp only [IntKind.wrap_u64]
    omega
  obtain ⟨a, ha⟩ := Int.eq_ofNat_of_zero_le h0
  refine ⟨a % (r + 1), ?_, by have := Nat.mod_lt a (show 0 < r + 1 by omega); omega⟩
  rw [ha, Int.tmod_eq_emod_of_nonneg (by omega)]
  simp

theorem matrixTiles_walk (r c : Int) (ao : Option Addr) (cap : Nat) (I : List Int) (i k : Int) (w : World) (hI : BitsAt w ao cap I) (_hl : I.length ≤ 17592186043904) (_hr : -9223372036854775808 ≤ r ∧ r ≤ 9223372036854775807) (_hc : -9223372036854775808 ≤ c ∧ c ≤ 9223372036854775807) (_hi : -9223372036854775808 ≤ i ∧ i ≤ 9223372036854775807) (_hk : -9223372036854775808 ≤ k ∧ k ≤ 9223372036854775807) (hT : Tab w) :
    Calls Tryd.prog 3 #[.agg #[.int .i64 r, .int .i64 c, .slice ao I.length cap], .int .i64 i, .int .i64 k] w fun e w' => e = .returned (.bool true) ∧ Below w.heap.size w w' := by
  cases h : okB r c I.length
  · exact matrixTiles_form r c ao _ cap i k w hT h
  · obtain ⟨r, c, rfl, rfl, hM, hS⟩ := Mx.of hI h
    have r6 := hM.2.2.1
    have c6 := hM.2.2.2
    obtain ⟨x, hx1, hx2⟩ := mod_place i r r6
    obtain ⟨y, hy1, hy2⟩ := mod_place k c c6
    rw [← natL_len] at h ⊢
    refine matrixTiles_of r c _ cap x y (r - x) (c - y) _ _ _ _ ao i k (natL I) (paM c (natL I) 0 0 x c) (paM c (natL I) x 0 (r - x) c) (paM c (natL I) 0 0 r y) (paM c (natL I) 0 y r (c - y)) (eyM r) w hT h r6 c6 hx2 hy2 hx1 hy1 (by omega) (by omega) hM.1 rfl hM.small rfl rfl rfl rfl ?_ ?_ ?_ ?_ ?_ ?_ (fun w' => reye_any r w' r6) ?_
    · exact fun w' hb => mPart_ok r c cap 0 0 x c ao _ w' (hM.below hb) (by omega) (by omega)
    · exact fun w' hb => mPart_ok r c cap x 0 (r - x) c ao _ w' (hM.below hb) (by omega) (by omega)
    · exact fun w' hb => mPart_ok r c cap 0 0 r y ao _ w' (hM.below hb) (by omega) (by omega)
    · exact fun w' hb => mPart_ok r c cap 0 y r (c - y) ao _ w' (hM.below hb) (by omega) (by omega)
    · intro w' xo xd yo yd h1 h2
      have C := mStack_ok x c xd (r - x) yd xo yo _ _ w' ⟨h1, mkM_len _ _ _, by omega, c6⟩ ⟨h2, mkM_len _ _ _, by omega, c6⟩ (by omega)
      rwa [tile_rows r c x (natL I) hM.2.1 hx2, show x + (r - x) = r by omega] at C
    · intro w' xo xd yo yd h1 h2
      have C := mBeside_ok r y xd (c - y) yd xo yo _ _ w' ⟨h1, mkM_len _ _ _, r6, by omega⟩ ⟨h2, mkM_len _ _ _, r6, by omega⟩ (by omega)
      rwa [tile_cols r c y (natL I) hM.2.1 hy2, show y + (c - y) = c by omega] at C
    · intro hf w' xo xd hb hE
      have C := mMul_ok r r xd c cap xo ao (eyM r) (natL I) w' ⟨hE, mkM_len _ _ _, r6, r6⟩ (hM.below hb) (hT.all hb)
      rwa [mu_eye r c (natL I) hM.2.1 (fun s hs => ⟨hM.1.nat s hs, (hf s hs).1, (hf s hs).2⟩)] at C

end Go.Proofs.YtheepcdlakjdcabDoor

