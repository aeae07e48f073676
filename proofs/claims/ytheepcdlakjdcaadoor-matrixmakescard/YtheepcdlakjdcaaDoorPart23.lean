/- Part 23 of the texts. -/
import Derived.Test.YtheepcdlakjdcaaDoorPart22
import Derived.Deep.RegionWith
import Derived.Deep.RegionLaw
import Derived.Deep.RegionHeld3
import Derived.Test.YtheepcdlakjdcaaDoorChecked
import Derived.Test.YtheepcdlakjdcaaDoorPart02
import Derived.ProofKit
import Derived.SizedLaws
import Derived.Lib.SmallJoins
/- The reference of layer 10: Eye, In. -/
namespace Go.Proofs.YtheepcdlakjdcaaDoor
open Go.RowKit
attribute [local go_sem ↓] Go.wp_at_zero Go.wp_at_succ

/-- A matrix in a variable's box at g, the result's box at gr. -/
structure LpSt (w wr : World) (g gr p q : Nat) (mo : Option Addr) (mc : Nat) (S : List Nat) : Prop where
  bel : Below w.heap.size w wr
  box : BoxM wr g (.int .i64 p) (.int .i64 q) (.slice mo S.length mc)
  res : BoxM wr gr (.int .i64 0) (.int .i64 0) (.slice none 0 0)
  bits : BitsAt wr mo mc (mxL S)
  ne : gr ≠ g
  lo : w.heap.size ≤ g
theorem LpSt.all {w wr w' : World} {g gr p q : Nat} {mo : Option Addr} {mc : Nat} {S : List Nat} (h : LpSt w wr g gr p q mo mc S) (hb : Below wr.heap.size wr w') : LpSt w w' g gr p q mo mc S :=
  ⟨h.bel.trans (hb.mono h.bel.size), h.box.all hb, h.res.all hb, h.bits.below hb, h.ne, h.lo⟩
theorem LpSt.put {w wr : World} {g gr p q : Nat} {mo : Option Addr} {mc : Nat} {S : List Nat} (h : LpSt w wr g gr p q mo mc S) {no : Option Addr} {nc : Nat} {T : List Nat} (hT : BitsAt wr no nc (mxL T)) :
    LpSt w (((wr.setCell ⟨g, 0, none⟩ (.int .i64 p)).setCell ⟨g, 1, none⟩ (.int .i64 q)).setCell ⟨g, 2, none⟩ (.slice no T.length nc)) g gr p q no nc T :=
  ⟨below_putM h.bel h.lo _ _ _, h.box.put _ _ _, ((h.res.other (p := ⟨g, 0, none⟩) h.ne _).other (p := ⟨g, 1, none⟩) h.ne _).other (p := ⟨g, 2, none⟩) h.ne _, hT.putM h.box _ _ _, h.ne, h.lo⟩

theorem NewM.any {w : World} {r c : Nat} {S : List Nat} {ao : Option Addr} {cap : Nat} (h : BitsAt w ao cap (mxL S)) : NewM 0 w r c S (.agg #[.int .i64 r, .int .i64 c, .slice ao S.length cap]) := by
  refine ⟨ao, cap, rfl, ?_, h⟩
  rcases h.2.2 with e | ⟨b, off, e1, _, _⟩
  · exact .inl e
  · exact .inr ⟨b, off, e1, Nat.zero_le _⟩

/-- The first j ones of Eye. -/
def eyJ (n j : Nat) : List Nat := mkM n n (fun i k => if k = i ∧ i < j then 4607182418800017408 else 0)
theorem eyJ_0 (n : Nat) : eyJ n 0 = List.replicate (n * n) 0 := by
  rw [mkM_noughts]
  exact mkM_congr (fun i k _ _ => if_neg (by omega))
theorem eyJ_set (n j : Nat) (hj : j < n) : (eyJ n j).set (j * n + j) 4607182418800017408 = eyJ n (j + 1) := by
  unfold eyJ
  rw [mkM_set n n _ _ hj hj]
  refine mkM_congr (fun x y _ _ => ?_)
  by_cases h : x = j ∧ y = j
  · rw [if_pos h, if_pos (by omega)]
  · rw [if_neg h]
    by_cases e : y = x ∧ x < j
    · rw [if_pos e, if_pos (by omega)]
    · rw [if_neg e, if_neg (by omega)]
theorem eyJ_all (n : Nat) : eyJ n n = eyM n := mkM_congr (fun i k hi _ => by
  by_cases e : k = i
  · rw [if_pos ⟨e, hi⟩, if_pos e]
  · rw [if_neg (fun h => e h.1), if_neg e])
theorem eyJ_len (n j : Nat) : (eyJ n j).length = n * n := mkM_len _ _ _

set_option maxRecDepth 20000 in
set_option maxHeartbeats 4000000 in
theorem reye_any (n : Nat) (w : World) (hn : n ≤ 6) :
    Calls Tryd.prog 16 #[.int .i64 n] w fun e w' => ∃ v, e = .returned v ∧ NewM 0 w' n n (eyM n) v ∧ Below w.heap.size w w' := by
  have K1 := hide (fun w' => rzeros_any n n w' hn hn)
  have b0 := below_alloc9 w (.cells #[.int .i64 0, .int .i64 0, .slice none 0 0] 24)
  have X0 := BoxM.new w (.int .i64 0) (.int .i64 0) (.slice none 0 0)
  have s0 := size_alloc9 w (.cells #[.int .i64 0, .int .i64 0, .slice none 0 0] 24)
  have HB0 := hide b0; have HX0 := hide X0; have HS0 := hide s0
  clear b0 X0 s0
  go_enter Tryd.func16, Tryd.ntmps16
  go_wp2_with fail
  refine (unhide K1 _).mono ?_
  rintro e w1 ⟨v, rfl, ⟨mo, mc, rfl, nw, qs⟩, hb1⟩
  have ba := below_alloc9 w1 (.cells #[.int .i64 n, .int .i64 n, .slice mo (List.replicate (n * n) 0).length mc] 24)
  have BB := (unhide HB0).trans (hb1.mono (unhide HB0).size)
  have L0 := hide (show LpSt w (w1.alloc (.cells #[.int .i64 n, .int .i64 n, .slice mo (eyJ n 0).length mc] 24)) w1.heap.size w.heap.size n n mo mc (eyJ n 0) from by
    rw [eyJ_0]
    exact ⟨BB.trans (ba.mono BB.size), BoxM.new w1 _ _ _, ((unhide HX0).all hb1).all ba, qs.below ba, by have := hb1.size; rw [unhide HS0] at this; omega, BB.size⟩)
  rw [← eyJ_0]
  clear K1 hb1 ba BB nw qs HB0 HX0 HS0
  go_wp2_with fail
  generalize w1.heap.size = g at *
  go_loopw [4] (fun i wr => ∃ (j : Nat) (no : Option Addr) (nc : Nat), j ≤ n ∧ i = .int .i64 j ∧ Hid (LpSt w wr g w.heap.size n n no nc (eyJ n j))) (fun i _ => n - (intOf i).toNat)
  case atStart => exact ⟨0, mo, mc, Nat.zero_le _, rfl, L0⟩
  case round =>
    clear L0
    obtain ⟨j, no, nc, hj, rfl, hL⟩ := hrel
    have y0 := (unhide hL).box.c0; have y1 := (unhide hL).box.c1; have y2 := (unhide hL).box.c2
    by_cases hlt : j < n
    · have hjI : (j : Int) < (n : Int) := by omega
      have C := hide (rwith_any n n nc j j 4607182418800017408 no (eyJ n j) _ ⟨(unhide hL).bits, eyJ_len n j, hn, hn⟩ hlt hlt (by decide))
      rw [eyJ_set n j hlt, show ((4607182418800017408 : Nat) : Int) = 4607182418800017408 from rfl] at C
      generalize (eyJ n j).length = l at *
      go_wp2_with fail
      refine Calls.mono (unhide C) ?_
      rintro e w2 ⟨v, rfl, ⟨no', nc', rfl, _, q2⟩, hb2⟩
      have L2 := (unhide hL).all hb2
      have f0 := L2.box.free 0; have f1 := L2.box.free 1; have f2 := L2.box.free 2
      have u0 := L2.box.c0; have u1 := L2.box.c1; have u2 := L2.box.c2
      have L3 := hide (L2.put q2)
      clear C hb2 L2 hL y0 y1 y2 q2
      go_wp2_with fail
      go_round
      case rel => exact ⟨j + 1, no', nc', by omega, by go_num, L3⟩
      case measure => simp [intOf]; omega
    · have hjj : j = n := by omega
      subst hjj
      rw [eyJ_all] at hL y2
      have r0 := (unhide hL).res.c0; have r1 := (unhide hL).res.c1; have r2 := (unhide hL).res.c2
      have f0 := (unhide hL).res.free 0; have f1 := (unhide hL).res.free 1; have f2 := (unhide hL).res.free 2
      have XP := (unhide hL).res.put (.int .i64 j) (.int .i64 j) (.slice no (eyM j).length nc)
      have z0 := XP.c0; have z1 := XP.c1; have z2 := XP.c2
      have Q := hide (BitsAt.putM (unhide hL).bits (unhide hL).res (.int .i64 j) (.int .i64 j) (.slice no (eyM j).length nc))
      have BP := hide (below_putM (unhide hL).bel (Nat.le_refl _) (.int .i64 j) (.int .i64 j) (.slice no (eyM j).length nc))
      clear XP hL
      go_wp2
      exact bodyPost_ret (v := .agg #[.int .i64 j, .int .i64 j, .slice no (eyM j).length nc]) (by simp [results, Tryd.results16, go_sem, z0, z1, z2]) rfl ⟨_, rfl, NewM.any (unhide Q), unhide BP⟩

end Go.Proofs.YtheepcdlakjdcaaDoor

/- The reference of layer 10: In, Copy, Stack, Beside. -/
namespace Go.Proofs.YtheepcdlakjdcaaDoor
open Go.RowKit
attribute [local go_sem ↓] Go.wp_at_zero Go.wp_at_succ
theorem OwnB.least {base base' : Nat} {w : World} {v : Value} {S : List Nat} (h : OwnB base w v S) (hb : base' ≤ base) : OwnB base' w v S := by
  refine ⟨⟨h.1.1, ?_⟩, h.2⟩
  rcases h.1.2 with e | ⟨g, cap, cur, hv, hg, rest⟩
  · exact .inl e
  · exact .inr ⟨g, cap, cur, hv, Nat.le_trans hb hg, rest⟩
end Go.Proofs.YtheepcdlakjdcaaDoor

/- The law of layer 10: awake, spoil. -/
namespace Go.Proofs.YtheepcdlakjdcaaDoor
open Go.RowKit
attribute [local go_sem ↓] Go.wp_at_zero Go.wp_at_succ

/-- Eye of two rows, times itself. -/
theorem eye_two : muM 2 2 2 (eyM 2) (eyM 2) = eyM 2 := mu_eye 2 2 (eyM 2) (mkM_len _ _ _) (by decide)

set_option maxRecDepth 20000 in
set_option maxHeartbeats 4000000 in
theorem awake10_of (S : List Nat) (l : Nat) (w : World) (hl : S.length = l) (hs : l ≤ 36)
    (C1 : ∀ w', Calls Tryd.prog 14 #[.int .i64 2] w' fun e w'' => ∃ v, e = .returned (.tuple #[v, .int .i64 0]) ∧ NewM 0 w'' 2 2 S v ∧ Below w'.heap.size w' w'')
    (C2 : ∀ w' ao cap, Below w.heap.size w w' → BitsAt w' ao cap (mxL S) → Calls Tryd.prog 31 #[.agg #[.int .i64 2, .int .i64 2, .slice ao l cap], .agg #[.int .i64 2, .int .i64 2, .slice ao l cap]] w' fun e w'' => ∃ v, e = .returned (.tuple #[v, .int .i64 0]) ∧ NewM 0 w'' 2 2 S v ∧ Below w'.heap.size w' w'')
    (C3 : ∀ w', Calls Tryd.prog 16 #[.int .i64 2] w' fun e w'' => ∃ v, e = .returned v ∧ NewM 0 w'' 2 2 S v ∧ Below w'.heap.size w' w'') :
    Calls Tryd.prog 11 #[] w fun e w' => e = .returned (.bool true) ∧ Below w.heap.size w w' := by
  have K1 := hide C1; have K2 := hide C2; have K3 := hide C3; have HL := hide hl
  have K4 := hide (fun w' ao bo cap d (h : BitsAt w' ao cap (mxL S)) (h2 : BitsAt w' bo d (mxL S)) => rsame_any 2 2 ao bo cap d S w' h h2 (by omega))
  rw [hl] at K4
  clear C1 C2 C3 hl
  go_enter Tryd.func11, Tryd.ntmps11
  go_wp2_with fail
  refine (unhide K1 _).mono ?_
  rintro e w1 ⟨v, rfl, ⟨ao, cap, rfl, _, q1⟩, hb1⟩
  rw [unhide HL]
  have ba := below_alloc9 w1 (.cells #[.int .i64 (2 : Nat), .int .i64 (2 : Nat), .slice ao l cap] 24)
  have B1 := hide (hb1.trans (ba.mono hb1.size))
  have Q1 := hide (q1.below ba)
  clear q1 hb1 ba K1
  go_wp2_with fail
  refine (unhide K2 _ _ _ (unhide B1) (unhide Q1)).mono ?_
  rintro e w2 ⟨v, rfl, ⟨bo, d, rfl, _, q2⟩, hb2⟩
  rw [unhide HL]
  have B2 := (unhide B1).trans (hb2.mono (unhide B1).size)
  have ba := below_alloc9 w2 (.cells #[.int .i64 (2 : Nat), .int .i64 (2 : Nat), .slice bo l d] 24)
  have x2 := BoxM.new w2 (.int .i64 (2 : Nat)) (.int .i64 (2 : Nat)) (.slice bo l d)
  have B3 := hide (B2.trans (ba.mono B2.size))
  have Q2 := hide (q2.below ba)
  have X2 := hide x2
  clear q2 hb2 ba K2 B1 B2 Q1 x2
  go_wp2_with fail
  refine at_world (fun W => Below w.heap.size w W ∧ BitsAt W bo d (mxL S) ∧ BoxM W w2.heap.size (.int .i64 2) (.int .i64 2) (.slice bo l d)) ⟨unhide B3, unhide Q2, unhide X2⟩ ?_
  clear B3 Q2 X2
  rintro W ⟨bw, qw, xw⟩
  generalize w2.heap.size = g at *
  have HB := hide bw; have HQ := hide qw
  have HK := hide (fun w' (h : Below W.heap.size W w') => (show Below W.heap.size W w' ∧ w'.cell? ⟨g, 0, none⟩ = some (.int .i64 2) ∧ w'.cell? ⟨g, 1, none⟩ = some (.int .i64 2) ∧ w'.cell? ⟨g, 2, none⟩ = some (.slice bo l d) from ⟨h, (xw.all h).c0, (xw.all h).c1, (xw.all h).c2⟩))
  clear bw qw xw
  go_region_held3 (fun w' => Below W.heap.size W w' ∧ w'.cell? ⟨g, 0, none⟩ = some (.int .i64 2) ∧ w'.cell? ⟨g, 1, none⟩ = some (.int .i64 2) ∧ w'.cell? ⟨g, 2, none⟩ = some (.slice bo l d))
    (first | exact unhide HK _ (Below.refl _ _).drew | exact unhide HK _ (by assumption) | fail "KK")
    (first | (go_at_call 16; refine (unhide K3 _).mono ?_; rintro e w4 ⟨v, rfl, ⟨eo, ec, rfl, _, qe⟩, hb4⟩; have hB4 : Below W.heap.size W w4 := Below.trans (And.left (by assumption)) (hb4.mono (Below.size (And.left (by assumption)))); have QE := hide qe; rw [unhide HL]; clear qe hb4 K3) | (go_at_call 30; refine (unhide K4 _ _ _ _ _ (by exact (unhide HQ).below (And.left (by assumption))) (unhide QE)).mono ?_; rintro e w5 ⟨rfl, hb5⟩; have hB5 : Below W.heap.size W w5 := Below.trans (And.left (by assumption)) (hb5.mono (Below.size (And.left (by assumption)))); clear hb5 K4) | fail "NO ARM")
  all_goals
    go_wp2
    go_ret
    exact ⟨rfl, (unhide HB).trans (Below.mono (And.left (by assumption)) (unhide HB).size)⟩

theorem awake10_any (w : World) (hT : Tab w) : Calls Tryd.prog 11 #[] w fun e w' => e = .returned (.bool true) ∧ Below w.heap.size w w' := by
  have hm : ∀ (w' : World) ao cap, BitsAt w' ao cap (mxL (eyM 2)) → Mx w' ao cap 2 2 (eyM 2) := fun w' ao cap h => ⟨h, mkM_len _ _ _, by omega, by omega⟩
  refine awake10_of (eyM 2) 4 w (mkM_len _ _ _) (by omega) (fun w' => (mEye_ok 2 w' (by omega)).mono ?_) (fun w' ao cap hb h => ?_) (fun w' => reye_any 2 w' (by omega))
  · rintro e w'' ⟨v, rfl, h1, h2⟩
    exact ⟨v, rfl, h1.least (Nat.zero_le _), h2⟩
  · have C := mMul_ok 2 2 cap 2 cap ao ao (eyM 2) (eyM 2) w' (hm w' ao cap h) (hm w' ao cap h) (hT.all hb)
    rw [eye_two] at C
    refine C.mono ?_
    rintro e w'' ⟨v, rfl, h1, h2⟩
    exact ⟨v, rfl, h1.least (Nat.zero_le _), h2⟩

end Go.Proofs.YtheepcdlakjdcaaDoor

/- The law MatrixMakes, walked (mknq.py). -/
namespace Go.Proofs.YtheepcdlakjdcaaDoor
open Go.RowKit
attribute [local go_sem ↓] Go.wp_at_zero Go.wp_at_succ

set_option maxRecDepth 20000 in
set_option maxHeartbeats 8000000 in
theorem matrixMakes_low (r c : Int) (w : World) (hT : Tab w) (h2 : r < 0)
    (C1 : ∀ w', Calls Tryd.prog 13 #[.int .i64 r, .int .i64 c] w' fun e w'' => ∃ v, e = .returned (.tuple #[v, .int .i64 3]) ∧ NewM w'.heap.size w'' 0 0 [] v ∧ Below w'.heap.size w' w'')
    (C2 : ∀ w', Calls Tryd.prog 14 #[.int .i64 r] w' fun e w'' => ∃ v, e = .returned (.tuple #[v, .int .i64 3]) ∧ NewM w'.heap.size w'' 0 0 [] v ∧ Below w'.heap.size w' w'') :
    Calls Tryd.prog 4 #[.int .i64 r, .int .i64 c] w fun e w' => e = .returned (.bool true) ∧ Below w.heap.size w w' := by
  have K1 := hide C1; have K2 := hide C2; have HT := hide hT
  clear C1 C2 hT
  go_enter Tryd.func4, Tryd.ntmps4
  go_wp2_with fail
  refine (unhide K1 _).mono ?_
  rintro e w1 ⟨v, rfl, ⟨zo, zd, rfl, _, qz⟩, hb1⟩
  simp only [List.length_nil]
  have ba := below_alloc9 w1 (.cells #[.int .i64 0, .int .i64 0, .slice zo 0 zd] 24)
  have HB := hide (hb1.trans (ba.mono hb1.size)); have QZ := hide (qz.below ba); have XZ := hide (BoxM.new w1 (.int .i64 0) (.int .i64 0) (.slice zo 0 zd))
  clear K1 hb1 ba qz
  go_wp2_with fail
  generalize w1.heap.size = g1 at *
  refine (unhide K2 _).mono ?_
  rintro e w2 ⟨v, rfl, ⟨yo, yd, rfl, _, qy⟩, hb2⟩
  simp only [List.length_nil]
  have ba := below_alloc9 w2 (.cells #[.int .i64 0, .int .i64 0, .slice yo 0 yd] 24)
  have hbb := hb2.trans (ba.mono hb2.size)
  replace HB := hide ((unhide HB).trans (hbb.mono (unhide HB).size)); replace QZ := hide ((unhide QZ).below hbb); replace XZ := hide ((unhide XZ).all hbb)
  have QY := hide (qy.below ba); have XY := hide (BoxM.new w2 (.int .i64 0) (.int .i64 0) (.slice yo 0 yd))
  clear K2 hb2 ba hbb qy
  go_wp2_with fail
  refine at_world (fun W => Below w.heap.size w W ∧ BitsAt W zo zd (mxL []) ∧ BoxM W g1 (.int .i64 0) (.int .i64 0) (.slice zo 0 zd) ∧ BitsAt W yo yd (mxL []) ∧ BoxM W w2.heap.size (.int .i64 0) (.int .i64 0) (.slice yo 0 yd)) ⟨unhide HB, unhide QZ, unhide XZ, unhide QY, unhide XY⟩ ?_
  clear HB QZ XZ QY XY
  rintro W ⟨hB, qz, xz, qy, xy⟩
  generalize w2.heap.size = g2 at *
  have HB := hide hB; have QZ := hide qz; have QY := hide qy; have XZ := hide xz
  have HK := hide (fun w' (h : Below W.heap.size W w') => (show Below W.heap.size W w' ∧ (w'.cell? ⟨g2, 0, none⟩ = some (.int .i64 0) ∧ w'.cell? ⟨g2, 1, none⟩ = some (.int .i64 0) ∧ w'.cell? ⟨g2, 2, none⟩ = some (.slice yo 0 yd)) from ⟨h, (xy.all h).c0, (xy.all h).c1, (xy.all h).c2⟩))
  clear hB qz xz qy xy
  refine wp_region_held_drew (S := (fun w' => Below W.heap.size W w' ∧ (w'.cell? ⟨g2, 0, none⟩ = some (.int .i64 0) ∧ w'.cell? ⟨g2, 1, none⟩ = some (.int .i64 0) ∧ w'.cell? ⟨g2, 2, none⟩ = some (.slice yo 0 yd)))) (by kernel_rfl) ?_ (fun hHeld => ?_)
  · exact unhide HK _ (Below.refl _ _).drew
  refine wpAnyH_take (i := 0) (oi := { dst := some 45, op := Op.move (Operand.tmp 9), type := 4, pos := "law.go:61", after := #[], guard := none }) (v := (.bool false)) rfl (by kernel_rfl) (by kernel_rfl) (by kernel_rfl) (fun _ _ _ h => h) (Or.inl ⟨by rfl, ?_⟩) (by assumption) ?_
  · (intro w hSw; (try dsimp only at hSw); go_simp)
  simp only [Act.put, List.setIfInBounds_toArray, List.set_cons_zero, List.set_cons_succ]
  refine wpAnyH_take (i := 1) (oi := { dst := some 46, op := Op.move (Operand.tmp 45), type := 4, pos := "law.go:61", after := #[{ on := 0, ground := Ground.data }], guard := none }) (v := (.bool false)) rfl (by kernel_rfl) (by kernel_rfl) (by kernel_rfl) (fun _ _ _ h => h) (Or.inl ⟨by rfl, ?_⟩) (by assumption) ?_
  · (intro w hSw; (try dsimp only at hSw); go_simp)
  simp only [Act.put, List.setIfInBounds_toArray, List.set_cons_zero, List.set_cons_succ]
  refine wpAnyH_take (i := 2) (oi := { dst := some 47, op := Op.load 24 (Operand.tmp 7), type := 24, pos := "law.go:61", after := #[{ on := 1, ground := Ground.guard }], guard := some (1, true) }) (v := undef) rfl (by kernel_rfl) (by kernel_rfl) (by kernel_rfl) (fun _ _ _ h => h) (Or.inr ⟨by rfl, rfl⟩) (by assumption) ?_
  simp only [Act.put, List.setIfInBounds_toArray, List.set_cons_zero, List.set_cons_succ]
  refine wpAnyH_take (i := 3) (oi := { dst := some 48, op := Op.move (Operand.tmp 8), type := 27, pos := "law.go:61", after := #[{ on := 1, ground := Ground.guard }], guard := some (1, true) }) (v := undef) rfl (by kernel_rfl) (by kernel_rfl) (by kernel_rfl) (fun _ _ _ h => h) (Or.inr ⟨by rfl, rfl⟩) (by assumption) ?_
  simp only [Act.put, List.setIfInBounds_toArray, List.set_cons_zero, List.set_cons_succ]
  refine wpAnyH_take (i := 4) (oi := { dst := some 49, op := Op.move (Operand.tmp 0), type := 3, pos := "law.go:61", after := #[{ on := 1, ground := Ground.guard }], guard := some (1, true) }) (v := undef) rfl (by kernel_rfl) (by kernel_rfl) (by kernel_rfl) (fun _ _ _ h => h) (Or.inr ⟨by rfl, rfl⟩) (by assumption) ?_
  simp only [Act.put, List.setIfInBounds_toArray, List.set_cons_zero, List.set_cons_succ]
  refine wpAnyH_take (i := 5) (oi := { dst := some 50, op := Op.call { callee := Callee.value (Operand.func 16), args := #[Operand.tmp 49], argTypes := #[3] }, type := 24, pos := "law.go:61", after := #[{ on := 4, ground := Ground.data }, { on := 1, ground := Ground.chain }, { on := 1, ground := Ground.guard }], guard := some (1, true) }) (v := undef) rfl (by kernel_rfl) (by kernel_rfl) (by kernel_rfl) (fun _ _ _ h => h) (Or.inr ⟨by rfl, rfl⟩) (by assumption) ?_
  simp only [Act.put, List.setIfInBounds_toArray, List.set_cons_zero, List.set_cons_succ]
  refine wpAnyH_take (i := 6) (oi := { dst := some 51, op := Op.call { callee := Callee.value (Operand.func 15), args := #[Operand.tmp 47, Operand.tmp 48, Operand.tmp 50, Operand.const (Value.int IntKind.i64 0)], argTypes := #[24, 27, 24, 27] }, type := 4, pos := "law.go:61", after := #[{ on := 2, ground := Ground.data }, { on := 3, ground := Ground.data }, { on := 5, ground := Ground.data }, { on := 5, ground := Ground.chain }, { on := 1, ground := Ground.guard }], guard := some (1, true) }) (v := undef) rfl (by kernel_rfl) (by kernel_rfl) (by kernel_rfl) (fun _ _ _ h => h) (Or.inr ⟨by rfl, rfl⟩) (by assumption) ?_
  simp only [Act.put, List.setIfInBounds_toArray, List.set_cons_zero, List.set_cons_succ]
  refine wpAnyH_take (i := 7) (oi := { dst := some 52, op := Op.unOp UnOp.not 4 (Operand.tmp 51), type := 4, pos := "law.go:61", after := #[{ on := 6, ground := Ground.data }, { on := 1, ground := Ground.guard }], guard := some (1, true) }) (v := undef) rfl (by kernel_rfl) (by kernel_rfl) (by kernel_rfl) (fun _ _ _ h => h) (Or.inr ⟨by rfl, rfl⟩) (by assumption) ?_
  simp only [Act.put, List.setIfInBounds_toArray, List.set_cons_zero, List.set_cons_succ]
  refine wpAnyH_take (i := 8) (oi := { dst := some 53, op := Op.pick (Operand.tmp 46) (Operand.tmp 52) (Operand.const (Value.bool false)), type := 4, pos := "law.go:61", after := #[{ on := 1, ground := Ground.data }, { on := 7, ground := Ground.data }], guard := none }) (v := (.bool false)) rfl (by kernel_rfl) (by kernel_rfl) (by kernel_rfl) (fun _ _ _ h => h) (Or.inl ⟨by rfl, ?_⟩) (by assumption) ?_
  · (intro w hSw; (try dsimp only at hSw); go_simp)
  simp only [Act.put, List.setIfInBounds_toArray, List.set_cons_zero, List.set_cons_succ]
  refine wpAnyH_take (i := 9) (oi := { dst := some 54, op := Op.move (Operand.tmp 53), type := 4, pos := "law.go:61", after := #[{ on := 8, ground := Ground.data }, { on := 6, ground := Ground.chain }], guard := none }) (v := (.bool false)) rfl (by kernel_rfl) (by kernel_rfl) (by kernel_rfl) (fun _ _ _ h => h) (Or.inl ⟨by rfl, ?_⟩) (by assumption) ?_
  · (intro w hSw; (try dsimp only at hSw); go_simp)
  simp only [Act.put, List.setIfInBounds_toArray, List.set_cons_zero, List.set_cons_succ]
  refine wpAnyH_take (i := 10) (oi := { dst := some 55, op := Op.move (Operand.tmp 9), type := 4, pos := "law.go:61", after := #[{ on := 9, ground := Ground.guard }], guard := some (9, false) }) (v := (.bool false)) rfl (by kernel_rfl) (by kernel_rfl) (by kernel_rfl) (fun _ _ _ h => h) (Or.inl ⟨by rfl, ?_⟩) (by assumption) ?_
  · (intro w hSw; (try dsimp only at hSw); go_simp)
  simp only [Act.put, List.setIfInBounds_toArray, List.set_cons_zero, List.set_cons_succ]
  refine wpAnyH_take (i := 11) (oi := { dst := some 56, op := Op.unOp UnOp.not 4 (Operand.tmp 55), type := 4, pos := "law.go:61", after := #[{ on := 10, ground := Ground.data }, { on := 9, ground := Ground.guard }], guard := some (9, false) }) (v := (.bool true)) rfl (by kernel_rfl) (by kernel_rfl) (by kernel_rfl) (fun _ _ _ h => h) (Or.inl ⟨by rfl, ?_⟩) (by assumption) ?_
  · (intro w hSw; (try dsimp only at hSw); go_simp)
  simp only [Act.put, List.setIfInBounds_toArray, List.set_cons_zero, List.set_cons_succ]
  refine wpAnyH_take (i := 12) (oi := { dst := some 57, op := Op.move (Operand.tmp 56), type := 4, pos := "law.go:61", after := #[{ on := 11, ground := Ground.data }, { on := 9, ground := Ground.chain }, { on := 9, ground := Ground.guard }], guard := some (9, false) }) (v := (.bool true)) rfl (by kernel_rfl) (by kernel_rfl) (by kernel_rfl) (fun _ _ _ h => h) (Or.inl ⟨by rfl, ?_⟩) (by assumption) ?_
  · (intro w hSw; (try dsimp only at hSw); go_simp)
  simp only [Act.put, List.setIfInBounds_toArray, List.set_cons_zero, List.set_cons_succ]
  refine wpAnyH_take (i := 13) (oi := { dst := some 58, op := Op.load 24 (Operand.tmp 7), type := 24, pos := "law.go:61", after := #[{ on := 12, ground := Ground.guard }], guard := some (12, true) }) (v := (.agg #[.int .i64 0, .int .i64 0, .slice yo 0 yd])) rfl (by kernel_rfl) (by kernel_rfl) (by kernel_rfl) (fun _ _ _ h => h) (Or.inl ⟨by rfl, ?_⟩) (by assumption) ?_
  · (intro w hSw; (try dsimp only at hSw); go_simp)
  simp only [Act.put, List.setIfInBounds_toArray, List.set_cons_zero, List.set_cons_succ]
  refine wpAnyH_take (i := 14) (oi := { dst := some 59, op := Op.move (Operand.tmp 8), type := 27, pos := "law.go:61", after := #[{ on := 12, ground := Ground.guard }], guard := some (12, true) }) (v := (.int .i64 3)) rfl (by kernel_rfl) (by kernel_rfl) (by kernel_rfl) (fun _ _ _ h => h) (Or.inl ⟨by rfl, ?_⟩) (by assumption) ?_
  · (intro w hSw; (try dsimp only at hSw); go_simp)
  simp only [Act.put, List.setIfInBounds_toArray, List.set_cons_zero, List.set_cons_succ]
  refine wpAnyH_take (i := 15) (oi := { dst := some 60, op := Op.build 24 #[], type := 24, pos := "law.go:61", after := #[{ on := 12, ground := Ground.guard }], guard := some (12, true) }) (v := (.agg #[.int .i64 0, .int .i64 0, .slice none 0 0])) rfl (by kernel_rfl) (by kernel_rfl) (by kernel_rfl) (fun _ _ _ h => h) (Or.inl ⟨by rfl, ?_⟩) (by assumption) ?_
  · (intro w hSw; (try dsimp only at hSw); go_simp)
  simp only [Act.put, List.setIfInBounds_toArray, List.set_cons_zero, List.set_cons_succ]
  refine wpAnyH_ready (rs := [16]) (by kernel_rfl) (by simp) ?_
  refine AllReadyH.cons (o := { dst := some 61, op := Op.call { callee := Callee.value (Operand.func 15), args := #[Operand.tmp 58, Operand.tmp 59, Operand.tmp 60, Operand.const (Value.int IntKind.i64 3)], argTypes := #[24, 27, 24, 27] }, type := 4, pos := "law.go:61", after := #[{ on := 13, ground := Ground.data }, { on := 14, ground := Ground.data }, { on := 15, ground := Ground.data }, { on := 12, ground := Ground.chain }, { on := 12, ground := Ground.guard }], guard := some (12, true) }) rfl (fun K hK => ?_) AllReadyH.nil
  go_simp
  refine (told_err _ _ _ _ _ _ _ 3 _ (.inr rfl)).mono ?_
  rintro e w6 ⟨rfl, hb1⟩; have hBw6 : Below W.heap.size W w6 := Below.trans (And.left (by assumption)) (hb1.mono (Below.size (And.left (by assumption)))); clear hb1
  go_wp2_with fail
  refine hK.out _ _ ?_ (fun hHeld => ?_)
  · exact unhide HK _ hBw6
  clear hK K
  refine wpAnyH_take (i := 17) (oi := { dst := some 62, op := Op.unOp UnOp.not 4 (Operand.tmp 61), type := 4, pos := "law.go:61", after := #[{ on := 16, ground := Ground.data }, { on := 12, ground := Ground.guard }], guard := some (12, true) }) (v := (.bool false)) rfl (by kernel_rfl) (by kernel_rfl) (by kernel_rfl) (fun _ _ _ h => h) (Or.inl ⟨by rfl, ?_⟩) (by assumption) ?_
  · (intro w hSw; (try dsimp only at hSw); go_simp)
  simp only [Act.put, List.setIfInBounds_toArray, List.set_cons_zero, List.set_cons_succ]
  refine wpAnyH_take (i := 18) (oi := { dst := some 63, op := Op.pick (Operand.tmp 57) (Operand.tmp 62) (Operand.const (Value.bool false)), type := 4, pos := "law.go:61", after := #[{ on := 12, ground := Ground.data }, { on := 17, ground := Ground.data }, { on := 9, ground := Ground.guard }], guard := some (9, false) }) (v := (.bool false)) rfl (by kernel_rfl) (by kernel_rfl) (by kernel_rfl) (fun _ _ _ h => h) (Or.inl ⟨by rfl, ?_⟩) (by assumption) ?_
  · (intro w hSw; (try dsimp only at hSw); go_simp)
  simp only [Act.put, List.setIfInBounds_toArray, List.set_cons_zero, List.set_cons_succ]
  refine wpAnyH_take (i := 19) (oi := { dst := some 64, op := Op.pick (Operand.tmp 54) (Operand.const (Value.bool true)) (Operand.tmp 63), type := 4, pos := "law.go:61", after := #[{ on := 9, ground := Ground.data }, { on := 18, ground := Ground.data }], guard := none }) (v := (.bool false)) rfl (by kernel_rfl) (by kernel_rfl) (by kernel_rfl) (fun _ _ _ h => h) (Or.inl ⟨by rfl, ?_⟩) (by assumption) ?_
  · (intro w hSw; (try dsimp only at hSw); go_simp)
  simp only [Act.put, List.setIfInBounds_toArray, List.set_cons_zero, List.set_cons_succ]
  refine wpAnyH_done (by kernel_rfl) ?_ _
  have hW : Below W.heap.size W _ := And.left (by assumption)
  have x := (unhide XZ).all hW
  have u0 := x.c0; have u1 := x.c1; have u2 := x.c2
  replace HB := hide ((unhide HB).trans (hW.mono (unhide HB).size))
  clear x hW HK QZ QY XZ
  go_wp2_with fail
  refine (told_err _ _ _ _ _ _ _ 3 _ (.inr rfl)).mono ?_
  rintro e w8 ⟨rfl, hb⟩
  replace HB := hide ((unhide HB).trans (hb.mono (unhide HB).size))
  clear hb u0 u1 u2
  go_wp2_with fail
  refine (awake10_any _ ((unhide HT).all (unhide HB))).mono ?_
  rintro e w9 ⟨rfl, hb⟩
  replace HB := hide ((unhide HB).trans (hb.mono (unhide HB).size))
  clear hb
  go_wp2
  go_ret
  exact ⟨rfl, unhide HB⟩

set_option maxRecDepth 20000 in
set_option maxHeartbeats 8000000 in
theorem matrixMakes_high (r c : Int) (w : World) (hT : Tab w) (h1 : 0 ≤ r) (h2 : 6 < r)
    (C1 : ∀ w', Calls Tryd.prog 13 #[.int .i64 r, .int .i64 c] w' fun e w'' => ∃ v, e = .returned (.tuple #[v, .int .i64 3]) ∧ NewM w'.heap.size w'' 0 0 [] v ∧ Below w'.heap.size w' w'')
    (C2 : ∀ w', Calls Tryd.prog 14 #[.int .i64 r] w' fun e w'' => ∃ v, e = .returned (.tuple #[v, .int .i64 3]) ∧ NewM w'.heap.size w'' 0 0 [] v ∧ Below w'.heap.size w' w'') :
    Calls Tryd.prog 4 #[.int .i64 r, .int .i64 c] w fun e w' => e = .returned (.bool true) ∧ Below w.heap.size w w' := by
  have K1 := hide C1; have K2 := hide C2; have HT := hide hT
  clear C1 C2 hT
  go_enter Tryd.func4, Tryd.ntmps4
  go_wp2_with fail
  refine (unhide K1 _).mono ?_
  rintro e w1 ⟨v, rfl, ⟨zo, zd, rfl, _, qz⟩, hb1⟩
  simp only [List.length_nil]
  have ba := below_alloc9 w1 (.cells #[.int .i64 0, .int .i64 0, .slice zo 0 zd] 24)
  have HB := hide (hb1.trans (ba.mono hb1.size)); have QZ := hide (qz.below ba); have XZ := hide (BoxM.new w1 (.int .i64 0) (.int .i64 0) (.slice zo 0 zd))
  clear K1 hb1 ba qz
  go_wp2_with fail
  generalize w1.heap.size = g1 at *
  refine (unhide K2 _).mono ?_
  rintro e w2 ⟨v, rfl, ⟨yo, yd, rfl, _, qy⟩, hb2⟩
  simp only [List.length_nil]
  have ba := below_alloc9 w2 (.cells #[.int .i64 0, .int .i64 0, .slice yo 0 yd] 24)
  have hbb := hb2.trans (ba.mono hb2.size)
  replace HB := hide ((unhide HB).trans (hbb.mono (unhide HB).size)); replace QZ := hide ((unhide QZ).below hbb); replace XZ := hide ((unhide XZ).all hbb)
  have QY := hide (qy.below ba); have XY := hide (BoxM.new w2 (.int .i64 0) (.int .i64 0) (.slice yo 0 yd))
  clear K2 hb2 ba hbb qy
  go_wp2_with fail
  refine at_world (fun W => Below w.heap.size w W ∧ BitsAt W zo zd (mxL []) ∧ BoxM W g1 (.int .i64 0) (.int .i64 0) (.slice zo 0 zd) ∧ BitsAt W yo yd (mxL []) ∧ BoxM W w2.heap.size (.int .i64 0) (.int .i64 0) (.slice yo 0 yd)) ⟨unhide HB, unhide QZ, unhide XZ, unhide QY, unhide XY⟩ ?_
  clear HB QZ XZ QY XY
  rintro W ⟨hB, qz, xz, qy, xy⟩
  generalize w2.heap.size = g2 at *
  have HB := hide hB; have QZ := hide qz; have QY := hide qy; have XZ := hide xz
  have HK := hide (fun w' (h : Below W.heap.size W w') => (show Below W.heap.size W w' ∧ (w'.cell? ⟨g2, 0, none⟩ = some (.int .i64 0) ∧ w'.cell? ⟨g2, 1, none⟩ = some (.int .i64 0) ∧ w'.cell? ⟨g2, 2, none⟩ = some (.slice yo 0 yd)) from ⟨h, (xy.all h).c0, (xy.all h).c1, (xy.all h).c2⟩))
  clear hB qz xz qy xy
  refine wp_region_held_drew (S := (fun w' => Below W.heap.size W w' ∧ (w'.cell? ⟨g2, 0, none⟩ = some (.int .i64 0) ∧ w'.cell? ⟨g2, 1, none⟩ = some (.int .i64 0) ∧ w'.cell? ⟨g2, 2, none⟩ = some (.slice yo 0 yd)))) (by kernel_rfl) ?_ (fun hHeld => ?_)
  · exact unhide HK _ (Below.refl _ _).drew
  refine wpAnyH_take (i := 0) (oi := { dst := some 45, op := Op.move (Operand.tmp 9), type := 4, pos := "law.go:61", after := #[], guard := none }) (v := (.bool false)) rfl (by kernel_rfl) (by kernel_rfl) (by kernel_rfl) (fun _ _ _ h => h) (Or.inl ⟨by rfl, ?_⟩) (by assumption) ?_
  · (intro w hSw; (try dsimp only at hSw); go_simp)
  simp only [Act.put, List.setIfInBounds_toArray, List.set_cons_zero, List.set_cons_succ]
  refine wpAnyH_take (i := 1) (oi := { dst := some 46, op := Op.move (Operand.tmp 45), type := 4, pos := "law.go:61", after := #[{ on := 0, ground := Ground.data }], guard := none }) (v := (.bool false)) rfl (by kernel_rfl) (by kernel_rfl) (by kernel_rfl) (fun _ _ _ h => h) (Or.inl ⟨by rfl, ?_⟩) (by assumption) ?_
  · (intro w hSw; (try dsimp only at hSw); go_simp)
  simp only [Act.put, List.setIfInBounds_toArray, List.set_cons_zero, List.set_cons_succ]
  refine wpAnyH_take (i := 2) (oi := { dst := some 47, op := Op.load 24 (Operand.tmp 7), type := 24, pos := "law.go:61", after := #[{ on := 1, ground := Ground.guard }], guard := some (1, true) }) (v := undef) rfl (by kernel_rfl) (by kernel_rfl) (by kernel_rfl) (fun _ _ _ h => h) (Or.inr ⟨by rfl, rfl⟩) (by assumption) ?_
  simp only [Act.put, List.setIfInBounds_toArray, List.set_cons_zero, List.set_cons_succ]
  refine wpAnyH_take (i := 3) (oi := { dst := some 48, op := Op.move (Operand.tmp 8), type := 27, pos := "law.go:61", after := #[{ on := 1, ground := Ground.guard }], guard := some (1, true) }) (v := undef) rfl (by kernel_rfl) (by kernel_rfl) (by kernel_rfl) (fun _ _ _ h => h) (Or.inr ⟨by rfl, rfl⟩) (by assumption) ?_
  simp only [Act.put, List.setIfInBounds_toArray, List.set_cons_zero, List.set_cons_succ]
  refine wpAnyH_take (i := 4) (oi := { dst := some 49, op := Op.move (Operand.tmp 0), type := 3, pos := "law.go:61", after := #[{ on := 1, ground := Ground.guard }], guard := some (1, true) }) (v := undef) rfl (by kernel_rfl) (by kernel_rfl) (by kernel_rfl) (fun _ _ _ h => h) (Or.inr ⟨by rfl, rfl⟩) (by assumption) ?_
  simp only [Act.put, List.setIfInBounds_toArray, List.set_cons_zero, List.set_cons_succ]
  refine wpAnyH_take (i := 5) (oi := { dst := some 50, op := Op.call { callee := Callee.value (Operand.func 16), args := #[Operand.tmp 49], argTypes := #[3] }, type := 24, pos := "law.go:61", after := #[{ on := 4, ground := Ground.data }, { on := 1, ground := Ground.chain }, { on := 1, ground := Ground.guard }], guard := some (1, true) }) (v := undef) rfl (by kernel_rfl) (by kernel_rfl) (by kernel_rfl) (fun _ _ _ h => h) (Or.inr ⟨by rfl, rfl⟩) (by assumption) ?_
  simp only [Act.put, List.setIfInBounds_toArray, List.set_cons_zero, List.set_cons_succ]
  refine wpAnyH_take (i := 6) (oi := { dst := some 51, op := Op.call { callee := Callee.value (Operand.func 15), args := #[Operand.tmp 47, Operand.tmp 48, Operand.tmp 50, Operand.const (Value.int IntKind.i64 0)], argTypes := #[24, 27, 24, 27] }, type := 4, pos := "law.go:61", after := #[{ on := 2, ground := Ground.data }, { on := 3, ground := Ground.data }, { on := 5, ground := Ground.data }, { on := 5, ground := Ground.chain }, { on := 1, ground := Ground.guard }], guard := some (1, true) }) (v := undef) rfl (by kernel_rfl) (by kernel_rfl) (by kernel_rfl) (fun _ _ _ h => h) (Or.inr ⟨by rfl, rfl⟩) (by assumption) ?_
  simp only [Act.put, List.setIfInBounds_toArray, List.set_cons_zero, List.set_cons_succ]
  refine wpAnyH_take (i := 7) (oi := { dst := some 52, op := Op.unOp UnOp.not 4 (Operand.tmp 51), type := 4, pos := "law.go:61", after := #[{ on := 6, ground := Ground.data }, { on := 1, ground := Ground.guard }], guard := some (1, true) }) (v := undef) rfl (by kernel_rfl) (by kernel_rfl) (by kernel_rfl) (fun _ _ _ h => h) (Or.inr ⟨by rfl, rfl⟩) (by assumption) ?_
  simp only [Act.put, List.setIfInBounds_toArray, List.set_cons_zero, List.set_cons_succ]
  refine wpAnyH_take (i := 8) (oi := { dst := some 53, op := Op.pick (Operand.tmp 46) (Operand.tmp 52) (Operand.const (Value.bool false)), type := 4, pos := "law.go:61", after := #[{ on := 1, ground := Ground.data }, { on := 7, ground := Ground.data }], guard := none }) (v := (.bool false)) rfl (by kernel_rfl) (by kernel_rfl) (by kernel_rfl) (fun _ _ _ h => h) (Or.inl ⟨by rfl, ?_⟩) (by assumption) ?_
  · (intro w hSw; (try dsimp only at hSw); go_simp)
  simp only [Act.put, List.setIfInBounds_toArray, List.set_cons_zero, List.set_cons_succ]
  refine wpAnyH_take (i := 9) (oi := { dst := some 54, op := Op.move (Operand.tmp 53), type := 4, pos := "law.go:61", after := #[{ on := 8, ground := Ground.data }, { on := 6, ground := Ground.chain }], guard := none }) (v := (.bool false)) rfl (by kernel_rfl) (by kernel_rfl) (by kernel_rfl) (fun _ _ _ h => h) (Or.inl ⟨by rfl, ?_⟩) (by assumption) ?_
  · (intro w hSw; (try dsimp only at hSw); go_simp)
  simp only [Act.put, List.setIfInBounds_toArray, List.set_cons_zero, List.set_cons_succ]
  refine wpAnyH_take (i := 10) (oi := { dst := some 55, op := Op.move (Operand.tmp 9), type := 4, pos := "law.go:61", after := #[{ on := 9, ground := Ground.guard }], guard := some (9, false) }) (v := (.bool false)) rfl (by kernel_rfl) (by kernel_rfl) (by kernel_rfl) (fun _ _ _ h => h) (Or.inl ⟨by rfl, ?_⟩) (by assumption) ?_
  · (intro w hSw; (try dsimp only at hSw); go_simp)
  simp only [Act.put, List.setIfInBounds_toArray, List.set_cons_zero, List.set_cons_succ]
  refine wpAnyH_take (i := 11) (oi := { dst := some 56, op := Op.unOp UnOp.not 4 (Operand.tmp 55), type := 4, pos := "law.go:61", after := #[{ on := 10, ground := Ground.data }, { on := 9, ground := Ground.guard }], guard := some (9, false) }) (v := (.bool true)) rfl (by kernel_rfl) (by kernel_rfl) (by kernel_rfl) (fun _ _ _ h => h) (Or.inl ⟨by rfl, ?_⟩) (by assumption) ?_
  · (intro w hSw; (try dsimp only at hSw); go_simp)
  simp only [Act.put, List.setIfInBounds_toArray, List.set_cons_zero, List.set_cons_succ]
  refine wpAnyH_take (i := 12) (oi := { dst := some 57, op := Op.move (Operand.tmp 56), type := 4, pos := "law.go:61", after := #[{ on := 11, ground := Ground.data }, { on := 9, ground := Ground.chain }, { on := 9, ground := Ground.guard }], guard := some (9, false) }) (v := (.bool true)) rfl (by kernel_rfl) (by kernel_rfl) (by kernel_rfl) (fun _ _ _ h => h) (Or.inl ⟨by rfl, ?_⟩) (by assumption) ?_
  · (intro w hSw; (try dsimp only at hSw); go_simp)
  simp only [Act.put, List.setIfInBounds_toArray, List.set_cons_zero, List.set_cons_succ]
  refine wpAnyH_take (i := 13) (oi := { dst := some 58, op := Op.load 24 (Operand.tmp 7), type := 24, pos := "law.go:61", after := #[{ on := 12, ground := Ground.guard }], guard := some (12, true) }) (v := (.agg #[.int .i64 0, .int .i64 0, .slice yo 0 yd])) rfl (by kernel_rfl) (by kernel_rfl) (by kernel_rfl) (fun _ _ _ h => h) (Or.inl ⟨by rfl, ?_⟩) (by assumption) ?_
  · (intro w hSw; (try dsimp only at hSw); go_simp)
  simp only [Act.put, List.setIfInBounds_toArray, List.set_cons_zero, List.set_cons_succ]
  refine wpAnyH_take (i := 14) (oi := { dst := some 59, op := Op.move (Operand.tmp 8), type := 27, pos := "law.go:61", after := #[{ on := 12, ground := Ground.guard }], guard := some (12, true) }) (v := (.int .i64 3)) rfl (by kernel_rfl) (by kernel_rfl) (by kernel_rfl) (fun _ _ _ h => h) (Or.inl ⟨by rfl, ?_⟩) (by assumption) ?_
  · (intro w hSw; (try dsimp only at hSw); go_simp)
  simp only [Act.put, List.setIfInBounds_toArray, List.set_cons_zero, List.set_cons_succ]
  refine wpAnyH_take (i := 15) (oi := { dst := some 60, op := Op.build 24 #[], type := 24, pos := "law.go:61", after := #[{ on := 12, ground := Ground.guard }], guard := some (12, true) }) (v := (.agg #[.int .i64 0, .int .i64 0, .slice none 0 0])) rfl (by kernel_rfl) (by kernel_rfl) (by kernel_rfl) (fun _ _ _ h => h) (Or.inl ⟨by rfl, ?_⟩) (by assumption) ?_
  · (intro w hSw; (try dsimp only at hSw); go_simp)
  simp only [Act.put, List.setIfInBounds_toArray, List.set_cons_zero, List.set_cons_succ]
  refine wpAnyH_ready (rs := [16]) (by kernel_rfl) (by simp) ?_
  refine AllReadyH.cons (o := { dst := some 61, op := Op.call { callee := Callee.value (Operand.func 15), args := #[Operand.tmp 58, Operand.tmp 59, Operand.tmp 60, Operand.const (Value.int IntKind.i64 3)], argTypes := #[24, 27, 24, 27] }, type := 4, pos := "law.go:61", after := #[{ on := 13, ground := Ground.data }, { on := 14, ground := Ground.data }, { on := 15, ground := Ground.data }, { on := 12, ground := Ground.chain }, { on := 12, ground := Ground.guard }], guard := some (12, true) }) rfl (fun K hK => ?_) AllReadyH.nil
  go_simp
  refine (told_err _ _ _ _ _ _ _ 3 _ (.inr rfl)).mono ?_
  rintro e w6 ⟨rfl, hb1⟩; have hBw6 : Below W.heap.size W w6 := Below.trans (And.left (by assumption)) (hb1.mono (Below.size (And.left (by assumption)))); clear hb1
  go_wp2_with fail
  refine hK.out _ _ ?_ (fun hHeld => ?_)
  · exact unhide HK _ hBw6
  clear hK K
  refine wpAnyH_take (i := 17) (oi := { dst := some 62, op := Op.unOp UnOp.not 4 (Operand.tmp 61), type := 4, pos := "law.go:61", after := #[{ on := 16, ground := Ground.data }, { on := 12, ground := Ground.guard }], guard := some (12, true) }) (v := (.bool false)) rfl (by kernel_rfl) (by kernel_rfl) (by kernel_rfl) (fun _ _ _ h => h) (Or.inl ⟨by rfl, ?_⟩) (by assumption) ?_
  · (intro w hSw; (try dsimp only at hSw); go_simp)
  simp only [Act.put, List.setIfInBounds_toArray, List.set_cons_zero, List.set_cons_succ]
  refine wpAnyH_take (i := 18) (oi := { dst := some 63, op := Op.pick (Operand.tmp 57) (Operand.tmp 62) (Operand.const (Value.bool false)), type := 4, pos := "law.go:61", after := #[{ on := 12, ground := Ground.data }, { on := 17, ground := Ground.data }, { on := 9, ground := Ground.guard }], guard := some (9, false) }) (v := (.bool false)) rfl (by kernel_rfl) (by kernel_rfl) (by kernel_rfl) (fun _ _ _ h => h) (Or.inl ⟨by rfl, ?_⟩) (by assumption) ?_
  · (intro w hSw; (try dsimp only at hSw); go_simp)
  simp only [Act.put, List.setIfInBounds_toArray, List.set_cons_zero, List.set_cons_succ]
  refine wpAnyH_take (i := 19) (oi := { dst := some 64, op := Op.pick (Operand.tmp 54) (Operand.const (Value.bool true)) (Operand.tmp 63), type := 4, pos := "law.go:61", after := #[{ on := 9, ground := Ground.data }, { on := 18, ground := Ground.data }], guard := none }) (v := (.bool false)) rfl (by kernel_rfl) (by kernel_rfl) (by kernel_rfl) (fun _ _ _ h => h) (Or.inl ⟨by rfl, ?_⟩) (by assumption) ?_
  · (intro w hSw; (try dsimp only at hSw); go_simp)
  simp only [Act.put, List.setIfInBounds_toArray, List.set_cons_zero, List.set_cons_succ]
  refine wpAnyH_done (by kernel_rfl) ?_ _
  have hW : Below W.heap.size W _ := And.left (by assumption)
  have x := (unhide XZ).all hW
  have u0 := x.c0; have u1 := x.c1; have u2 := x.c2
  replace HB := hide ((unhide HB).trans (hW.mono (unhide HB).size))
  clear x hW HK QZ QY XZ
  go_wp2_with fail
  refine (told_err _ _ _ _ _ _ _ 3 _ (.inr rfl)).mono ?_
  rintro e w8 ⟨rfl, hb⟩
  replace HB := hide ((unhide HB).trans (hb.mono (unhide HB).size))
  clear hb u0 u1 u2
  go_wp2_with fail
  refine (awake10_any _ ((unhide HT).all (unhide HB))).mono ?_
  rintro e w9 ⟨rfl, hb⟩
  replace HB := hide ((unhide HB).trans (hb.mono (unhide HB).size))
  clear hb
  go_wp2
  go_ret
  exact ⟨rfl, unhide HB⟩

set_option maxRecDepth 20000 in
set_option maxHeartbeats 8000000 in
theorem matrixMakes_colsLow (yn : Nat) (c : Int) (Y : List Nat) (w : World) (hT : Tab w) (hY : Y.length ≤ 36) (h1 : yn ≤ 6) (h2 : c < 0)
    (C1 : ∀ w', Calls Tryd.prog 13 #[.int .i64 (yn : Nat), .int .i64 c] w' fun e w'' => ∃ v, e = .returned (.tuple #[v, .int .i64 3]) ∧ NewM w'.heap.size w'' 0 0 [] v ∧ Below w'.heap.size w' w'')
    (C2 : ∀ w', Calls Tryd.prog 14 #[.int .i64 (yn : Nat)] w' fun e w'' => ∃ v, e = .returned (.tuple #[v, .int .i64 0]) ∧ NewM w'.heap.size w'' yn yn Y v ∧ Below w'.heap.size w' w'')
    (C3 : ∀ w', Calls Tryd.prog 16 #[.int .i64 (yn : Nat)] w' fun e w'' => ∃ v, e = .returned v ∧ NewM 0 w'' yn yn Y v ∧ Below w'.heap.size w' w'') :
    Calls Tryd.prog 4 #[.int .i64 (yn : Nat), .int .i64 c] w fun e w' => e = .returned (.bool true) ∧ Below w.heap.size w w' := by
  have K1 := hide C1; have K2 := hide C2; have HT := hide hT; have HY := hide hY
  have K3 := hide C3
  clear C1 C2 hT hY C3
  go_enter Tryd.func4, Tryd.ntmps4
  go_wp2_with fail
  refine (unhide K1 _).mono ?_
  rintro e w1 ⟨v, rfl, ⟨zo, zd, rfl, _, qz⟩, hb1⟩
  simp only [List.length_nil]
  have ba := below_alloc9 w1 (.cells #[.int .i64 0, .int .i64 0, .slice zo 0 zd] 24)
  have HB := hide (hb1.trans (ba.mono hb1.size)); have QZ := hide (qz.below ba); have XZ := hide (BoxM.new w1 (.int .i64 0) (.int .i64 0) (.slice zo 0 zd))
  clear K1 hb1 ba qz
  go_wp2_with fail
  generalize w1.heap.size = g1 at *
  refine (unhide K2 _).mono ?_
  rintro e w2 ⟨v, rfl, ⟨yo, yd, rfl, _, qy⟩, hb2⟩
  have ba := below_alloc9 w2 (.cells #[.int .i64 (yn : Nat), .int .i64 (yn : Nat), .slice yo Y.length yd] 24)
  have hbb := hb2.trans (ba.mono hb2.size)
  replace HB := hide ((unhide HB).trans (hbb.mono (unhide HB).size)); replace QZ := hide ((unhide QZ).below hbb); replace XZ := hide ((unhide XZ).all hbb)
  have QY := hide (qy.below ba); have XY := hide (BoxM.new w2 (.int .i64 (yn : Nat)) (.int .i64 (yn : Nat)) (.slice yo Y.length yd))
  clear K2 hb2 ba hbb qy
  go_wp2_with fail
  refine at_world (fun W => Below w.heap.size w W ∧ BitsAt W zo zd (mxL []) ∧ BoxM W g1 (.int .i64 0) (.int .i64 0) (.slice zo 0 zd) ∧ BitsAt W yo yd (mxL Y) ∧ BoxM W w2.heap.size (.int .i64 (yn : Nat)) (.int .i64 (yn : Nat)) (.slice yo Y.length yd)) ⟨unhide HB, unhide QZ, unhide XZ, unhide QY, unhide XY⟩ ?_
  clear HB QZ XZ QY XY
  rintro W ⟨hB, qz, xz, qy, xy⟩
  generalize w2.heap.size = g2 at *
  have HB := hide hB; have QZ := hide qz; have QY := hide qy; have XZ := hide xz
  have HK := hide (fun w' (h : Below W.heap.size W w') => (show Below W.heap.size W w' ∧ (w'.cell? ⟨g2, 0, none⟩ = some (.int .i64 (yn : Nat)) ∧ w'.cell? ⟨g2, 1, none⟩ = some (.int .i64 (yn : Nat)) ∧ w'.cell? ⟨g2, 2, none⟩ = some (.slice yo Y.length yd)) from ⟨h, (xy.all h).c0, (xy.all h).c1, (xy.all h).c2⟩))
  clear hB qz xz qy xy
  refine wp_region_held_drew (S := (fun w' => Below W.heap.size W w' ∧ (w'.cell? ⟨g2, 0, none⟩ = some (.int .i64 (yn : Nat)) ∧ w'.cell? ⟨g2, 1, none⟩ = some (.int .i64 (yn : Nat)) ∧ w'.cell? ⟨g2, 2, none⟩ = some (.slice yo Y.length yd)))) (by kernel_rfl) ?_ (fun hHeld => ?_)
  · exact unhide HK _ (Below.refl _ _).drew
  refine wpAnyH_take (i := 0) (oi := { dst := some 45, op := Op.move (Operand.tmp 9), type := 4, pos := "law.go:61", after := #[], guard := none }) (v := (.bool true)) rfl (by kernel_rfl) (by kernel_rfl) (by kernel_rfl) (fun _ _ _ h => h) (Or.inl ⟨by rfl, ?_⟩) (by assumption) ?_
  · (intro w hSw; (try dsimp only at hSw); go_simp)
  simp only [Act.put, List.setIfInBounds_toArray, List.set_cons_zero, List.set_cons_succ]
  refine wpAnyH_take (i := 1) (oi := { dst := some 46, op := Op.move (Operand.tmp 45), type := 4, pos := "law.go:61", after := #[{ on := 0, ground := Ground.data }], guard := none }) (v := (.bool true)) rfl (by kernel_rfl) (by kernel_rfl) (by kernel_rfl) (fun _ _ _ h => h) (Or.inl ⟨by rfl, ?_⟩) (by assumption) ?_
  · (intro w hSw; (try dsimp only at hSw); go_simp)
  simp only [Act.put, List.setIfInBounds_toArray, List.set_cons_zero, List.set_cons_succ]
  refine wpAnyH_take (i := 2) (oi := { dst := some 47, op := Op.load 24 (Operand.tmp 7), type := 24, pos := "law.go:61", after := #[{ on := 1, ground := Ground.guard }], guard := some (1, true) }) (v := (.agg #[.int .i64 (yn : Nat), .int .i64 (yn : Nat), .slice yo Y.length yd])) rfl (by kernel_rfl) (by kernel_rfl) (by kernel_rfl) (fun _ _ _ h => h) (Or.inl ⟨by rfl, ?_⟩) (by assumption) ?_
  · (intro w hSw; (try dsimp only at hSw); go_simp)
  simp only [Act.put, List.setIfInBounds_toArray, List.set_cons_zero, List.set_cons_succ]
  refine wpAnyH_take (i := 3) (oi := { dst := some 48, op := Op.move (Operand.tmp 8), type := 27, pos := "law.go:61", after := #[{ on := 1, ground := Ground.guard }], guard := some (1, true) }) (v := (.int .i64 0)) rfl (by kernel_rfl) (by kernel_rfl) (by kernel_rfl) (fun _ _ _ h => h) (Or.inl ⟨by rfl, ?_⟩) (by assumption) ?_
  · (intro w hSw; (try dsimp only at hSw); go_simp)
  simp only [Act.put, List.setIfInBounds_toArray, List.set_cons_zero, List.set_cons_succ]
  refine wpAnyH_take (i := 4) (oi := { dst := some 49, op := Op.move (Operand.tmp 0), type := 3, pos := "law.go:61", after := #[{ on := 1, ground := Ground.guard }], guard := some (1, true) }) (v := (.int .i64 (yn : Nat))) rfl (by kernel_rfl) (by kernel_rfl) (by kernel_rfl) (fun _ _ _ h => h) (Or.inl ⟨by rfl, ?_⟩) (by assumption) ?_
  · (intro w hSw; (try dsimp only at hSw); go_simp)
  simp only [Act.put, List.setIfInBounds_toArray, List.set_cons_zero, List.set_cons_succ]
  refine wpAnyH_ready (rs := [5]) (by kernel_rfl) (by simp) ?_
  refine AllReadyH.cons (o := { dst := some 50, op := Op.call { callee := Callee.value (Operand.func 16), args := #[Operand.tmp 49], argTypes := #[3] }, type := 24, pos := "law.go:61", after := #[{ on := 4, ground := Ground.data }, { on := 1, ground := Ground.chain }, { on := 1, ground := Ground.guard }], guard := some (1, true) }) rfl (fun K hK => ?_) AllReadyH.nil
  go_simp
  refine (unhide K3 _).mono ?_
  rintro e w5 ⟨v, rfl, ⟨eo, ed, rfl, _, qe⟩, hb1⟩; have hBw5 : Below W.heap.size W w5 := Below.trans (And.left (by assumption)) (hb1.mono (Below.size (And.left (by assumption)))); have QE := hide qe; clear hb1 qe
  go_wp2_with fail
  refine hK.out _ _ ?_ (fun hHeld => ?_)
  · exact unhide HK _ hBw5
  clear hK K
  refine wpAnyH_ready (rs := [6]) (by kernel_rfl) (by simp) ?_
  refine AllReadyH.cons (o := { dst := some 51, op := Op.call { callee := Callee.value (Operand.func 15), args := #[Operand.tmp 47, Operand.tmp 48, Operand.tmp 50, Operand.const (Value.int IntKind.i64 0)], argTypes := #[24, 27, 24, 27] }, type := 4, pos := "law.go:61", after := #[{ on := 2, ground := Ground.data }, { on := 3, ground := Ground.data }, { on := 5, ground := Ground.data }, { on := 5, ground := Ground.chain }, { on := 1, ground := Ground.guard }], guard := some (1, true) }) rfl (fun K hK => ?_) AllReadyH.nil
  go_simp
  refine (told_ok _ _ _ _ _ _ Y _ (by exact (unhide QY).below (And.left (by assumption))) (by exact unhide QE) (by have := unhide HY; omega)).mono ?_
  rintro e w6 ⟨rfl, hb1⟩; have hBw6 : Below W.heap.size W w6 := Below.trans (And.left (by assumption)) (hb1.mono (Below.size (And.left (by assumption)))); clear hb1
  go_wp2_with fail
  refine hK.out _ _ ?_ (fun hHeld => ?_)
  · exact unhide HK _ hBw6
  clear hK K
  refine wpAnyH_take (i := 7) (oi := { dst := some 52, op := Op.unOp UnOp.not 4 (Operand.tmp 51), type := 4, pos := "law.go:61", after := #[{ on := 6, ground := Ground.data }, { on := 1, ground := Ground.guard }], guard := some (1, true) }) (v := (.bool false)) rfl (by kernel_rfl) (by kernel_rfl) (by kernel_rfl) (fun _ _ _ h => h) (Or.inl ⟨by rfl, ?_⟩) (by assumption) ?_
  · (intro w hSw; (try dsimp only at hSw); go_simp)
  simp only [Act.put, List.setIfInBounds_toArray, List.set_cons_zero, List.set_cons_succ]
  refine wpAnyH_take (i := 8) (oi := { dst := some 53, op := Op.pick (Operand.tmp 46) (Operand.tmp 52) (Operand.const (Value.bool false)), type := 4, pos := "law.go:61", after := #[{ on := 1, ground := Ground.data }, { on := 7, ground := Ground.data }], guard := none }) (v := (.bool false)) rfl (by kernel_rfl) (by kernel_rfl) (by kernel_rfl) (fun _ _ _ h => h) (Or.inl ⟨by rfl, ?_⟩) (by assumption) ?_
  · (intro w hSw; (try dsimp only at hSw); go_simp)
  simp only [Act.put, List.setIfInBounds_toArray, List.set_cons_zero, List.set_cons_succ]
  refine wpAnyH_take (i := 9) (oi := { dst := some 54, op := Op.move (Operand.tmp 53), type := 4, pos := "law.go:61", after := #[{ on := 8, ground := Ground.data }, { on := 6, ground := Ground.chain }], guard := none }) (v := (.bool false)) rfl (by kernel_rfl) (by kernel_rfl) (by kernel_rfl) (fun _ _ _ h => h) (Or.inl ⟨by rfl, ?_⟩) (by assumption) ?_
  · (intro w hSw; (try dsimp only at hSw); go_simp)
  simp only [Act.put, List.setIfInBounds_toArray, List.set_cons_zero, List.set_cons_succ]
  refine wpAnyH_take (i := 10) (oi := { dst := some 55, op := Op.move (Operand.tmp 9), type := 4, pos := "law.go:61", after := #[{ on := 9, ground := Ground.guard }], guard := some (9, false) }) (v := (.bool true)) rfl (by kernel_rfl) (by kernel_rfl) (by kernel_rfl) (fun _ _ _ h => h) (Or.inl ⟨by rfl, ?_⟩) (by assumption) ?_
  · (intro w hSw; (try dsimp only at hSw); go_simp)
  simp only [Act.put, List.setIfInBounds_toArray, List.set_cons_zero, List.set_cons_succ]
  refine wpAnyH_take (i := 11) (oi := { dst := some 56, op := Op.unOp UnOp.not 4 (Operand.tmp 55), type := 4, pos := "law.go:61", after := #[{ on := 10, ground := Ground.data }, { on := 9, ground := Ground.guard }], guard := some (9, false) }) (v := (.bool false)) rfl (by kernel_rfl) (by kernel_rfl) (by kernel_rfl) (fun _ _ _ h => h) (Or.inl ⟨by rfl, ?_⟩) (by assumption) ?_
  · (intro w hSw; (try dsimp only at hSw); go_simp)
  simp only [Act.put, List.setIfInBounds_toArray, List.set_cons_zero, List.set_cons_succ]
  refine wpAnyH_take (i := 12) (oi := { dst := some 57, op := Op.move (Operand.tmp 56), type := 4, pos := "law.go:61", after := #[{ on := 11, ground := Ground.data }, { on := 9, ground := Ground.chain }, { on := 9, ground := Ground.guard }], guard := some (9, false) }) (v := (.bool false)) rfl (by kernel_rfl) (by kernel_rfl) (by kernel_rfl) (fun _ _ _ h => h) (Or.inl ⟨by rfl, ?_⟩) (by assumption) ?_
  · (intro w hSw; (try dsimp only at hSw); go_simp)
  simp only [Act.put, List.setIfInBounds_toArray, List.set_cons_zero, List.set_cons_succ]
  refine wpAnyH_take (i := 13) (oi := { dst := some 58, op := Op.load 24 (Operand.tmp 7), type := 24, pos := "law.go:61", after := #[{ on := 12, ground := Ground.guard }], guard := some (12, true) }) (v := undef) rfl (by kernel_rfl) (by kernel_rfl) (by kernel_rfl) (fun _ _ _ h => h) (Or.inr ⟨by rfl, rfl⟩) (by assumption) ?_
  simp only [Act.put, List.setIfInBounds_toArray, List.set_cons_zero, List.set_cons_succ]
  refine wpAnyH_take (i := 14) (oi := { dst := some 59, op := Op.move (Operand.tmp 8), type := 27, pos := "law.go:61", after := #[{ on := 12, ground := Ground.guard }], guard := some (12, true) }) (v := undef) rfl (by kernel_rfl) (by kernel_rfl) (by kernel_rfl) (fun _ _ _ h => h) (Or.inr ⟨by rfl, rfl⟩) (by assumption) ?_
  simp only [Act.put, List.setIfInBounds_toArray, List.set_cons_zero, List.set_cons_succ]
  refine wpAnyH_take (i := 15) (oi := { dst := some 60, op := Op.build 24 #[], type := 24, pos := "law.go:61", after := #[{ on := 12, ground := Ground.guard }], guard := some (12, true) }) (v := undef) rfl (by kernel_rfl) (by kernel_rfl) (by kernel_rfl) (fun _ _ _ h => h) (Or.inr ⟨by rfl, rfl⟩) (by assumption) ?_
  simp only [Act.put, List.setIfInBounds_toArray, List.set_cons_zero, List.set_cons_succ]
  refine wpAnyH_take (i := 16) (oi := { dst := some 61, op := Op.call { callee := Callee.value (Operand.func 15), args := #[Operand.tmp 58, Operand.tmp 59, Operand.tmp 60, Operand.const (Value.int IntKind.i64 3)], argTypes := #[24, 27, 24, 27] }, type := 4, pos := "law.go:61", after := #[{ on := 13, ground := Ground.data }, { on := 14, ground := Ground.data }, { on := 15, ground := Ground.data }, { on := 12, ground := Ground.chain }, { on := 12, ground := Ground.guard }], guard := some (12, true) }) (v := undef) rfl (by kernel_rfl) (by kernel_rfl) (by kernel_rfl) (fun _ _ _ h => h) (Or.inr ⟨by rfl, rfl⟩) (by assumption) ?_
  simp only [Act.put, List.setIfInBounds_toArray, List.set_cons_zero, List.set_cons_succ]
  refine wpAnyH_take (i := 17) (oi := { dst := some 62, op := Op.unOp UnOp.not 4 (Operand.tmp 61), type := 4, pos := "law.go:61", after := #[{ on := 16, ground := Ground.data }, { on := 12, ground := Ground.guard }], guard := some (12, true) }) (v := undef) rfl (by kernel_rfl) (by kernel_rfl) (by kernel_rfl) (fun _ _ _ h => h) (Or.inr ⟨by rfl, rfl⟩) (by assumption) ?_
  simp only [Act.put, List.setIfInBounds_toArray, List.set_cons_zero, List.set_cons_succ]
  refine wpAnyH_take (i := 18) (oi := { dst := some 63, op := Op.pick (Operand.tmp 57) (Operand.tmp 62) (Operand.const (Value.bool false)), type := 4, pos := "law.go:61", after := #[{ on := 12, ground := Ground.data }, { on := 17, ground := Ground.data }, { on := 9, ground := Ground.guard }], guard := some (9, false) }) (v := (.bool false)) rfl (by kernel_rfl) (by kernel_rfl) (by kernel_rfl) (fun _ _ _ h => h) (Or.inl ⟨by rfl, ?_⟩) (by assumption) ?_
  · (intro w hSw; (try dsimp only at hSw); go_simp)
  simp only [Act.put, List.setIfInBounds_toArray, List.set_cons_zero, List.set_cons_succ]
  refine wpAnyH_take (i := 19) (oi := { dst := some 64, op := Op.pick (Operand.tmp 54) (Operand.const (Value.bool true)) (Operand.tmp 63), type := 4, pos := "law.go:61", after := #[{ on := 9, ground := Ground.data }, { on := 18, ground := Ground.data }], guard := none }) (v := (.bool false)) rfl (by kernel_rfl) (by kernel_rfl) (by kernel_rfl) (fun _ _ _ h => h) (Or.inl ⟨by rfl, ?_⟩) (by assumption) ?_
  · (intro w hSw; (try dsimp only at hSw); go_simp)
  simp only [Act.put, List.setIfInBounds_toArray, List.set_cons_zero, List.set_cons_succ]
  refine wpAnyH_done (by kernel_rfl) ?_ _
  have hW : Below W.heap.size W _ := And.left (by assumption)
  have x := (unhide XZ).all hW
  have u0 := x.c0; have u1 := x.c1; have u2 := x.c2
  replace HB := hide ((unhide HB).trans (hW.mono (unhide HB).size)); replace QZ := hide ((unhide QZ).below hW); replace XZ := hide x
  clear x hW HK QY
  clear QZ XZ
  go_wp2_with fail
  refine (told_err _ _ _ _ _ _ _ 3 _ (.inr rfl)).mono ?_
  rintro e w8 ⟨rfl, hb⟩
  replace HB := hide ((unhide HB).trans (hb.mono (unhide HB).size))
  clear hb u0 u1 u2
  go_wp2_with fail
  refine (awake10_any _ ((unhide HT).all (unhide HB))).mono ?_
  rintro e w9 ⟨rfl, hb⟩
  replace HB := hide ((unhide HB).trans (hb.mono (unhide HB).size))
  clear hb
  go_wp2
  go_ret
  exact ⟨rfl, unhide HB⟩

set_option maxRecDepth 20000 in
set_option maxHeartbeats 8000000 in
theorem matrixMakes_colsHigh (yn : Nat) (c : Int) (Y : List Nat) (w : World) (hT : Tab w) (hY : Y.length ≤ 36) (h1 : yn ≤ 6) (h2 : 0 ≤ c) (h3 : 6 < c)
    (C1 : ∀ w', Calls Tryd.prog 13 #[.int .i64 (yn : Nat), .int .i64 c] w' fun e w'' => ∃ v, e = .returned (.tuple #[v, .int .i64 3]) ∧ NewM w'.heap.size w'' 0 0 [] v ∧ Below w'.heap.size w' w'')
    (C2 : ∀ w', Calls Tryd.prog 14 #[.int .i64 (yn : Nat)] w' fun e w'' => ∃ v, e = .returned (.tuple #[v, .int .i64 0]) ∧ NewM w'.heap.size w'' yn yn Y v ∧ Below w'.heap.size w' w'')
    (C3 : ∀ w', Calls Tryd.prog 16 #[.int .i64 (yn : Nat)] w' fun e w'' => ∃ v, e = .returned v ∧ NewM 0 w'' yn yn Y v ∧ Below w'.heap.size w' w'') :
    Calls Tryd.prog 4 #[.int .i64 (yn : Nat), .int .i64 c] w fun e w' => e = .returned (.bool true) ∧ Below w.heap.size w w' := by
  have K1 := hide C1; have K2 := hide C2; have HT := hide hT; have HY := hide hY
  have K3 := hide C3
  clear C1 C2 hT hY C3
  go_enter Tryd.func4, Tryd.ntmps4
  go_wp2_with fail
  refine (unhide K1 _).mono ?_
  rintro e w1 ⟨v, rfl, ⟨zo, zd, rfl, _, qz⟩, hb1⟩
  simp only [List.length_nil]
  have ba := below_alloc9 w1 (.cells #[.int .i64 0, .int .i64 0, .slice zo 0 zd] 24)
  have HB := hide (hb1.trans (ba.mono hb1.size)); have QZ := hide (qz.below ba); have XZ := hide (BoxM.new w1 (.int .i64 0) (.int .i64 0) (.slice zo 0 zd))
  clear K1 hb1 ba qz
  go_wp2_with fail
  generalize w1.heap.size = g1 at *
  refine (unhide K2 _).mono ?_
  rintro e w2 ⟨v, rfl, ⟨yo, yd, rfl, _, qy⟩, hb2⟩
  have ba := below_alloc9 w2 (.cells #[.int .i64 (yn : Nat), .int .i64 (yn : Nat), .slice yo Y.length yd] 24)
  have hbb := hb2.trans (ba.mono hb2.size)
  replace HB := hide ((unhide HB).trans (hbb.mono (unhide HB).size)); replace QZ := hide ((unhide QZ).below hbb); replace XZ := hide ((unhide XZ).all hbb)
  have QY := hide (qy.below ba); have XY := hide (BoxM.new w2 (.int .i64 (yn : Nat)) (.int .i64 (yn : Nat)) (.slice yo Y.length yd))
  clear K2 hb2 ba hbb qy
  go_wp2_with fail
  refine at_world (fun W => Below w.heap.size w W ∧ BitsAt W zo zd (mxL []) ∧ BoxM W g1 (.int .i64 0) (.int .i64 0) (.slice zo 0 zd) ∧ BitsAt W yo yd (mxL Y) ∧ BoxM W w2.heap.size (.int .i64 (yn : Nat)) (.int .i64 (yn : Nat)) (.slice yo Y.length yd)) ⟨unhide HB, unhide QZ, unhide XZ, unhide QY, unhide XY⟩ ?_
  clear HB QZ XZ QY XY
  rintro W ⟨hB, qz, xz, qy, xy⟩
  generalize w2.heap.size = g2 at *
  have HB := hide hB; have QZ := hide qz; have QY := hide qy; have XZ := hide xz
  have HK := hide (fun w' (h : Below W.heap.size W w') => (show Below W.heap.size W w' ∧ (w'.cell? ⟨g2, 0, none⟩ = some (.int .i64 (yn : Nat)) ∧ w'.cell? ⟨g2, 1, none⟩ = some (.int .i64 (yn : Nat)) ∧ w'.cell? ⟨g2, 2, none⟩ = some (.slice yo Y.length yd)) from ⟨h, (xy.all h).c0, (xy.all h).c1, (xy.all h).c2⟩))
  clear hB qz xz qy xy
  refine wp_region_held_drew (S := (fun w' => Below W.heap.size W w' ∧ (w'.cell? ⟨g2, 0, none⟩ = some (.int .i64 (yn : Nat)) ∧ w'.cell? ⟨g2, 1, none⟩ = some (.int .i64 (yn : Nat)) ∧ w'.cell? ⟨g2, 2, none⟩ = some (.slice yo Y.length yd)))) (by kernel_rfl) ?_ (fun hHeld => ?_)
  · exact unhide HK _ (Below.refl _ _).drew
  refine wpAnyH_take (i := 0) (oi := { dst := some 45, op := Op.move (Operand.tmp 9), type := 4, pos := "law.go:61", after := #[], guard := none }) (v := (.bool true)) rfl (by kernel_rfl) (by kernel_rfl) (by kernel_rfl) (fun _ _ _ h => h) (Or.inl ⟨by rfl, ?_⟩) (by assumption) ?_
  · (intro w hSw; (try dsimp only at hSw); go_simp)
  simp only [Act.put, List.setIfInBounds_toArray, List.set_cons_zero, List.set_cons_succ]
  refine wpAnyH_take (i := 1) (oi := { dst := some 46, op := Op.move (Operand.tmp 45), type := 4, pos := "law.go:61", after := #[{ on := 0, ground := Ground.data }], guard := none }) (v := (.bool true)) rfl (by kernel_rfl) (by kernel_rfl) (by kernel_rfl) (fun _ _ _ h => h) (Or.inl ⟨by rfl, ?_⟩) (by assumption) ?_
  · (intro w hSw; (try dsimp only at hSw); go_simp)
  simp only [Act.put, List.setIfInBounds_toArray, List.set_cons_zero, List.set_cons_succ]
  refine wpAnyH_take (i := 2) (oi := { dst := some 47, op := Op.load 24 (Operand.tmp 7), type := 24, pos := "law.go:61", after := #[{ on := 1, ground := Ground.guard }], guard := some (1, true) }) (v := (.agg #[.int .i64 (yn : Nat), .int .i64 (yn : Nat), .slice yo Y.length yd])) rfl (by kernel_rfl) (by kernel_rfl) (by kernel_rfl) (fun _ _ _ h => h) (Or.inl ⟨by rfl, ?_⟩) (by assumption) ?_
  · (intro w hSw; (try dsimp only at hSw); go_simp)
  simp only [Act.put, List.setIfInBounds_toArray, List.set_cons_zero, List.set_cons_succ]
  refine wpAnyH_take (i := 3) (oi := { dst := some 48, op := Op.move (Operand.tmp 8), type := 27, pos := "law.go:61", after := #[{ on := 1, ground := Ground.guard }], guard := some (1, true) }) (v := (.int .i64 0)) rfl (by kernel_rfl) (by kernel_rfl) (by kernel_rfl) (fun _ _ _ h => h) (Or.inl ⟨by rfl, ?_⟩) (by assumption) ?_
  · (intro w hSw; (try dsimp only at hSw); go_simp)
  simp only [Act.put, List.setIfInBounds_toArray, List.set_cons_zero, List.set_cons_succ]
  refine wpAnyH_take (i := 4) (oi := { dst := some 49, op := Op.move (Operand.tmp 0), type := 3, pos := "law.go:61", after := #[{ on := 1, ground := Ground.guard }], guard := some (1, true) }) (v := (.int .i64 (yn : Nat))) rfl (by kernel_rfl) (by kernel_rfl) (by kernel_rfl) (fun _ _ _ h => h) (Or.inl ⟨by rfl, ?_⟩) (by assumption) ?_
  · (intro w hSw; (try dsimp only at hSw); go_simp)
  simp only [Act.put, List.setIfInBounds_toArray, List.set_cons_zero, List.set_cons_succ]
  refine wpAnyH_ready (rs := [5]) (by kernel_rfl) (by simp) ?_
  refine AllReadyH.cons (o := { dst := some 50, op := Op.call { callee := Callee.value (Operand.func 16), args := #[Operand.tmp 49], argTypes := #[3] }, type := 24, pos := "law.go:61", after := #[{ on := 4, ground := Ground.data }, { on := 1, ground := Ground.chain }, { on := 1, ground := Ground.guard }], guard := some (1, true) }) rfl (fun K hK => ?_) AllReadyH.nil
  go_simp
  refine (unhide K3 _).mono ?_
  rintro e w5 ⟨v, rfl, ⟨eo, ed, rfl, _, qe⟩, hb1⟩; have hBw5 : Below W.heap.size W w5 := Below.trans (And.left (by assumption)) (hb1.mono (Below.size (And.left (by assumption)))); have QE := hide qe; clear hb1 qe
  go_wp2_with fail
  refine hK.out _ _ ?_ (fun hHeld => ?_)
  · exact unhide HK _ hBw5
  clear hK K
  refine wpAnyH_ready (rs := [6]) (by kernel_rfl) (by simp) ?_
  refine AllReadyH.cons (o := { dst := some 51, op := Op.call { callee := Callee.value (Operand.func 15), args := #[Operand.tmp 47, Operand.tmp 48, Operand.tmp 50, Operand.const (Value.int IntKind.i64 0)], argTypes := #[24, 27, 24, 27] }, type := 4, pos := "law.go:61", after := #[{ on := 2, ground := Ground.data }, { on := 3, ground := Ground.data }, { on := 5, ground := Ground.data }, { on := 5, ground := Ground.chain }, { on := 1, ground := Ground.guard }], guard := some (1, true) }) rfl (fun K hK => ?_) AllReadyH.nil
  go_simp
  refine (told_ok _ _ _ _ _ _ Y _ (by exact (unhide QY).below (And.left (by assumption))) (by exact unhide QE) (by have := unhide HY; omega)).mono ?_
  rintro e w6 ⟨rfl, hb1⟩; have hBw6 : Below W.heap.size W w6 := Below.trans (And.left (by assumption)) (hb1.mono (Below.size (And.left (by assumption)))); clear hb1
  go_wp2_with fail
  refine hK.out _ _ ?_ (fun hHeld => ?_)
  · exact unhide HK _ hBw6
  clear hK K
  refine wpAnyH_take (i := 7) (oi := { dst := some 52, op := Op.unOp UnOp.not 4 (Operand.tmp 51), type := 4, pos := "law.go:61", after := #[{ on := 6, ground := Ground.data }, { on := 1, ground := Ground.guard }], guard := some (1, true) }) (v := (.bool false)) rfl (by kernel_rfl) (by kernel_rfl) (by kernel_rfl) (fun _ _ _ h => h) (Or.inl ⟨by rfl, ?_⟩) (by assumption) ?_
  · (intro w hSw; (try dsimp only at hSw); go_simp)
  simp only [Act.put, List.setIfInBounds_toArray, List.set_cons_zero, List.set_cons_succ]
  refine wpAnyH_take (i := 8) (oi := { dst := some 53, op := Op.pick (Operand.tmp 46) (Operand.tmp 52) (Operand.const (Value.bool false)), type := 4, pos := "law.go:61", after := #[{ on := 1, ground := Ground.data }, { on := 7, ground := Ground.data }], guard := none }) (v := (.bool false)) rfl (by kernel_rfl) (by kernel_rfl) (by kernel_rfl) (fun _ _ _ h => h) (Or.inl ⟨by rfl, ?_⟩) (by assumption) ?_
  · (intro w hSw; (try dsimp only at hSw); go_simp)
  simp only [Act.put, List.setIfInBounds_toArray, List.set_cons_zero, List.set_cons_succ]
  refine wpAnyH_take (i := 9) (oi := { dst := some 54, op := Op.move (Operand.tmp 53), type := 4, pos := "law.go:61", after := #[{ on := 8, ground := Ground.data }, { on := 6, ground := Ground.chain }], guard := none }) (v := (.bool false)) rfl (by kernel_rfl) (by kernel_rfl) (by kernel_rfl) (fun _ _ _ h => h) (Or.inl ⟨by rfl, ?_⟩) (by assumption) ?_
  · (intro w hSw; (try dsimp only at hSw); go_simp)
  simp only [Act.put, List.setIfInBounds_toArray, List.set_cons_zero, List.set_cons_succ]
  refine wpAnyH_take (i := 10) (oi := { dst := some 55, op := Op.move (Operand.tmp 9), type := 4, pos := "law.go:61", after := #[{ on := 9, ground := Ground.guard }], guard := some (9, false) }) (v := (.bool true)) rfl (by kernel_rfl) (by kernel_rfl) (by kernel_rfl) (fun _ _ _ h => h) (Or.inl ⟨by rfl, ?_⟩) (by assumption) ?_
  · (intro w hSw; (try dsimp only at hSw); go_simp)
  simp only [Act.put, List.setIfInBounds_toArray, List.set_cons_zero, List.set_cons_succ]
  refine wpAnyH_take (i := 11) (oi := { dst := some 56, op := Op.unOp UnOp.not 4 (Operand.tmp 55), type := 4, pos := "law.go:61", after := #[{ on := 10, ground := Ground.data }, { on := 9, ground := Ground.guard }], guard := some (9, false) }) (v := (.bool false)) rfl (by kernel_rfl) (by kernel_rfl) (by kernel_rfl) (fun _ _ _ h => h) (Or.inl ⟨by rfl, ?_⟩) (by assumption) ?_
  · (intro w hSw; (try dsimp only at hSw); go_simp)
  simp only [Act.put, List.setIfInBounds_toArray, List.set_cons_zero, List.set_cons_succ]
  refine wpAnyH_take (i := 12) (oi := { dst := some 57, op := Op.move (Operand.tmp 56), type := 4, pos := "law.go:61", after := #[{ on := 11, ground := Ground.data }, { on := 9, ground := Ground.chain }, { on := 9, ground := Ground.guard }], guard := some (9, false) }) (v := (.bool false)) rfl (by kernel_rfl) (by kernel_rfl) (by kernel_rfl) (fun _ _ _ h => h) (Or.inl ⟨by rfl, ?_⟩) (by assumption) ?_
  · (intro w hSw; (try dsimp only at hSw); go_simp)
  simp only [Act.put, List.setIfInBounds_toArray, List.set_cons_zero, List.set_cons_succ]
  refine wpAnyH_take (i := 13) (oi := { dst := some 58, op := Op.load 24 (Operand.tmp 7), type := 24, pos := "law.go:61", after := #[{ on := 12, ground := Ground.guard }], guard := some (12, true) }) (v := undef) rfl (by kernel_rfl) (by kernel_rfl) (by kernel_rfl) (fun _ _ _ h => h) (Or.inr ⟨by rfl, rfl⟩) (by assumption) ?_
  simp only [Act.put, List.setIfInBounds_toArray, List.set_cons_zero, List.set_cons_succ]
  refine wpAnyH_take (i := 14) (oi := { dst := some 59, op := Op.move (Operand.tmp 8), type := 27, pos := "law.go:61", after := #[{ on := 12, ground := Ground.guard }], guard := some (12, true) }) (v := undef) rfl (by kernel_rfl) (by kernel_rfl) (by kernel_rfl) (fun _ _ _ h => h) (Or.inr ⟨by rfl, rfl⟩) (by assumption) ?_
  simp only [Act.put, List.setIfInBounds_toArray, List.set_cons_zero, List.set_cons_succ]
  refine wpAnyH_take (i := 15) (oi := { dst := some 60, op := Op.build 24 #[], type := 24, pos := "law.go:61", after := #[{ on := 12, ground := Ground.guard }], guard := some (12, true) }) (v := undef) rfl (by kernel_rfl) (by kernel_rfl) (by kernel_rfl) (fun _ _ _ h => h) (Or.inr ⟨by rfl, rfl⟩) (by assumption) ?_
  simp only [Act.put, List.setIfInBounds_toArray, List.set_cons_zero, List.set_cons_succ]
  refine wpAnyH_take (i := 16) (oi := { dst := some 61, op := Op.call { callee := Callee.value (Operand.func 15), args := #[Operand.tmp 58, Operand.tmp 59, Operand.tmp 60, Operand.const (Value.int IntKind.i64 3)], argTypes := #[24, 27, 24, 27] }, type := 4, pos := "law.go:61", after := #[{ on := 13, ground := Ground.data }, { on := 14, ground := Ground.data }, { on := 15, ground := Ground.data }, { on := 12, ground := Ground.chain }, { on := 12, ground := Ground.guard }], guard := some (12, true) }) (v := undef) rfl (by kernel_rfl) (by kernel_rfl) (by kernel_rfl) (fun _ _ _ h => h) (Or.inr ⟨by rfl, rfl⟩) (by assumption) ?_
  simp only [Act.put, List.setIfInBounds_toArray, List.set_cons_zero, List.set_cons_succ]
  refine wpAnyH_take (i := 17) (oi := { dst := some 62, op := Op.unOp UnOp.not 4 (Operand.tmp 61), type := 4, pos := "law.go:61", after := #[{ on := 16, ground := Ground.data }, { on := 12, ground := Ground.guard }], guard := some (12, true) }) (v := undef) rfl (by kernel_rfl) (by kernel_rfl) (by kernel_rfl) (fun _ _ _ h => h) (Or.inr ⟨by rfl, rfl⟩) (by assumption) ?_
  simp only [Act.put, List.setIfInBounds_toArray, List.set_cons_zero, List.set_cons_succ]
  refine wpAnyH_take (i := 18) (oi := { dst := some 63, op := Op.pick (Operand.tmp 57) (Operand.tmp 62) (Operand.const (Value.bool false)), type := 4, pos := "law.go:61", after := #[{ on := 12, ground := Ground.data }, { on := 17, ground := Ground.data }, { on := 9, ground := Ground.guard }], guard := some (9, false) }) (v := (.bool false)) rfl (by kernel_rfl) (by kernel_rfl) (by kernel_rfl) (fun _ _ _ h => h) (Or.inl ⟨by rfl, ?_⟩) (by assumption) ?_
  · (intro w hSw; (try dsimp only at hSw); go_simp)
  simp only [Act.put, List.setIfInBounds_toArray, List.set_cons_zero, List.set_cons_succ]
  refine wpAnyH_take (i := 19) (oi := { dst := some 64, op := Op.pick (Operand.tmp 54) (Operand.const (Value.bool true)) (Operand.tmp 63), type := 4, pos := "law.go:61", after := #[{ on := 9, ground := Ground.data }, { on := 18, ground := Ground.data }], guard := none }) (v := (.bool false)) rfl (by kernel_rfl) (by kernel_rfl) (by kernel_rfl) (fun _ _ _ h => h) (Or.inl ⟨by rfl, ?_⟩) (by assumption) ?_
  · (intro w hSw; (try dsimp only at hSw); go_simp)
  simp only [Act.put, List.setIfInBounds_toArray, List.set_cons_zero, List.set_cons_succ]
  refine wpAnyH_done (by kernel_rfl) ?_ _
  have hW : Below W.heap.size W _ := And.left (by assumption)
  have x := (unhide XZ).all hW
  have u0 := x.c0; have u1 := x.c1; have u2 := x.c2
  replace HB := hide ((unhide HB).trans (hW.mono (unhide HB).size)); replace QZ := hide ((unhide QZ).below hW); replace XZ := hide x
  clear x hW HK QY
  clear QZ XZ
  go_wp2_with fail
  refine (told_err _ _ _ _ _ _ _ 3 _ (.inr rfl)).mono ?_
  rintro e w8 ⟨rfl, hb⟩
  replace HB := hide ((unhide HB).trans (hb.mono (unhide HB).size))
  clear hb u0 u1 u2
  go_wp2_with fail
  refine (awake10_any _ ((unhide HT).all (unhide HB))).mono ?_
  rintro e w9 ⟨rfl, hb⟩
  replace HB := hide ((unhide HB).trans (hb.mono (unhide HB).size))
  clear hb
  go_wp2
  go_ret
  exact ⟨rfl, unhide HB⟩

set_option maxRecDepth 20000 in
set_option maxHeartbeats 8000000 in
theorem matrixMakes_yes (yn : Nat) (c : Int) (zc : Nat) (Z Y : List Nat) (w : World) (hT : Tab w) (hZ : Z.length ≤ 36) (hY : Y.length ≤ 36) (h1 : yn ≤ 6) (h2 : zc ≤ 6) (hc : c = (zc : Nat))
    (C1 : ∀ w', Calls Tryd.prog 13 #[.int .i64 (yn : Nat), .int .i64 c] w' fun e w'' => ∃ v, e = .returned (.tuple #[v, .int .i64 0]) ∧ NewM w'.heap.size w'' yn zc Z v ∧ Below w'.heap.size w' w'')
    (C2 : ∀ w', Calls Tryd.prog 14 #[.int .i64 (yn : Nat)] w' fun e w'' => ∃ v, e = .returned (.tuple #[v, .int .i64 0]) ∧ NewM w'.heap.size w'' yn yn Y v ∧ Below w'.heap.size w' w'')
    (C3 : ∀ w', Calls Tryd.prog 16 #[.int .i64 (yn : Nat)] w' fun e w'' => ∃ v, e = .returned v ∧ NewM 0 w'' yn yn Y v ∧ Below w'.heap.size w' w'')
    (C4 : ∀ w', Calls Tryd.prog 17 #[.int .i64 (yn : Nat), .int .i64 (zc : Nat)] w' fun e w'' => ∃ v, e = .returned v ∧ NewM 0 w'' yn zc Z v ∧ Below w'.heap.size w' w'') :
    Calls Tryd.prog 4 #[.int .i64 (yn : Nat), .int .i64 c] w fun e w' => e = .returned (.bool true) ∧ Below w.heap.size w w' := by
  have K1 := hide C1; have K2 := hide C2; have HT := hide hT; have HZ := hide hZ; have HY := hide hY
  have K3 := hide C3
  have K4 := hide C4
  subst hc
  have e1 : (0 : Int) ≤ (zc : Int) := by omega
  have e2 : (zc : Int) ≤ 6 := by omega
  have e3 : decide ((zc : Int) ≤ 6) = true := decide_eq_true e2
  clear C1 C2 hT hZ hY C3 C4
  go_enter Tryd.func4, Tryd.ntmps4
  go_wp2_with fail
  refine (unhide K1 _).mono ?_
  rintro e w1 ⟨v, rfl, ⟨zo, zd, rfl, _, qz⟩, hb1⟩
  have ba := below_alloc9 w1 (.cells #[.int .i64 (yn : Nat), .int .i64 (zc : Nat), .slice zo Z.length zd] 24)
  have HB := hide (hb1.trans (ba.mono hb1.size)); have QZ := hide (qz.below ba); have XZ := hide (BoxM.new w1 (.int .i64 (yn : Nat)) (.int .i64 (zc : Nat)) (.slice zo Z.length zd))
  clear K1 hb1 ba qz
  go_wp2_with fail
  generalize w1.heap.size = g1 at *
  refine (unhide K2 _).mono ?_
  rintro e w2 ⟨v, rfl, ⟨yo, yd, rfl, _, qy⟩, hb2⟩
  have ba := below_alloc9 w2 (.cells #[.int .i64 (yn : Nat), .int .i64 (yn : Nat), .slice yo Y.length yd] 24)
  have hbb := hb2.trans (ba.mono hb2.size)
  replace HB := hide ((unhide HB).trans (hbb.mono (unhide HB).size)); replace QZ := hide ((unhide QZ).below hbb); replace XZ := hide ((unhide XZ).all hbb)
  have QY := hide (qy.below ba); have XY := hide (BoxM.new w2 (.int .i64 (yn : Nat)) (.int .i64 (yn : Nat)) (.slice yo Y.length yd))
  clear K2 hb2 ba hbb qy
  go_wp2_with fail
  refine at_world (fun W => Below w.heap.size w W ∧ BitsAt W zo zd (mxL Z) ∧ BoxM W g1 (.int .i64 (yn : Nat)) (.int .i64 (zc : Nat)) (.slice zo Z.length zd) ∧ BitsAt W yo yd (mxL Y) ∧ BoxM W w2.heap.size (.int .i64 (yn : Nat)) (.int .i64 (yn : Nat)) (.slice yo Y.length yd)) ⟨unhide HB, unhide QZ, unhide XZ, unhide QY, unhide XY⟩ ?_
  clear HB QZ XZ QY XY
  rintro W ⟨hB, qz, xz, qy, xy⟩
  generalize w2.heap.size = g2 at *
  have HB := hide hB; have QZ := hide qz; have QY := hide qy; have XZ := hide xz
  have HK := hide (fun w' (h : Below W.heap.size W w') => (show Below W.heap.size W w' ∧ (w'.cell? ⟨g2, 0, none⟩ = some (.int .i64 (yn : Nat)) ∧ w'.cell? ⟨g2, 1, none⟩ = some (.int .i64 (yn : Nat)) ∧ w'.cell? ⟨g2, 2, none⟩ = some (.slice yo Y.length yd)) from ⟨h, (xy.all h).c0, (xy.all h).c1, (xy.all h).c2⟩))
  clear hB qz xz qy xy
  refine wp_region_held_drew (S := (fun w' => Below W.heap.size W w' ∧ (w'.cell? ⟨g2, 0, none⟩ = some (.int .i64 (yn : Nat)) ∧ w'.cell? ⟨g2, 1, none⟩ = some (.int .i64 (yn : Nat)) ∧ w'.cell? ⟨g2, 2, none⟩ = some (.slice yo Y.length yd)))) (by kernel_rfl) ?_ (fun hHeld => ?_)
  · exact unhide HK _ (Below.refl _ _).drew
  refine wpAnyH_take (i := 0) (oi := { dst := some 45, op := Op.move (Operand.tmp 9), type := 4, pos := "law.go:61", after := #[], guard := none }) (v := (.bool true)) rfl (by kernel_rfl) (by kernel_rfl) (by kernel_rfl) (fun _ _ _ h => h) (Or.inl ⟨by rfl, ?_⟩) (by assumption) ?_
  · (intro w hSw; (try dsimp only at hSw); go_simp)
  simp only [Act.put, List.setIfInBounds_toArray, List.set_cons_zero, List.set_cons_succ]
  refine wpAnyH_take (i := 1) (oi := { dst := some 46, op := Op.move (Operand.tmp 45), type := 4, pos := "law.go:61", after := #[{ on := 0, ground := Ground.data }], guard := none }) (v := (.bool true)) rfl (by kernel_rfl) (by kernel_rfl) (by kernel_rfl) (fun _ _ _ h => h) (Or.inl ⟨by rfl, ?_⟩) (by assumption) ?_
  · (intro w hSw; (try dsimp only at hSw); go_simp)
  simp only [Act.put, List.setIfInBounds_toArray, List.set_cons_zero, List.set_cons_succ]
  refine wpAnyH_take (i := 2) (oi := { dst := some 47, op := Op.load 24 (Operand.tmp 7), type := 24, pos := "law.go:61", after := #[{ on := 1, ground := Ground.guard }], guard := some (1, true) }) (v := (.agg #[.int .i64 (yn : Nat), .int .i64 (yn : Nat), .slice yo Y.length yd])) rfl (by kernel_rfl) (by kernel_rfl) (by kernel_rfl) (fun _ _ _ h => h) (Or.inl ⟨by rfl, ?_⟩) (by assumption) ?_
  · (intro w hSw; (try dsimp only at hSw); go_simp)
  simp only [Act.put, List.setIfInBounds_toArray, List.set_cons_zero, List.set_cons_succ]
  refine wpAnyH_take (i := 3) (oi := { dst := some 48, op := Op.move (Operand.tmp 8), type := 27, pos := "law.go:61", after := #[{ on := 1, ground := Ground.guard }], guard := some (1, true) }) (v := (.int .i64 0)) rfl (by kernel_rfl) (by kernel_rfl) (by kernel_rfl) (fun _ _ _ h => h) (Or.inl ⟨by rfl, ?_⟩) (by assumption) ?_
  · (intro w hSw; (try dsimp only at hSw); go_simp)
  simp only [Act.put, List.setIfInBounds_toArray, List.set_cons_zero, List.set_cons_succ]
  refine wpAnyH_take (i := 4) (oi := { dst := some 49, op := Op.move (Operand.tmp 0), type := 3, pos := "law.go:61", after := #[{ on := 1, ground := Ground.guard }], guard := some (1, true) }) (v := (.int .i64 (yn : Nat))) rfl (by kernel_rfl) (by kernel_rfl) (by kernel_rfl) (fun _ _ _ h => h) (Or.inl ⟨by rfl, ?_⟩) (by assumption) ?_
  · (intro w hSw; (try dsimp only at hSw); go_simp)
  simp only [Act.put, List.setIfInBounds_toArray, List.set_cons_zero, List.set_cons_succ]
  refine wpAnyH_ready (rs := [5]) (by kernel_rfl) (by simp) ?_
  refine AllReadyH.cons (o := { dst := some 50, op := Op.call { callee := Callee.value (Operand.func 16), args := #[Operand.tmp 49], argTypes := #[3] }, type := 24, pos := "law.go:61", after := #[{ on := 4, ground := Ground.data }, { on := 1, ground := Ground.chain }, { on := 1, ground := Ground.guard }], guard := some (1, true) }) rfl (fun K hK => ?_) AllReadyH.nil
  go_simp
  refine (unhide K3 _).mono ?_
  rintro e w5 ⟨v, rfl, ⟨eo, ed, rfl, _, qe⟩, hb1⟩; have hBw5 : Below W.heap.size W w5 := Below.trans (And.left (by assumption)) (hb1.mono (Below.size (And.left (by assumption)))); have QE := hide qe; clear hb1 qe
  go_wp2_with fail
  refine hK.out _ _ ?_ (fun hHeld => ?_)
  · exact unhide HK _ hBw5
  clear hK K
  refine wpAnyH_ready (rs := [6]) (by kernel_rfl) (by simp) ?_
  refine AllReadyH.cons (o := { dst := some 51, op := Op.call { callee := Callee.value (Operand.func 15), args := #[Operand.tmp 47, Operand.tmp 48, Operand.tmp 50, Operand.const (Value.int IntKind.i64 0)], argTypes := #[24, 27, 24, 27] }, type := 4, pos := "law.go:61", after := #[{ on := 2, ground := Ground.data }, { on := 3, ground := Ground.data }, { on := 5, ground := Ground.data }, { on := 5, ground := Ground.chain }, { on := 1, ground := Ground.guard }], guard := some (1, true) }) rfl (fun K hK => ?_) AllReadyH.nil
  go_simp
  refine (told_ok _ _ _ _ _ _ Y _ (by exact (unhide QY).below (And.left (by assumption))) (by exact unhide QE) (by have := unhide HY; omega)).mono ?_
  rintro e w6 ⟨rfl, hb1⟩; have hBw6 : Below W.heap.size W w6 := Below.trans (And.left (by assumption)) (hb1.mono (Below.size (And.left (by assumption)))); clear hb1
  go_wp2_with fail
  refine hK.out _ _ ?_ (fun hHeld => ?_)
  · exact unhide HK _ hBw6
  clear hK K
  refine wpAnyH_take (i := 7) (oi := { dst := some 52, op := Op.unOp UnOp.not 4 (Operand.tmp 51), type := 4, pos := "law.go:61", after := #[{ on := 6, ground := Ground.data }, { on := 1, ground := Ground.guard }], guard := some (1, true) }) (v := (.bool false)) rfl (by kernel_rfl) (by kernel_rfl) (by kernel_rfl) (fun _ _ _ h => h) (Or.inl ⟨by rfl, ?_⟩) (by assumption) ?_
  · (intro w hSw; (try dsimp only at hSw); go_simp)
  simp only [Act.put, List.setIfInBounds_toArray, List.set_cons_zero, List.set_cons_succ]
  refine wpAnyH_take (i := 8) (oi := { dst := some 53, op := Op.pick (Operand.tmp 46) (Operand.tmp 52) (Operand.const (Value.bool false)), type := 4, pos := "law.go:61", after := #[{ on := 1, ground := Ground.data }, { on := 7, ground := Ground.data }], guard := none }) (v := (.bool false)) rfl (by kernel_rfl) (by kernel_rfl) (by kernel_rfl) (fun _ _ _ h => h) (Or.inl ⟨by rfl, ?_⟩) (by assumption) ?_
  · (intro w hSw; (try dsimp only at hSw); go_simp)
  simp only [Act.put, List.setIfInBounds_toArray, List.set_cons_zero, List.set_cons_succ]
  refine wpAnyH_take (i := 9) (oi := { dst := some 54, op := Op.move (Operand.tmp 53), type := 4, pos := "law.go:61", after := #[{ on := 8, ground := Ground.data }, { on := 6, ground := Ground.chain }], guard := none }) (v := (.bool false)) rfl (by kernel_rfl) (by kernel_rfl) (by kernel_rfl) (fun _ _ _ h => h) (Or.inl ⟨by rfl, ?_⟩) (by assumption) ?_
  · (intro w hSw; (try dsimp only at hSw); go_simp)
  simp only [Act.put, List.setIfInBounds_toArray, List.set_cons_zero, List.set_cons_succ]
  refine wpAnyH_take (i := 10) (oi := { dst := some 55, op := Op.move (Operand.tmp 9), type := 4, pos := "law.go:61", after := #[{ on := 9, ground := Ground.guard }], guard := some (9, false) }) (v := (.bool true)) rfl (by kernel_rfl) (by kernel_rfl) (by kernel_rfl) (fun _ _ _ h => h) (Or.inl ⟨by rfl, ?_⟩) (by assumption) ?_
  · (intro w hSw; (try dsimp only at hSw); go_simp)
  simp only [Act.put, List.setIfInBounds_toArray, List.set_cons_zero, List.set_cons_succ]
  refine wpAnyH_take (i := 11) (oi := { dst := some 56, op := Op.unOp UnOp.not 4 (Operand.tmp 55), type := 4, pos := "law.go:61", after := #[{ on := 10, ground := Ground.data }, { on := 9, ground := Ground.guard }], guard := some (9, false) }) (v := (.bool false)) rfl (by kernel_rfl) (by kernel_rfl) (by kernel_rfl) (fun _ _ _ h => h) (Or.inl ⟨by rfl, ?_⟩) (by assumption) ?_
  · (intro w hSw; (try dsimp only at hSw); go_simp)
  simp only [Act.put, List.setIfInBounds_toArray, List.set_cons_zero, List.set_cons_succ]
  refine wpAnyH_take (i := 12) (oi := { dst := some 57, op := Op.move (Operand.tmp 56), type := 4, pos := "law.go:61", after := #[{ on := 11, ground := Ground.data }, { on := 9, ground := Ground.chain }, { on := 9, ground := Ground.guard }], guard := some (9, false) }) (v := (.bool false)) rfl (by kernel_rfl) (by kernel_rfl) (by kernel_rfl) (fun _ _ _ h => h) (Or.inl ⟨by rfl, ?_⟩) (by assumption) ?_
  · (intro w hSw; (try dsimp only at hSw); go_simp)
  simp only [Act.put, List.setIfInBounds_toArray, List.set_cons_zero, List.set_cons_succ]
  refine wpAnyH_take (i := 13) (oi := { dst := some 58, op := Op.load 24 (Operand.tmp 7), type := 24, pos := "law.go:61", after := #[{ on := 12, ground := Ground.guard }], guard := some (12, true) }) (v := undef) rfl (by kernel_rfl) (by kernel_rfl) (by kernel_rfl) (fun _ _ _ h => h) (Or.inr ⟨by rfl, rfl⟩) (by assumption) ?_
  simp only [Act.put, List.setIfInBounds_toArray, List.set_cons_zero, List.set_cons_succ]
  refine wpAnyH_take (i := 14) (oi := { dst := some 59, op := Op.move (Operand.tmp 8), type := 27, pos := "law.go:61", after := #[{ on := 12, ground := Ground.guard }], guard := some (12, true) }) (v := undef) rfl (by kernel_rfl) (by kernel_rfl) (by kernel_rfl) (fun _ _ _ h => h) (Or.inr ⟨by rfl, rfl⟩) (by assumption) ?_
  simp only [Act.put, List.setIfInBounds_toArray, List.set_cons_zero, List.set_cons_succ]
  refine wpAnyH_take (i := 15) (oi := { dst := some 60, op := Op.build 24 #[], type := 24, pos := "law.go:61", after := #[{ on := 12, ground := Ground.guard }], guard := some (12, true) }) (v := undef) rfl (by kernel_rfl) (by kernel_rfl) (by kernel_rfl) (fun _ _ _ h => h) (Or.inr ⟨by rfl, rfl⟩) (by assumption) ?_
  simp only [Act.put, List.setIfInBounds_toArray, List.set_cons_zero, List.set_cons_succ]
  refine wpAnyH_take (i := 16) (oi := { dst := some 61, op := Op.call { callee := Callee.value (Operand.func 15), args := #[Operand.tmp 58, Operand.tmp 59, Operand.tmp 60, Operand.const (Value.int IntKind.i64 3)], argTypes := #[24, 27, 24, 27] }, type := 4, pos := "law.go:61", after := #[{ on := 13, ground := Ground.data }, { on := 14, ground := Ground.data }, { on := 15, ground := Ground.data }, { on := 12, ground := Ground.chain }, { on := 12, ground := Ground.guard }], guard := some (12, true) }) (v := undef) rfl (by kernel_rfl) (by kernel_rfl) (by kernel_rfl) (fun _ _ _ h => h) (Or.inr ⟨by rfl, rfl⟩) (by assumption) ?_
  simp only [Act.put, List.setIfInBounds_toArray, List.set_cons_zero, List.set_cons_succ]
  refine wpAnyH_take (i := 17) (oi := { dst := some 62, op := Op.unOp UnOp.not 4 (Operand.tmp 61), type := 4, pos := "law.go:61", after := #[{ on := 16, ground := Ground.data }, { on := 12, ground := Ground.guard }], guard := some (12, true) }) (v := undef) rfl (by kernel_rfl) (by kernel_rfl) (by kernel_rfl) (fun _ _ _ h => h) (Or.inr ⟨by rfl, rfl⟩) (by assumption) ?_
  simp only [Act.put, List.setIfInBounds_toArray, List.set_cons_zero, List.set_cons_succ]
  refine wpAnyH_take (i := 18) (oi := { dst := some 63, op := Op.pick (Operand.tmp 57) (Operand.tmp 62) (Operand.const (Value.bool false)), type := 4, pos := "law.go:61", after := #[{ on := 12, ground := Ground.data }, { on := 17, ground := Ground.data }, { on := 9, ground := Ground.guard }], guard := some (9, false) }) (v := (.bool false)) rfl (by kernel_rfl) (by kernel_rfl) (by kernel_rfl) (fun _ _ _ h => h) (Or.inl ⟨by rfl, ?_⟩) (by assumption) ?_
  · (intro w hSw; (try dsimp only at hSw); go_simp)
  simp only [Act.put, List.setIfInBounds_toArray, List.set_cons_zero, List.set_cons_succ]
  refine wpAnyH_take (i := 19) (oi := { dst := some 64, op := Op.pick (Operand.tmp 54) (Operand.const (Value.bool true)) (Operand.tmp 63), type := 4, pos := "law.go:61", after := #[{ on := 9, ground := Ground.data }, { on := 18, ground := Ground.data }], guard := none }) (v := (.bool false)) rfl (by kernel_rfl) (by kernel_rfl) (by kernel_rfl) (fun _ _ _ h => h) (Or.inl ⟨by rfl, ?_⟩) (by assumption) ?_
  · (intro w hSw; (try dsimp only at hSw); go_simp)
  simp only [Act.put, List.setIfInBounds_toArray, List.set_cons_zero, List.set_cons_succ]
  refine wpAnyH_done (by kernel_rfl) ?_ _
  have hW : Below W.heap.size W _ := And.left (by assumption)
  have x := (unhide XZ).all hW
  have u0 := x.c0; have u1 := x.c1; have u2 := x.c2
  replace HB := hide ((unhide HB).trans (hW.mono (unhide HB).size)); replace QZ := hide ((unhide QZ).below hW); replace XZ := hide x
  clear x hW HK QY
  clear u0 u1 u2
  go_wp2_with fail
  refine at_world (fun W => Below w.heap.size w W ∧ BitsAt W zo zd (mxL Z) ∧ BoxM W g1 (.int .i64 (yn : Nat)) (.int .i64 (zc : Nat)) (.slice zo Z.length zd)) ⟨unhide HB, unhide QZ, unhide XZ⟩ ?_
  clear HB QZ XZ
  rintro V ⟨hB, qz, xz⟩
  have HB := hide hB; have QZ := hide qz
  have HW := hide (fun w' (h : Below V.heap.size V w') => hB.trans (h.mono hB.size))
  have HK := hide (fun w' (h : Below V.heap.size V w') => (show Below V.heap.size V w' ∧ (w'.cell? ⟨g1, 0, none⟩ = some (.int .i64 (yn : Nat)) ∧ w'.cell? ⟨g1, 1, none⟩ = some (.int .i64 (zc : Nat)) ∧ w'.cell? ⟨g1, 2, none⟩ = some (.slice zo Z.length zd)) from ⟨h, (xz.all h).c0, (xz.all h).c1, (xz.all h).c2⟩))
  clear hB qz xz
  go_region_held3 (fun w' => Below V.heap.size V w' ∧ (w'.cell? ⟨g1, 0, none⟩ = some (.int .i64 (yn : Nat)) ∧ w'.cell? ⟨g1, 1, none⟩ = some (.int .i64 (zc : Nat)) ∧ w'.cell? ⟨g1, 2, none⟩ = some (.slice zo Z.length zd)))
    (first | exact unhide HK _ (Below.refl _ _).drew | exact unhide HK _ (by assumption) | fail "KK")
    (first | (go_at_call 17; refine (unhide K4 _).mono ?_; rintro e w15 ⟨v, rfl, ⟨eo, ed, rfl, _, qe⟩, hb5⟩; have hB5 : Below V.heap.size V w15 := Below.trans (And.left (by assumption)) (hb5.mono (Below.size (And.left (by assumption)))); have QE := hide qe; clear hb5 qe K4) | (go_at_call 15; refine (told_ok _ _ _ _ _ _ Z _ (by exact (unhide QZ).below (And.left (by assumption))) (by exact unhide QE) (by have := unhide HZ; omega)).mono ?_; rintro e w16 ⟨rfl, hb6⟩; have hB6 : Below V.heap.size V w16 := Below.trans (And.left (by assumption)) (hb6.mono (Below.size (And.left (by assumption)))); clear hb6) | (go_at_call 11; refine (awake10_any _ ((unhide HT).all (unhide HW _ (And.left (by assumption))))).mono ?_; rintro e w17 ⟨rfl, hb7⟩; have hB7 : Below V.heap.size V w17 := Below.trans (And.left (by assumption)) (hb7.mono (Below.size (And.left (by assumption)))); clear hb7) | fail "NO ARM")
  all_goals
    have BE := hide (unhide HW _ (And.left (by assumption)))
    go_wp2
    go_ret
    exact ⟨rfl, unhide BE⟩

theorem matrixMakes_walk (r c : Int) (w : World) (_hr : -9223372036854775808 ≤ r ∧ r ≤ 9223372036854775807) (_hc : -9223372036854775808 ≤ c ∧ c ≤ 9223372036854775807) (hT : Tab w) :
    Calls Tryd.prog 4 #[.int .i64 r, .int .i64 c] w fun e w' => e = .returned (.bool true) ∧ Below w.heap.size w w' := by
  rcases (show r < 0 ∨ (0 ≤ r ∧ 6 < r) ∨ (0 ≤ r ∧ r ≤ 6) by omega) with h | ⟨h, h2⟩ | ⟨h, h2⟩
  · exact matrixMakes_low r c w hT h (fun w' => mzeros_no r c w' (decide_eq_false (by omega))) (fun w' => meye_no r w' (decide_eq_false (by omega)))
  · exact matrixMakes_high r c w hT h h2 (fun w' => mzeros_no r c w' (decide_eq_false (by omega))) (fun w' => meye_no r w' (decide_eq_false (by omega)))
  · obtain ⟨n, rfl⟩ := Int.eq_ofNat_of_zero_le h
    have n6 : n ≤ 6 := by omega
    have yl : (eyM n).length ≤ 36 := by
      unfold eyM
      rw [mkM_len]
      have : n * n ≤ 6 * 6 := Nat.mul_le_mul n6 n6
      omega
    have E1 := fun w' => mEye_ok n w' n6
    have E2 := fun w' => reye_any n w' n6
    rcases (show c < 0 ∨ (0 ≤ c ∧ 6 < c) ∨ (0 ≤ c ∧ c ≤ 6) by omega) with g | ⟨g, g2⟩ | ⟨g, g2⟩
    · exact matrixMakes_colsLow n c (eyM n) w hT yl n6 g (fun w' => mzeros_no n c w' (decide_eq_false (by omega))) E1 E2
    · exact matrixMakes_colsHigh n c (eyM n) w hT yl n6 g g2 (fun w' => mzeros_no n c w' (decide_eq_false (by omega))) E1 E2
    · obtain ⟨m, rfl⟩ := Int.eq_ofNat_of_zero_le g
      have m6 : m ≤ 6 := by omega
      have zl : (mkM n m (fun _ _ => 0)).length ≤ 36 := by
        rw [mkM_len]
        have : n * m ≤ 6 * 6 := Nat.mul_le_mul n6 m6
        omega
      refine matrixMakes_yes n m m (mkM n m (fun _ _ => 0)) (eyM n) w hT zl yl n6 m6 rfl (fun w' => mZeros_ok n m w' n6 m6) E1 E2 (fun w' => ?_)
      rw [← mkM_noughts]
      refine (rzeros_any n m w' n6 m6).mono ?_
      rintro e w'' ⟨v, rfl, h1, h2⟩
      exact ⟨v, rfl, h1.least (Nat.zero_le _), h2⟩

end Go.Proofs.YtheepcdlakjdcaaDoor

/- A struct of a sign and limbs that came in, opened. -/
namespace Go.Proofs.YtheepcdlakjdcaaDoor
open Go.ChangeShapes Go.WideShapes Go.ChangeAt Go.RowKit Go.Joins

theorem Tryd.own : ownKnob Tryd.prog.godebug = none := by kernel_rfl
end Go.Proofs.YtheepcdlakjdcaaDoor

