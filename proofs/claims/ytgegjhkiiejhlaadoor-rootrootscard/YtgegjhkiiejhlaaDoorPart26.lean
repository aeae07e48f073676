/- Part 26 of the texts. -/
import Derived.Test.YtgegjhkiiejhlaaDoorPart22
import Derived.Test.YtgegjhkiiejhlaaDoorPart25
import Derived.Test.YtgegjhkiiejhlaaDoorPart12
import Derived.Test.YtgegjhkiiejhlaaDoorPart23
import Derived.Deep.RegionHeld3
import Derived.Test.YtgegjhkiiejhlaaDoorPart04
import Derived.Test.YtgegjhkiiejhlaaDoorPart11
import Derived.BigQuiet
/- What holds in the reference's Whole. -/
namespace Go.Proofs.YtgegjhkiiejhlaaDoor
open Go.RowKit

theorem rmulw7 {B B' : Nat} {w : World} {v u : Value} {x y : Int} (hv : IsNum B w v x) (hu : IsNum B' w u y) (hx : x.natAbs < 2 ^ 8000) (hy : y.natAbs < 2 ^ 8000) :
    Calls Tryd.prog 35 #[v, u] w fun e w' => ∃ r, e = .returned r ∧ IsNum 0 w' r (x * y) ∧ Below w.heap.size w w' := by
  obtain ⟨na, ao, ca, A, rfl, a1, a2, a3, a4⟩ := hv.right (top8000 hx)
  obtain ⟨nb, bo, cb, C, rfl, b1, b2, b3, b4⟩ := hu.right (top8000 hy)
  have := refMul_any na nb ao bo ca cb A C w a1 b1 (by omega) (by omega)
  rwa [a3, b3] at this

/-- What holds in Whole: the boxes of what came in, of the answer, of the root; their numbers. -/
def WSt (w wr : World) (na : Bool) (aa : Option Addr) (la ca : Nat) (A : Int) (nr : Bool) (ar : Option Addr) (lr cr : Nat) (r : Int) : Prop :=
  Below w.heap.size w wr ∧ Box2 wr w.heap.size (.bool na) (.slice aa la ca) ∧ Box2 wr (w.heap.size + 1) (.bool false) (.slice none 0 0) ∧ Box2 wr (w.heap.size + 1 + 1) (.bool nr) (.slice ar lr cr) ∧ IsNum 0 wr (.agg #[.bool na, .slice aa la ca]) A ∧ IsNum 0 wr (.agg #[.bool nr, .slice ar lr cr]) r
theorem WSt.below {w wr w' : World} {na nr : Bool} {aa ar : Option Addr} {la ca lr cr : Nat} {A r : Int} (h : WSt w wr na aa la ca A nr ar lr cr r) (hb : Below wr.heap.size wr w') : WSt w w' na aa la ca A nr ar lr cr r := by
  obtain ⟨h0, h1, h2, h3, h4, h5⟩ := h
  exact ⟨h0.trans (hb.mono h0.size), h1.all hb, h2.all hb, h3.all hb, h4.below hb, h5.below hb⟩
/-- A box behind them is written. -/
theorem WSt.away {w wr : World} {na nr : Bool} {aa ar : Option Addr} {la ca lr cr : Nat} {A r : Int} (h : WSt w wr na aa la ca A nr ar lr cr r) {g : Nat} {x : Bool} {a' : Option Addr} {l' c' : Nat} (hb : Box2 wr g (.bool x) (.slice a' l' c')) (hg : w.heap.size + 1 + 1 < g) (u u' : Value) :
    WSt w ((wr.setCell ⟨g, 0, none⟩ u).setCell ⟨g, 1, none⟩ u') na aa la ca A nr ar lr cr r := by
  obtain ⟨h0, h1, h2, h3, h4, h5⟩ := h
  exact ⟨below_put2 h0 (by omega) _ _, h1.oth6 (by omega) _ _, h2.oth6 (by omega) _ _, h3.oth6 (by omega) _ _, h4.set_box hb _ _, h5.set_box hb _ _⟩
/-- The root is written. -/
theorem WSt.put {w wr : World} {na nr : Bool} {aa ar : Option Addr} {la ca lr cr : Nat} {A r : Int} (h : WSt w wr na aa la ca A nr ar lr cr r) {n : Bool} {a : Option Addr} {l c : Nat} {z : Int} (hn : IsNum 0 wr (.agg #[.bool n, .slice a l c]) z) :
    WSt w ((wr.setCell ⟨w.heap.size + 1 + 1, 0, none⟩ (.bool n)).setCell ⟨w.heap.size + 1 + 1, 1, none⟩ (.slice a l c)) na aa la ca A n a l c z := by
  obtain ⟨h0, h1, h2, h3, h4, h5⟩ := h
  exact ⟨below_put2 h0 (by omega) _ _, h1.oth6 (by omega) _ _, h2.oth6 (by omega) _ _, h3.put _ _, h4.set_box h3 _ _, hn.set_box h3 _ _⟩
theorem WSt.room {w wr : World} {na nr : Bool} {aa ar : Option Addr} {la ca lr cr : Nat} {A r : Int} (h : WSt w wr na aa la ca A nr ar lr cr r) : w.heap.size + 1 + 1 < wr.heap.size := h.2.2.2.1.lt

/-- Behind the region that makes what is tried. -/
def TryW (w : World) (na : Bool) (aa : Option Addr) (la ca : Nat) (A : Int) (nr : Bool) (ar : Option Addr) (lr cr : Nat) (r : Int) (np : Bool) (ap : Option Addr) (lp cp : Nat) (x : Int) (g : Nat) (W : World) : Prop :=
  WSt w W na aa la ca A nr ar lr cr r ∧ Box2 W g (.bool np) (.slice ap lp cp) ∧ IsNum 0 W (.agg #[.bool np, .slice ap lp cp]) x ∧ w.heap.size + 1 + 1 < g

end Go.Proofs.YtgegjhkiiejhlaaDoor

/- The reference's Whole, walked. -/
namespace Go.Proofs.YtgegjhkiiejhlaaDoor
open Go.RowKit
attribute [local go_sem ↓] Go.wp_at_zero Go.wp_at_succ

set_option maxRecDepth 20000 in
set_option maxHeartbeats 8000000 in
theorem whole7_ways (A B J ln : Nat) (P : Nat → Nat) (na : Bool) (aa : Option Addr) (la ca : Nat) (w : World) (hv : IsNum 0 w (.agg #[.bool na, .slice aa la ca]) (A : Nat))
    (hJ : J ≤ 1000) (hln : J = ln / 2 + 2) (p0 : P 0 = 1) (ps : ∀ j, P (j + 1) = 2 * P j) (pJ : ∀ j, j ≤ J → P j ≤ B) (hA : A < B) (hA2 : A < P J * P J)
    (HP : ∀ x : Int, x.natAbs < 4 * B → x.natAbs < 2 ^ 8000) (HM : ∀ x : Int, x.natAbs < 4 * B → (x * x).natAbs < 2 ^ 8000)
    (C0 : ∀ w', IsNum 0 w' (.agg #[.bool na, .slice aa la ca]) (A : Nat) → Calls Tryd.prog 60 #[.agg #[.bool na, .slice aa la ca]] w' fun e w'' => e = .returned (.int .i64 (ln : Nat)) ∧ Below w'.heap.size w' w'')
    (CS : ∀ (Bq : Nat) w' v (j : Nat), j ≤ J → IsNum Bq w' v 1 → Calls Tryd.prog 32 #[v, .int .i64 (j : Nat)] w' fun e w'' => ∃ r, e = .returned r ∧ IsNum 0 w'' r (P j : Nat) ∧ Below w'.heap.size w' w'') :
    Calls Tryd.prog 33 #[.agg #[.bool na, .slice aa la ca]] w fun e w' => ∃ r, e = .returned r ∧ IsNum 0 w' r (isq A : Nat) ∧ Below w.heap.size w w' := by
  have K0 := hide C0; have KS := hide CS; have HP1 := hide HP; have HM1 := hide HM; have PP := hide ps; have PJ := hide pJ; have PA := hide hA2; have P0 := hide p0; have HA := hide hA; have HL := hide hln
  clear C0 CS HP HM ps pJ hA2 p0 hA hln
  -- the boxes at the start
  have hb0 : Below w.heap.size w (((w.alloc (.cells #[.bool na, .slice aa la ca] 44)).alloc (.cells #[.bool false, .slice none 0 0] 44)).alloc (.cells #[.bool false, .slice none 0 0] 44)) := (((Below.refl _ _).alloc (Nat.le_refl _) _).alloc (by simp) _).alloc (by simp; omega) _
  have x0 : Box2 (((w.alloc (.cells #[.bool na, .slice aa la ca] 44)).alloc (.cells #[.bool false, .slice none 0 0] 44)).alloc (.cells #[.bool false, .slice none 0 0] 44)) w.heap.size (.bool na) (.slice aa la ca) := ((Box2.new w (.bool na) (.slice aa la ca)).old _).old _
  have x1 : Box2 (((w.alloc (.cells #[.bool na, .slice aa la ca] 44)).alloc (.cells #[.bool false, .slice none 0 0] 44)).alloc (.cells #[.bool false, .slice none 0 0] 44)) (w.heap.size + 1) (.bool false) (.slice none 0 0) := by
    have := (Box2.new (w.alloc (.cells #[.bool na, .slice aa la ca] 44)) (.bool false) (.slice none 0 0)).old (.cells #[.bool false, .slice none 0 0] 44)
    simpa using this
  have x2 : Box2 (((w.alloc (.cells #[.bool na, .slice aa la ca] 44)).alloc (.cells #[.bool false, .slice none 0 0] 44)).alloc (.cells #[.bool false, .slice none 0 0] 44)) (w.heap.size + 1 + 1) (.bool false) (.slice none 0 0) := by
    have := Box2.new ((w.alloc (.cells #[.bool na, .slice aa la ca] 44)).alloc (.cells #[.bool false, .slice none 0 0] 44)) (.bool false) (.slice none 0 0)
    simpa using this
  have St0 := hide (show WSt w _ na aa la ca (A : Nat) false none 0 0 (0 : Nat) from ⟨hb0, x0, x1, x2, hv.below hb0, IsNum.zero _ _ _ _⟩)
  have HV0 := hide (hv.below hb0)
  have y0 := x0.c0; have y1 := x0.c1
  clear hb0 x0 x1 x2
  go_enter Tryd.func33, Tryd.ntmps33
  go_wp2_with fail
  refine (unhide K0 _ (unhide HV0)).mono ?_
  rintro e w1 ⟨rfl, hb⟩
  have St1 := hide ((unhide St0).below hb)
  clear hb St0 HV0 K0 y0 y1
  have hl0 : ln ≤ 2000 := by have := unhide HL; omega
  go_wp2
  go_loopw [4] (fun i wr => ∃ (j r : Nat) (n : Bool) (a : Option Addr) (l c : Nat), j ≤ J ∧ i = .int .i64 ((j : Int) - 1) ∧ Hid (WSt w wr na aa la ca (A : Nat) n a l c (r : Nat)) ∧ Hid (r * r ≤ A) ∧ Hid (A < (r + P j) * (r + P j))) (fun i _ => (intOf i + 1).toNat)
  case atStart =>
    refine ⟨J, 0, false, none, 0, 0, Nat.le_refl _, int_eq ?_, St1, hide (Nat.zero_le _), hide ?_⟩
    · have := unhide HL; omega
    · rw [Nat.zero_add]; exact unhide PA
  case round =>
    obtain ⟨j, r, n, a, l, c, hj, rfl, St, h1, h2⟩ := hrel
    rcases j with _ | t
    · have he := hide (sq_end (unhide h1) (by have := unhide h2; rw [unhide P0] at this; exact this))
      have b := (unhide St).2.2.2.1; have b1 := (unhide St).2.2.1
      have y0 := b.c0; have y1 := b.c1; have z0 := b1.c0; have z1 := b1.c1; have f0 := b1.free 0; have f1 := b1.free 1
      have q := b1.put (.bool n) (.slice a l c)
      have q0 := q.c0; have q1 := q.c1
      have R := hide (show IsNum 0 _ (.agg #[.bool n, .slice a l c]) (r : Nat) from (unhide St).2.2.2.2.2.set_box b1 (.bool n) (.slice a l c))
      have BB := hide (below_put2 (unhide St).1 (show w.heap.size ≤ w.heap.size + 1 by omega) (.bool n) (.slice a l c))
      clear b b1 q h1 h2 St1 St KS HP1 HM1 PP PJ PA P0 HA HL
      go_wp2
      refine bodyPost_ret (v := .agg #[.bool n, .slice a l c]) (by simp [results, Tryd.results33, go_sem, q0, q1]) rfl ⟨_, rfl, ?_, unhide BB⟩
      rw [← unhide he]
      exact unhide R
    · rw [show ((t + 1 : Nat) : Int) - 1 = (t : Int) by omega]
      have hrA : r ≤ A := by
        rcases Nat.eq_zero_or_pos r with h | h
        · omega
        · exact Nat.le_trans (Nat.le_mul_of_pos_left r h) (unhide h1)
      have hA := unhide HA
      have hPt := unhide PJ t (by omega)
      obtain ⟨p, hp⟩ : ∃ p, p = P t := ⟨_, rfl⟩
      have hps := unhide PP t
      rw [← hp] at hPt hps
      have hx1 := unhide HP1 ((r : Int) + (p : Nat)) (by omega)
      have hx2 := unhide HP1 (r : Nat) (by omega)
      have hx3 := unhide HP1 (p : Nat) (by omega)
      have hx4 := unhide HM1 ((r : Int) + (p : Nat)) (by omega)
      have hx5 := unhide HP1 (A : Nat) (by omega)
      have X1 := hide hx1; have X2 := hide hx2; have X3 := hide hx3; have X4 := hide hx4; have X5 := hide hx5
      have HPP := hide hps; have HPT := hide hp
      clear hx1 hx2 hx3 hx4 hx5 hA hPt hps HP1 HM1 PP PJ PA P0 HA HL
      have CSH := hide (fun w' v (hv : IsNum 0 w' v 1) => by
        have := unhide KS 0 w' v t (by omega) hv
        rw [← unhide HPT] at this
        exact this)
      have CADD := hide (fun w' v (h : Below wr.heap.size wr w') (hv : IsNum 0 w' v (p : Nat)) => radd6 ((unhide St).2.2.2.2.2.below h) hv (unhide X2) (unhide X3))
      have HK := hide (fun w' (h : Below wr.heap.size wr w') => (show Below wr.heap.size wr w' ∧ w'.cell? ⟨w.heap.size + 1 + 1, 0, none⟩ = some (.bool n) ∧ w'.cell? ⟨w.heap.size + 1 + 1, 1, none⟩ = some (.slice a l c) from ⟨h, ((unhide St).2.2.2.1.all h).c0, ((unhide St).2.2.2.1.all h).c1⟩))
      have HT := hide (fun (W : World) (g : Nat) {np : Bool} {ap : Option Addr} {Lp cp : Nat} (h1 : Below wr.heap.size wr W) (h3 : Box2 W g (.bool np) (.slice ap Lp cp)) (h4 : IsNum 0 W (.agg #[.bool np, .slice ap Lp cp]) ((r : Int) + (p : Nat))) (h5 : wr.heap.size ≤ g) =>
          (show TryW w na aa la ca (A : Nat) n a l c (r : Nat) np ap Lp cp ((r : Int) + (p : Nat)) g W from ⟨(unhide St).below h1, h3, h4, Nat.lt_of_lt_of_le (unhide St).room h5⟩))
      have t0 : (0 : Int) ≤ (t : Int) := by omega
      clear KS St1 St
      go_wp2_with fail
      refine at_world (fun W => W = wr) rfl ?_
      rintro W0 e0
      subst e0
      have HKA := hide (fun wn o (h1 : Below W0.heap.size W0 wn) => unhide HK (wn.alloc o) (h1.alloc h1.size o))
      have HKS := hide (fun wn g u u' (h1 : Below W0.heap.size W0 wn) (h4 : W0.heap.size ≤ g) => unhide HK ((wn.setCell ⟨g, 0, none⟩ u).setCell ⟨g, 1, none⟩ u') ((h1.setCell (p := ⟨g, 0, none⟩) h4 u).setCell (p := ⟨g, 1, none⟩) h4 u'))
      have BXA := hide (fun wn (h1 : Below (W0.drew.alloc (.cells #[.bool false, .slice none 0 0] 44)).heap.size (W0.drew.alloc (.cells #[.bool false, .slice none 0 0] 44)) wn) => (Box2.new W0.drew (.bool false) (.slice none 0 0)).below h1 (by simp))
      have BXB := hide (fun wn wm (h2 : Below (wn.alloc (.cells #[.bool false, .slice none 0 0] 44)).heap.size (wn.alloc (.cells #[.bool false, .slice none 0 0] 44)) wm) => (Box2.new wn (.bool false) (.slice none 0 0)).below h2 (by simp))
      go_region_held3 (fun w' => Below W0.heap.size W0 w' ∧ w'.cell? ⟨w.heap.size + 1 + 1, 0, none⟩ = some (.bool n) ∧ w'.cell? ⟨w.heap.size + 1 + 1, 1, none⟩ = some (.slice a l c))
        (first | assumption | exact unhide HK _ (Below.refl _ _).drew | exact unhide HK _ (by assumption) | exact unhide HKA _ _ (by assumption) | exact unhide HKA _ _ (And.left (by assumption)) | exact unhide HKS _ _ _ _ hBwm (by first | exact Nat.le_refl _ | exact Below.size (by assumption)) | fail "KK")
        (first | (go_at_call 38; refine (rof6 _).mono ?_; rintro e wa ⟨vo, rfl, io, hb1⟩; have hBwa : Below W0.heap.size W0 wa := Below.trans (And.left (by assumption)) (hb1.mono (Below.size (And.left (by assumption)))); (first | (have xb := Box2.below xb hb1 xb.lt) | (have xb : Box2 wa W0.heap.size (.bool false) (.slice none 0 0) := unhide BXA _ hb1) | (have xb := unhide BXB _ _ hb1) | skip); have IOF := hide (io.mono (Nat.zero_le _)); clear io; clear hb1) | (go_at_call 32; refine (unhide CSH _ _ (by first | exact unhide IOF | exact (unhide IOF).below ((Below.refl _ _).alloc (Nat.le_refl _) _))).mono ?_; rintro e wd ⟨vd, rfl, id, hb1⟩; have hBwd : Below W0.heap.size W0 wd := Below.trans (And.left (by assumption)) (hb1.mono (Below.size (And.left (by assumption)))); (first | (have xb := Box2.below xb hb1 xb.lt) | (have xb : Box2 wd W0.heap.size (.bool false) (.slice none 0 0) := unhide BXA _ hb1) | (have xb := unhide BXB _ _ hb1) | skip); have ISH := hide id; clear id; clear hb1) | (go_at_call 37; refine (unhide CADD _ _ (And.left (by assumption)) (by first | exact unhide ISH | exact (unhide ISH).below ((Below.refl _ _).alloc (Nat.le_refl _) _))).mono ?_; rintro e wm ⟨pv, rfl, ⟨np, ap, cp, Lp, rfl, ip⟩, hb1⟩; have hBwm : Below W0.heap.size W0 wm := Below.trans (And.left (by assumption)) (hb1.mono (Below.size (And.left (by assumption)))); (first | (have xb := Box2.below xb hb1 xb.lt) | (have xb : Box2 wm W0.heap.size (.bool false) (.slice none 0 0) := unhide BXA _ hb1) | (have xb := unhide BXB _ _ hb1) | skip); have IP := hide (show IsNum 0 wm (.agg #[.bool np, .slice ap Lp.length cp]) ((r : Int) + (p : Nat)) from IsNum.mono ⟨np, ap, cp, Lp, rfl, ip⟩ (Nat.zero_le _)); (first | (have y0 := xb.c0; have y1 := xb.c1; have f0 := xb.free 0; have f1 := xb.free 1) | skip); clear ip; clear hb1) | fail "NO ARM")
      all_goals
        first
          | (refine at_thenB (TryW _ _ _ _ _ _ _ _ _ _ _ _ _ _ _ _ W0.heap.size) (unhide HT _ _ (And.left (by assumption)) (xb.put _ _) ((unhide IP).set_box xb _ _) (by first | exact Nat.le_refl _ | exact Below.size (by assumption))) ?_; rintro W1 ⟨St, xg, ix, hg⟩; generalize W0.heap.size = g at *)
          | (refine at_thenB (TryW _ _ _ _ _ _ _ _ _ _ _ _ _ _ _ _ wa.heap.size) (unhide HT _ _ (And.left (by assumption)) (xb.put _ _) ((unhide IP).set_box xb _ _) (by first | exact Nat.le_refl _ | exact Below.size (by assumption))) ?_; rintro W1 ⟨St, xg, ix, hg⟩; generalize wa.heap.size = g at *)
          | (refine at_thenB (TryW _ _ _ _ _ _ _ _ _ _ _ _ _ _ _ _ wd.heap.size) (unhide HT _ _ (And.left (by assumption)) (xb.put _ _) ((unhide IP).set_box xb _ _) (by first | exact Nat.le_refl _ | exact Below.size (by assumption))) ?_; rintro W1 ⟨St, xg, ix, hg⟩; generalize wd.heap.size = g at *)
          | (refine at_thenB (TryW _ _ _ _ _ _ _ _ _ _ _ _ _ _ _ _ wm.heap.size) (unhide HT _ _ (And.left (by assumption)) (Box2.new _ _ _) ((unhide IP).below ((Below.refl _ _).alloc (Nat.le_refl _) _)) (Below.size (by assumption))) ?_; rintro W1 ⟨St, xg, ix, hg⟩; generalize wm.heap.size = g at *)
          | fail "NO WAY"
      all_goals
        try clear y0 y1 f0 f1
        try clear xb
        clear HT HK HKA HKS BXA BXB CSH CADD IP ISH IOF hBwa hBwd hBwm
        generalize Lp.length = lp at *
        have CM := hide (fun w' (h : Below W1.heap.size W1 w') => rmulw7 (ix.below h) (ix.below h) (unhide X1) (unhide X1))
        have CC := hide (fun w' v (h : Below W1.heap.size W1 w') (hv : IsNum 0 w' v (((r : Int) + (p : Nat)) * ((r : Int) + (p : Nat)))) => rcmp6 hv (St.2.2.2.2.1.below h) (unhide X4) (unhide X5))
        have HK := hide (fun w' (h : Below W1.heap.size W1 w') => (show Below W1.heap.size W1 w' ∧ w'.cell? ⟨w.heap.size, 0, none⟩ = some (.bool na) ∧ w'.cell? ⟨w.heap.size, 1, none⟩ = some (.slice aa la ca) ∧ w'.cell? ⟨g, 0, none⟩ = some (.bool np) ∧ w'.cell? ⟨g, 1, none⟩ = some (.slice ap lp cp) from ⟨h, (St.2.1.all h).c0, (St.2.1.all h).c1, (xg.all h).c0, (xg.all h).c1⟩))
        have SW := hide St; have XG := hide xg; have IX := hide ix
        have hcc : ((r + p) * (r + p) ≤ A → cmpI (((r : Int) + (p : Nat)) * ((r : Int) + (p : Nat))) (A : Nat) = -1 ∨ cmpI (((r : Int) + (p : Nat)) * ((r : Int) + (p : Nat))) (A : Nat) = 0) ∧ (¬ (r + p) * (r + p) ≤ A → cmpI (((r : Int) + (p : Nat)) * ((r : Int) + (p : Nat))) (A : Nat) = 1) := by
          rw [← Int.natCast_add, ← Int.natCast_mul, cmpI_nat]
          refine ⟨fun h => ?_, fun h => ?_⟩
          · split
            · exact .inl rfl
            · rw [if_pos (by omega)]; exact .inr rfl
          · rw [if_neg (by omega), if_neg (by omega)]
        have hsq := hide (sq_bit A r p (unhide h1) (by have := unhide h2; rw [unhide HPP] at this; exact this))
        clear St xg ix X1 X2 X3 X4 X5 HPP h1 h2
        by_cases hc : (r + p) * (r + p) ≤ A
        · have hn := hide ((unhide hsq).1 hc)
          rcases hcc.1 hc with ec | ec
          all_goals
            rw [ec] at CC
            clear hcc ec hsq hc
            go_wp2_with fail
            go_region_held3 (fun w' => Below W1.heap.size W1 w' ∧ w'.cell? ⟨w.heap.size, 0, none⟩ = some (.bool na) ∧ w'.cell? ⟨w.heap.size, 1, none⟩ = some (.slice aa la ca) ∧ w'.cell? ⟨g, 0, none⟩ = some (.bool np) ∧ w'.cell? ⟨g, 1, none⟩ = some (.slice ap lp cp))
              (first | exact unhide HK _ (Below.refl _ _).drew | exact unhide HK _ (by assumption) | fail "NO KEEP")
              (first | (go_at_call 35; refine (unhide CM _ (And.left (by assumption))).mono ?_; rintro e wn5 ⟨q, rfl, hq, hb1⟩; have hB5 : Below W1.heap.size W1 wn5 := Below.trans (And.left (by assumption)) (hb1.mono (Below.size (And.left (by assumption)))); have J1 := hide hq; clear hb1 hq) | (go_at_call 61; refine (unhide CC _ _ (And.left (by assumption)) (unhide J1)).mono ?_; rintro e wn6 ⟨rfl, hb1⟩; have hB6 : Below W1.heap.size W1 wn6 := Below.trans (And.left (by assumption)) (hb1.mono (Below.size (And.left (by assumption)))); clear hb1) | fail "NO ARM")
            have hW : Below W1.heap.size W1 _ := And.left (by assumption)
            have S2 := (unhide SW).below hW
            have x2 := (unhide XG).all hW
            have i2 := (unhide IX).below hW
            have y0 := x2.c0; have y1 := x2.c1
            have z0 := S2.2.2.2.1.c0; have z1 := S2.2.2.2.1.c1; have f0 := S2.2.2.2.1.free 0; have f1 := S2.2.2.2.1.free 1
            have S3 := hide (S2.put i2)
            clear S2 x2 i2 hW SW XG IX CM CC HK J1 hB5 hB6
            go_wp2
            go_roundw
            case rel =>
              have e1 := unhide HPT
              exact ⟨t, r + p, _, _, _, _, by omega, int_eq (by omega), hide (unhide S3), hide (unhide hn).1, hide (by rw [← e1]; exact (unhide hn).2)⟩
            case measure => first | (simp [intOf]; done) | (simp [intOf]; omega)
        · have hn := hide ((unhide hsq).2 hc)
          have ec := hcc.2 hc
          rw [ec] at CC
          clear hcc ec hsq hc
          go_wp2_with fail
          go_region_held3 (fun w' => Below W1.heap.size W1 w' ∧ w'.cell? ⟨w.heap.size, 0, none⟩ = some (.bool na) ∧ w'.cell? ⟨w.heap.size, 1, none⟩ = some (.slice aa la ca) ∧ w'.cell? ⟨g, 0, none⟩ = some (.bool np) ∧ w'.cell? ⟨g, 1, none⟩ = some (.slice ap lp cp))
            (first | exact unhide HK _ (Below.refl _ _).drew | exact unhide HK _ (by assumption) | fail "NO KEEP")
            (first | (go_at_call 35; refine (unhide CM _ (And.left (by assumption))).mono ?_; rintro e wn5 ⟨q, rfl, hq, hb1⟩; have hB5 : Below W1.heap.size W1 wn5 := Below.trans (And.left (by assumption)) (hb1.mono (Below.size (And.left (by assumption)))); have J1 := hide hq; clear hb1 hq) | (go_at_call 61; refine (unhide CC _ _ (And.left (by assumption)) (unhide J1)).mono ?_; rintro e wn6 ⟨rfl, hb1⟩; have hB6 : Below W1.heap.size W1 wn6 := Below.trans (And.left (by assumption)) (hb1.mono (Below.size (And.left (by assumption)))); clear hb1) | fail "NO ARM")
          have hW : Below W1.heap.size W1 _ := And.left (by assumption)
          have S3 := hide ((unhide SW).below hW)
          clear hW SW XG IX CM CC HK J1 hB5 hB6
          go_wp2
          go_roundw
          case rel =>
            have e1 := unhide HPT
            exact ⟨t, r, _, _, _, _, by omega, int_eq (by omega), hide (unhide S3), hide (unhide hn).1, hide (by rw [← e1]; exact (unhide hn).2)⟩
          case measure => first | (simp [intOf]; done) | (simp [intOf]; omega)

end Go.Proofs.YtgegjhkiiejhlaaDoor

/- The reference's contracts that its Div ends with: numbers made, rounded. -/
namespace Go.Proofs.YtgegjhkiiejhlaaDoor
open Go.RowKit

theorem rshift180 {w : World} {v : Value} {x A : Nat} (hA : x * 2 ^ 180 = A) (hv : IsNum 0 w v (x : Nat)) (hx : x < 2 ^ 8000) :
    Calls Tryd.prog 32 #[v, .int .i64 180] w fun e w' => ∃ r, e = .returned r ∧ IsNum 0 w' r (A : Nat) ∧ Below w.heap.size w w' := by
  have h := rshift6 hv hx 180 (by decide)
  rw [if_pos (by decide), show (180 : Int).toNat = 180 from rfl, hA] at h
  exact h
theorem rdouble_nat {w : World} {v : Value} {Q : Nat} (hv : IsNum 0 w v (Q : Nat)) (hQ : Q < 2 ^ 8000) :
    Calls Tryd.prog 36 #[v] w fun e w' => ∃ r, e = .returned r ∧ IsNum 0 w' r (2 * Q : Nat) ∧ Below w.heap.size w w' := by
  have h := rdouble6 hv (by rw [Int.natAbs_natCast]; exact hQ)
  have e : 2 * ((Q : Nat) : Int) = ((2 * Q : Nat) : Int) := by omega
  rw [e] at h
  exact h.mono fun e w' ⟨r, h1, h2, h3⟩ => ⟨r, h1, h2.mono (Nat.zero_le _), h3⟩
theorem one8000 : ((1 : Int)).natAbs < 2 ^ 8000 := pow_up 1 8000 (by decide) (by decide)
theorem radd_nat {w : World} {v u : Value} {Q : Nat} (hv : IsNum 0 w v (Q : Nat)) (hu : IsNum 0 w u 1) (hQ : Q < 2 ^ 8000) :
    Calls Tryd.prog 37 #[v, u] w fun e w' => ∃ r, e = .returned r ∧ IsNum 0 w' r (Q + 1 : Nat) ∧ Below w.heap.size w w' := by
  have h := radd6 hv hu (by rw [Int.natAbs_natCast]; exact hQ) one8000
  have e : ((Q : Nat) : Int) + 1 = ((Q + 1 : Nat) : Int) := by omega
  rw [e] at h
  exact h.mono fun e w' ⟨r, h1, h2, h3⟩ => ⟨r, h1, h2.mono (Nat.zero_le _), h3⟩
theorem rmade_nat {w : World} {m n : Bool} {a : Option Addr} {l c SS : Nat} (hv : IsNum 0 w (.agg #[.bool m, .slice a l c]) (SS : Nat)) :
    Calls Tryd.prog 58 #[.bool n, .slice a l c] w fun e w' => ∃ r, e = .returned r ∧ IsNum 0 w' r (sg n SS) ∧ Below w.heap.size w w' := by
  obtain ⟨L, rfl, h1, h2, h3, h4, h5, h6⟩ := hv.open6
  have h := made_any 0 n a c L w h1 h2 h6
  have e : sval n L = sg n SS := by rw [sval_sg, h5]; rfl
  rw [e] at h
  exact h.mono fun e w' ⟨r, g1, g2, g3⟩ => ⟨r, g1, g2.num (by omega), g3⟩

theorem sg_neg6 (n : Bool) (S : Nat) : (sg n S).natAbs = S ∧ (S ≠ 0 → decide (sg n S < 0) = n) ∧ (oM (sg n S)).natAbs = (oM (S : Nat)).natAbs ∧ ∀ e, oE (sg n S) e = oE (S : Nat) e := by
  cases n
  · exact ⟨rfl, fun h => decide_eq_false (by show ¬ ((S : Nat) : Int) < 0; omega), rfl, fun e => rfl⟩
  · refine ⟨by show (-((S : Nat) : Int)).natAbs = S; omega, fun h => decide_eq_true (by show -((S : Nat) : Int) < 0; omega), ?_, fun e => ?_⟩
    · show (oM (-((S : Nat) : Int))).natAbs = _
      rw [(oM_neg _).1, Int.natAbs_neg]
    · show oE (-((S : Nat) : Int)) e = _
      rw [(oM_neg _).2]

theorem rofr_nat {w : World} {v : Value} {n : Bool} {S : Nat} {E : Int} (hv : IsNum 0 w v (sg n S)) (hS : S < 2 ^ 8000) (hE : -1000000 ≤ E ∧ E ≤ 1000000) :
    Calls Tryd.prog 40 #[v, .int .i64 E] w fun r w' => ∃ u, r = .returned u ∧ IsDy w' u (oM (sg n S)) (oE (sg n S) E) ∧ Below w.heap.size w w' := by
  have hz : (sg n S).natAbs < TOP := top8000 (by rw [(sg_neg6 n S).1]; exact hS)
  exact rof_small E (hv.toM hz) (by decide) hE

theorem p250_80 {x : Nat} (h : x < 2 ^ 250) : x < 4294967296 ^ 80 := Nat.lt_of_lt_of_le h (by decide +kernel)
theorem rrnd_nat {w : World} {v : Value} {n : Bool} {S r : Nat} {E fl : Int} (s0 : S ≠ 0) (hS : S < 2 ^ 250) (hE : -3000 ≤ E ∧ E ≤ 3000) (q1 : rnd S E = r) (q2 : rflag (oM (S : Nat)).natAbs (oE (S : Nat) E) = fl) (hv : IsDy w v (oM (sg n S)) (oE (sg n S) E)) :
    Calls Tryd.prog 39 #[v] w fun e w' => e = .returned (.tuple #[.int .u64 (wrd n r : Nat), .int .u8 fl]) ∧ Below w.heap.size w w' := by
  obtain ⟨g1, g2, g3, g4⟩ := sg_neg6 n S
  have hz0 : sg n S ≠ 0 := fun e => s0 (by rw [← g1, e]; rfl)
  have htz : tz (sg n S).natAbs < 250 := tz_lt _ 250 (by omega) (by rw [g1]; exact hS)
  have hRt : dRt (oM (sg n S)) (oE (sg n S) E) = true := by
    unfold dRt
    rw [if_neg (oM_ne _ hz0).1, oE_ne _ _ hz0, decide_eq_true (oM_ne _ hz0).2, decide_eq_true (by omega)]
    rfl
  have hb : (oM (sg n S)).natAbs < 4294967296 ^ 80 := Nat.lt_of_le_of_lt (oM_le _) (by rw [g1]; exact p250_80 hS)
  have h := rround_dy hv hb hRt
  rw [(rnd_odd (sg n S) E).1, oM_sign, g1, g2 s0, q1, g3, g4, q2] at h
  exact h

end Go.Proofs.YtgegjhkiiejhlaaDoor

/- The reference's Sqrt of a finite number above 0, walked. -/
namespace Go.Proofs.YtgegjhkiiejhlaaDoor
open Go.RowKit
attribute [local go_sem ↓] Go.wp_at_zero Go.wp_at_succ

/-- Behind the region that makes the rest: the boxes of the number, of its digits, of the root, of the rest. -/
def RestS (w : World) (gd : Nat) (x y z : Value) (gq : Nat) (nq : Bool) (aq : Option Addr) (lq cq : Nat) (Q : Nat) (nt : Bool) (at' : Option Addr) (lt ct : Nat) (R : Int) (g : Nat) (W : World) : Prop :=
  Below w.heap.size w W ∧ Box3 W gd x y z ∧ Box2 W gq (.bool nq) (.slice aq lq cq) ∧ IsNum 0 W (.agg #[.bool nq, .slice aq lq cq]) (Q : Nat) ∧ Box2 W g (.bool nt) (.slice at' lt ct) ∧ IsNum 0 W (.agg #[.bool nt, .slice at' lt ct]) R ∧ w.heap.size ≤ gq ∧ gd < gq ∧ gq < g
theorem Box3.oth7 {w : World} {b g : Nat} {x y z : Value} (h : Box3 w b x y z) (hne : b ≠ g) (u u' : Value) : Box3 ((w.setCell ⟨g, 0, none⟩ u).setCell ⟨g, 1, none⟩ u') b x y z :=
  (h.other (p := ⟨g, 0, none⟩) hne u).other (p := ⟨g, 1, none⟩) hne u'
theorem RestS.below {w W W' : World} {gd gq g : Nat} {x y z : Value} {nq nt : Bool} {aq at' : Option Addr} {lq cq lt ct Q : Nat} {R : Int} (h : RestS w gd x y z gq nq aq lq cq Q nt at' lt ct R g W) (hb : Below W.heap.size W W') : RestS w gd x y z gq nq aq lq cq Q nt at' lt ct R g W' := by
  obtain ⟨h0, h1, h2, h3, h4, h5, h6⟩ := h
  exact ⟨h0.trans (hb.mono h0.size), h1.all hb, h2.all hb, h3.below hb, h4.all hb, h5.below hb, h6⟩
/-- The root's box is written. -/
theorem RestS.putq {w W : World} {gd gq g : Nat} {x y z : Value} {nq nt : Bool} {aq at' : Option Addr} {lq cq lt ct Q : Nat} {R : Int} (h : RestS w gd x y z gq nq aq lq cq Q nt at' lt ct R g W) {n : Bool} {a : Option Addr} {l c Z : Nat} (hn : IsNum 0 W (.agg #[.bool n, .slice a l c]) (Z : Nat)) :
    RestS w gd x y z gq n a l c Z nt at' lt ct R g ((W.setCell ⟨gq, 0, none⟩ (.bool n)).setCell ⟨gq, 1, none⟩ (.slice a l c)) := by
  obtain ⟨h0, h1, h2, h3, h4, h5, h6, h7, h8⟩ := h
  exact ⟨below_put2 h0 h6 _ _, h1.oth7 (by omega) _ _, h2.put _ _, hn.set_box h2 _ _, h4.oth6 (by omega) _ _, h5.set_box h2 _ _, h6, h7, h8⟩

set_option maxRecDepth 20000 in
set_option maxHeartbeats 8000000 in
theorem rsqrt7_e (a N Q S o : Nat) (k m X q R E M2 X2 fl : Int) (w : World) (h4 : (k == 4) = false) (h0 : (k == 0) = false) (hI : ((a : Int) == 9218868437227405312) = false) (hX : X.tmod 2 = 0)
    (bX : -2000 ≤ X ∧ X ≤ 2000) (hq : Int.tdiv (X - 240) 2 = q) (bq : -2000 ≤ q ∧ q ≤ 2000) (hE : E = q - 1) (hR : (R = 0 → S = 2 * Q) ∧ (R ≠ 0 → S = 2 * Q + 1))
    (C1 : ∀ w', Calls Tryd.prog 23 #[.int .u64 a] w' fun e w'' => e = .returned (.int .i64 k) ∧ w' = w'')
    (C2 : ∀ w', Calls Tryd.prog 20 #[.int .u64 a] w' fun e w'' => e = .returned (.bool false) ∧ w' = w'')
    (C3 : ∀ w', Calls Tryd.prog 24 #[.int .u64 a] w' fun e w'' => ∃ u, e = .returned u ∧ IsDy w'' u m X ∧ Below w'.heap.size w' w'')
    (C4 : ∀ w' v, IsNum 0 w' v m → Calls Tryd.prog 32 #[v, .int .i64 240] w' fun e w'' => ∃ r, e = .returned r ∧ IsNum 0 w'' r (N : Nat) ∧ Below w'.heap.size w' w'')
    (C5 : ∀ w' v, IsNum 0 w' v (N : Nat) → Calls Tryd.prog 33 #[v] w' fun e w'' => ∃ r, e = .returned r ∧ IsNum 0 w'' r (Q : Nat) ∧ Below w'.heap.size w' w'')
    (C6 : ∀ w' v, IsNum 0 w' v (Q : Nat) → Calls Tryd.prog 35 #[v, v] w' fun e w'' => ∃ r, e = .returned r ∧ IsNum 0 w'' r ((Q : Int) * (Q : Int)) ∧ Below w'.heap.size w' w'')
    (C7 : ∀ w' v u, IsNum 0 w' v (N : Nat) → IsNum 0 w' u ((Q : Int) * (Q : Int)) → Calls Tryd.prog 34 #[v, u] w' fun e w'' => ∃ r, e = .returned r ∧ IsNum 0 w'' r R ∧ Below w'.heap.size w' w'')
    (C8 : ∀ w' v, IsNum 0 w' v (Q : Nat) → Calls Tryd.prog 36 #[v] w' fun e w'' => ∃ r, e = .returned r ∧ IsNum 0 w'' r (2 * Q : Nat) ∧ Below w'.heap.size w' w'')
    (C9 : ∀ w', Calls Tryd.prog 38 #[.int .i64 1] w' fun e w'' => ∃ r, e = .returned r ∧ IsNum 0 w'' r 1 ∧ Below w'.heap.size w' w'')
    (C10 : ∀ w' v u, IsNum 0 w' v (2 * Q : Nat) → IsNum 0 w' u 1 → Calls Tryd.prog 37 #[v, u] w' fun e w'' => ∃ r, e = .returned r ∧ IsNum 0 w'' r (2 * Q + 1 : Nat) ∧ Below w'.heap.size w' w'')
    (C11 : ∀ w' v, IsNum 0 w' v (S : Nat) → Calls Tryd.prog 40 #[v, .int .i64 E] w' fun e w'' => ∃ u, e = .returned u ∧ IsDy w'' u M2 X2 ∧ Below w'.heap.size w' w'')
    (C12 : ∀ w' v, IsDy w' v M2 X2 → Calls Tryd.prog 39 #[v] w' fun e w'' => e = .returned (.tuple #[.int .u64 (o : Nat), .int .u8 fl]) ∧ Below w'.heap.size w' w'') :
    Calls Tryd.prog 13 #[.int .u64 a] w fun e w' => e = .returned (.tuple #[.int .u64 (o : Nat), .int .u8 fl]) ∧ Below w.heap.size w w' := by
  have K1 := hide C1; have K2 := hide C2; have K3 := hide C3; have K4 := hide C4; have K5 := hide C5; have K6 := hide C6; have K7 := hide C7; have K8 := hide C8; have K9 := hide C9; have K10 := hide C10; have K11 := hide C11; have K12 := hide C12; have HR := hide hR
  clear C1 C2 C3 C4 C5 C6 C7 C8 C9 C10 C11 C12 hR
  have e1 := wrap_small (X - 240) (by omega)
  have e2 := wrap_small (q - 1) (by omega)
  have bq1 := bq.1; have bq2 := bq.2
  have bX1 := bX.1; have bX2 := bX.2
  subst hE
  go_enter Tryd.func13, Tryd.ntmps13
  go_wp2_with fail
  refine (unhide K1 _).mono ?_
  rintro e wk ⟨rfl, rfl⟩
  go_wp2_with fail
  refine (unhide K1 _).mono ?_
  rintro e wk ⟨rfl, rfl⟩
  go_wp2_with fail
  refine (unhide K2 _).mono ?_
  rintro e wk ⟨rfl, rfl⟩
  clear K1 K2
  go_wp2_with fail
  refine (unhide K3 _).mono ?_
  rintro e w1 ⟨v, rfl, ⟨n1, a1, d1, L1, rfl, i1⟩, hb⟩
  have hba : Below w1.heap.size w1 (w1.alloc (.cells #[.bool n1, .slice a1 L1.length d1, .int .i64 X] 46)) := (Below.refl _ _).alloc (Nat.le_refl _) _
  have H1 := hide (i1.below hba)
  have x1 := Box3.new w1 (.bool n1) (.slice a1 L1.length d1) (.int .i64 X)
  have B1 := hide (hb.trans (hba.mono hb.size))
  have y0 := x1.c0; have y1 := x1.c1; have y2 := x1.c2
  have XD := hide x1
  clear hb hba i1 K3 x1
  generalize L1.length = l1 at *
  go_wp2_with fail
  refine (unhide K4 _ _ (unhide H1)).mono ?_
  rintro e w2 ⟨v, rfl, ⟨n2, a2, d2, L2, rfl, i2⟩, hb⟩
  have hba : Below w2.heap.size w2 (w2.alloc (.cells #[.bool n2, .slice a2 L2.length d2] 44)) := (Below.refl _ _).alloc (Nat.le_refl _) _
  have H2 := hide ((show IsNum 0 w2 (.agg #[.bool n2, .slice a2 L2.length d2]) (N : Nat) from ⟨n2, a2, d2, L2, rfl, i2⟩).below hba)
  have x2 := Box2.new w2 (.bool n2) (.slice a2 L2.length d2)
  have hg1 := ((unhide XD).all hb).lt
  have B2 := hide ((unhide B1).trans ((hb.trans (hba.mono hb.size)).mono (unhide B1).size))
  have XD2 := hide (((unhide XD).all hb).all hba)
  clear y0 y1 y2
  have y0 := x2.c0; have y1 := x2.c1
  have XM := hide x2
  clear hb hba i2 K4 x2 XD H1 B1
  generalize L2.length = l2 at *
  go_wp2_with fail
  refine (unhide K5 _ _ (unhide H2)).mono ?_
  rintro e w3 ⟨v, rfl, ⟨n3, a3, d3, L3, rfl, i3⟩, hb⟩
  have hba : Below w3.heap.size w3 (w3.alloc (.cells #[.bool n3, .slice a3 L3.length d3] 44)) := (Below.refl _ _).alloc (Nat.le_refl _) _
  have H3 := hide ((show IsNum 0 w3 (.agg #[.bool n3, .slice a3 L3.length d3]) (Q : Nat) from ⟨n3, a3, d3, L3, rfl, i3⟩).below hba)
  have x3 := Box2.new w3 (.bool n3) (.slice a3 L3.length d3)
  have hg2 := ((unhide XM).all hb).lt
  have hg3 := (unhide B2).size
  have hg4 := hb.size
  have B3 := hide ((unhide B2).trans ((hb.trans (hba.mono hb.size)).mono (unhide B2).size))
  have XD3 := hide (((unhide XD2).all hb).all hba)
  have XM3 := hide (((unhide XM).all hb).all hba)
  have H23 := hide (((unhide H2).below hb).below hba)
  have XQ := hide x3
  have hw : w.heap.size ≤ w3.heap.size := Nat.le_trans hg3 hg4
  clear y0 y1 hb hba i3 K5 x3 XD2 XM H2 B2 hg3 hg4
  go_wp2_with fail
  refine at_world (fun W => Below w.heap.size w W ∧ Box3 W w1.heap.size (.bool n1) (.slice a1 l1 d1) (.int .i64 X) ∧ Box2 W w2.heap.size (.bool n2) (.slice a2 l2 d2) ∧ Box2 W w3.heap.size (.bool n3) (.slice a3 L3.length d3) ∧ IsNum 0 W (.agg #[.bool n2, .slice a2 l2 d2]) (N : Nat) ∧ IsNum 0 W (.agg #[.bool n3, .slice a3 L3.length d3]) (Q : Nat)) ⟨unhide B3, unhide XD3, unhide XM3, unhide XQ, unhide H23, unhide H3⟩ ?_
  clear B3 XD3 XM3 XQ H23 H3
  rintro W0 ⟨b0, xd, xm, xq, im, iq⟩
  generalize w1.heap.size = gd at *
  generalize w2.heap.size = gm at *
  generalize w3.heap.size = gq at *
  generalize L3.length = l3 at *
  have hqW := xq.lt
  have HK := hide (fun w' (h : Below W0.heap.size W0 w') => (show Below W0.heap.size W0 w' ∧ w'.cell? ⟨gm, 0, none⟩ = some (.bool n2) ∧ w'.cell? ⟨gm, 1, none⟩ = some (.slice a2 l2 d2) ∧ w'.cell? ⟨gq, 0, none⟩ = some (.bool n3) ∧ w'.cell? ⟨gq, 1, none⟩ = some (.slice a3 l3 d3) from ⟨h, (xm.all h).c0, (xm.all h).c1, (xq.all h).c0, (xq.all h).c1⟩))
  have CM := hide (fun w' (h : Below W0.heap.size W0 w') => unhide K6 w' _ (iq.below h))
  have CB := hide (fun w' v (h : Below W0.heap.size W0 w') (hv : IsNum 0 w' v ((Q : Int) * (Q : Int))) => unhide K7 w' _ v (im.below h) hv)
  have HT := hide (fun (W : World) (g : Nat) {np : Bool} {ap : Option Addr} {Lp cp : Nat} (h1 : Below W0.heap.size W0 W) (h3 : Box2 W g (.bool np) (.slice ap Lp cp)) (h4 : IsNum 0 W (.agg #[.bool np, .slice ap Lp cp]) R) (h5 : W0.heap.size ≤ g) =>
    (show RestS w gd (.bool n1) (.slice a1 l1 d1) (.int .i64 X) gq n3 a3 l3 d3 Q np ap Lp cp R g W from ⟨b0.trans (h1.mono b0.size), xd.all h1, xq.all h1, iq.below h1, h3, h4, hw, by omega, Nat.lt_of_lt_of_le hqW h5⟩))
  clear b0 xd xm xq im iq K6 K7
  have HKA := hide (fun wn o (h1 : Below W0.heap.size W0 wn) => unhide HK (wn.alloc o) (h1.alloc h1.size o))
  have HKS := hide (fun wn g u u' (h1 : Below W0.heap.size W0 wn) (h4 : W0.heap.size ≤ g) => unhide HK ((wn.setCell ⟨g, 0, none⟩ u).setCell ⟨g, 1, none⟩ u') ((h1.setCell (p := ⟨g, 0, none⟩) h4 u).setCell (p := ⟨g, 1, none⟩) h4 u'))
  have BXA := hide (fun wn (h1 : Below (W0.drew.alloc (.cells #[.bool false, .slice none 0 0] 44)).heap.size (W0.drew.alloc (.cells #[.bool false, .slice none 0 0] 44)) wn) => (Box2.new W0.drew (.bool false) (.slice none 0 0)).below h1 (by simp))
  have BXB := hide (fun wn wm (h2 : Below (wn.alloc (.cells #[.bool false, .slice none 0 0] 44)).heap.size (wn.alloc (.cells #[.bool false, .slice none 0 0] 44)) wm) => (Box2.new wn (.bool false) (.slice none 0 0)).below h2 (by simp))
  go_region_held3 (fun w' => Below W0.heap.size W0 w' ∧ w'.cell? ⟨gm, 0, none⟩ = some (.bool n2) ∧ w'.cell? ⟨gm, 1, none⟩ = some (.slice a2 l2 d2) ∧ w'.cell? ⟨gq, 0, none⟩ = some (.bool n3) ∧ w'.cell? ⟨gq, 1, none⟩ = some (.slice a3 l3 d3))
    (first | assumption | exact unhide HK _ (Below.refl _ _).drew | exact unhide HK _ (by assumption) | exact unhide HKA _ _ (by assumption) | exact unhide HKA _ _ (And.left (by assumption)) | exact unhide HKS _ _ _ _ hBwm (by first | exact Nat.le_refl _ | exact Below.size (by assumption)) | fail "KK")
    (first | (go_at_call 35; refine (unhide CM _ (And.left (by assumption))).mono ?_; rintro e wd ⟨vd, rfl, id, hb1⟩; have hBwd : Below W0.heap.size W0 wd := Below.trans (And.left (by assumption)) (hb1.mono (Below.size (And.left (by assumption)))); (first | (have xb := Box2.below xb hb1 xb.lt) | (have xb : Box2 wd W0.heap.size (.bool false) (.slice none 0 0) := unhide BXA _ hb1) | (have xb := unhide BXB _ _ hb1) | skip); have ISH := hide id; clear id; clear hb1) | (go_at_call 34; refine (unhide CB _ _ (And.left (by assumption)) (by first | exact unhide ISH | exact (unhide ISH).below ((Below.refl _ _).alloc (Nat.le_refl _) _))).mono ?_; rintro e wm ⟨pv, rfl, ⟨np, ap, cp, Lp, rfl, ip⟩, hb1⟩; have hBwm : Below W0.heap.size W0 wm := Below.trans (And.left (by assumption)) (hb1.mono (Below.size (And.left (by assumption)))); (first | (have xb := Box2.below xb hb1 xb.lt) | (have xb : Box2 wm W0.heap.size (.bool false) (.slice none 0 0) := unhide BXA _ hb1) | (have xb := unhide BXB _ _ hb1) | skip); have IP := hide (show IsNum 0 wm (.agg #[.bool np, .slice ap Lp.length cp]) R from ⟨np, ap, cp, Lp, rfl, ip⟩); (first | (have y0 := xb.c0; have y1 := xb.c1; have f0 := xb.free 0; have f1 := xb.free 1) | skip); clear ip; clear hb1) | fail "NO ARM")
  all_goals
    first
      | (refine at_thenB (RestS _ _ _ _ _ _ _ _ _ _ _ _ _ _ _ _ W0.heap.size) (unhide HT _ _ (And.left (by assumption)) (xb.put _ _) ((unhide IP).set_box xb _ _) (by first | exact Nat.le_refl _ | exact Below.size (by assumption))) ?_; rintro W1 D; generalize W0.heap.size = g at *)
      | (refine at_thenB (RestS _ _ _ _ _ _ _ _ _ _ _ _ _ _ _ _ wd.heap.size) (unhide HT _ _ (And.left (by assumption)) (xb.put _ _) ((unhide IP).set_box xb _ _) (by first | exact Nat.le_refl _ | exact Below.size (by assumption))) ?_; rintro W1 D; generalize wd.heap.size = g at *)
      | (refine at_thenB (RestS _ _ _ _ _ _ _ _ _ _ _ _ _ _ _ _ wm.heap.size) (unhide HT _ _ (And.left (by assumption)) (Box2.new _ _ _) ((unhide IP).below ((Below.refl _ _).alloc (Nat.le_refl _) _)) (Below.size (by assumption))) ?_; rintro W1 D; generalize wm.heap.size = g at *)
      | fail "NO WAY"
  all_goals
    try clear y0 y1 f0 f1
    try clear xb
    clear HT HK HKA HKS BXA BXB CM CB IP ISH hBwd hBwm
    generalize Lp.length = lp at *
    have q0 := D.2.2.1.c0; have q1 := D.2.2.1.c1; have f0 := D.2.2.1.free 0; have f1 := D.2.2.1.free 1
    go_wp2_with fail
    refine (unhide K8 _ _ D.2.2.2.1).mono ?_
    rintro e w6 ⟨v, rfl, ⟨n6, a6, c6, L6, rfl, i6⟩, hb⟩
    have I6 : IsNum 0 w6 (.agg #[.bool n6, .slice a6 L6.length c6]) (2 * Q : Nat) := ⟨n6, a6, c6, L6, rfl, i6⟩
    have D := D.below hb
    clear i6 hb q0 q1 f0 f1 K8
    generalize L6.length = l6 at *
    have q0 := D.2.2.1.c0; have q1 := D.2.2.1.c1; have f0 := D.2.2.1.free 0; have f1 := D.2.2.1.free 1
    have r0 := D.2.2.2.2.1.c0; have r1 := D.2.2.2.2.1.c1
    have hlr := num_len D.2.2.2.2.2.1
    have gne : gq ≠ g := by have := D.2.2.2.2.2.2.2.2; omega
    have gne' : g ≠ gq := fun e => gne e.symm
    have D := D.putq I6
    clear I6
    by_cases hR : R = 0
    · have hl : ¬ ((lp : Int) > 0) := by have := hlr.2 hR; omega
      rw [← (unhide HR).1 hR] at D
      clear hlr HR hR K9 K10
      have s0 := D.2.2.1.c0; have s1 := D.2.2.1.c1; have s2 := D.2.1.c2
      have DD := hide D
      clear D
      go_wp2_with fail
      refine (unhide K11 _ _ (unhide DD).2.2.2.1).mono ?_
      rintro e w9 ⟨v, rfl, ⟨n9, a9, c9, L9, rfl, i9⟩, hb⟩
      have I9 := hide (show IsDy w9 (.agg #[.bool n9, .slice a9 L9.length c9, .int .i64 X2]) M2 X2 from ⟨n9, a9, c9, L9, rfl, i9⟩)
      have B9 := hide ((unhide DD).1.trans (hb.mono (unhide DD).1.size))
      clear hb i9 DD s0 s1 s2 K11
      generalize L9.length = l9 at *
      go_wp2_with fail
      refine (unhide K12 _ _ (unhide I9)).mono ?_
      rintro e w10 ⟨rfl, hb⟩
      have B10 := hide ((unhide B9).trans (hb.mono (unhide B9).size))
      clear hb I9 B9 K12
      go_wp2
      exact bodyPost_ret (v := .tuple #[.int .u64 o, .int .u8 fl]) (by simp [results, Tryd.results13, go_sem]) rfl ⟨rfl, unhide B10⟩
    · have hl : ((lp : Int) > 0) := by
        have : lp ≠ 0 := fun e => hR (hlr.1 e)
        omega
      have hS := hide ((unhide HR).2 hR)
      clear hlr HR hR
      go_wp2_with fail
      have D := D.below ((Below.refl _ _).drew)
      have g0 := D.2.2.1.c0; have g1 := D.2.2.1.c1
      go_region_with (first | (go_at_call 38; refine (unhide K9 _).mono ?_; rintro e w7 ⟨v, rfl, ⟨n7, a7, c7, L7, rfl, i7⟩, hb⟩; have I7 : IsNum 0 w7 (.agg #[.bool n7, .slice a7 L7.length c7]) 1 := ⟨n7, a7, c7, L7, rfl, i7⟩; have D := D.below hb; clear i7 hb; generalize L7.length = l7 at *; clear q0 q1 f0 f1 r0 r1 g0 g1; have q0 := D.2.2.1.c0; have q1 := D.2.2.1.c1; have f0 := D.2.2.1.free 0; have f1 := D.2.2.1.free 1; have r0 := D.2.2.2.2.1.c0; have r1 := D.2.2.2.2.1.c1; have g0 := q0; have g1 := q1) | (go_at_call 37; refine (unhide K10 _ _ _ D.2.2.2.1 I7).mono ?_; rintro e w8 ⟨v, rfl, ⟨n8, a8, c8, L8, rfl, i8⟩, hb⟩; have I8 : IsNum 0 w8 (.agg #[.bool n8, .slice a8 L8.length c8]) (2 * Q + 1 : Nat) := ⟨n8, a8, c8, L8, rfl, i8⟩; have D := D.below hb; clear i8 hb I7; generalize L8.length = l8 at *; clear q0 q1 f0 f1 r0 r1 g0 g1; have q0 := D.2.2.1.c0; have q1 := D.2.2.1.c1; have f0 := D.2.2.1.free 0; have f1 := D.2.2.1.free 1; have r0 := D.2.2.2.2.1.c0; have r1 := D.2.2.2.2.1.c1; have D := D.putq I8; clear I8))
      all_goals
        rw [← unhide hS] at D
        clear hS K9 K10
        have s0 := D.2.2.1.c0; have s1 := D.2.2.1.c1; have s2 := D.2.1.c2
        have DD := hide D
        clear D q0 q1 f0 f1 r0
        go_wp2_with fail
        refine (unhide K11 _ _ (unhide DD).2.2.2.1).mono ?_
        rintro e w9 ⟨v, rfl, ⟨n9, a9, c9, L9, rfl, i9⟩, hb⟩
        have I9 := hide (show IsDy w9 (.agg #[.bool n9, .slice a9 L9.length c9, .int .i64 X2]) M2 X2 from ⟨n9, a9, c9, L9, rfl, i9⟩)
        have B9 := hide ((unhide DD).1.trans (hb.mono (unhide DD).1.size))
        clear hb i9 DD s0 s1 s2 K11
        generalize L9.length = l9 at *
        go_wp2_with fail
        refine (unhide K12 _ _ (unhide I9)).mono ?_
        rintro e w10 ⟨rfl, hb⟩
        have B10 := hide ((unhide B9).trans (hb.mono (unhide B9).size))
        clear hb I9 B9 K12
        go_wp2
        exact bodyPost_ret (v := .tuple #[.int .u64 o, .int .u8 fl]) (by simp [results, Tryd.results13, go_sem]) rfl ⟨rfl, unhide B10⟩

set_option maxRecDepth 20000 in
set_option maxHeartbeats 8000000 in
theorem rsqrt7_o (a N Q S o : Nat) (k m X q R E M2 X2 fl : Int) (w : World) (h4 : (k == 4) = false) (h0 : (k == 0) = false) (hI : ((a : Int) == 9218868437227405312) = false) (hX : (X.tmod 2 == 0) = false)
    (bX : -2000 ≤ X ∧ X ≤ 2000) (hq : Int.tdiv (X - 241) 2 = q) (bq : -2000 ≤ q ∧ q ≤ 2000) (hE : E = q - 1) (hR : (R = 0 → S = 2 * Q) ∧ (R ≠ 0 → S = 2 * Q + 1))
    (C1 : ∀ w', Calls Tryd.prog 23 #[.int .u64 a] w' fun e w'' => e = .returned (.int .i64 k) ∧ w' = w'')
    (C2 : ∀ w', Calls Tryd.prog 20 #[.int .u64 a] w' fun e w'' => e = .returned (.bool false) ∧ w' = w'')
    (C3 : ∀ w', Calls Tryd.prog 24 #[.int .u64 a] w' fun e w'' => ∃ u, e = .returned u ∧ IsDy w'' u m X ∧ Below w'.heap.size w' w'')
    (C4 : ∀ w' v, IsNum 0 w' v m → Calls Tryd.prog 32 #[v, .int .i64 241] w' fun e w'' => ∃ r, e = .returned r ∧ IsNum 0 w'' r (N : Nat) ∧ Below w'.heap.size w' w'')
    (C5 : ∀ w' v, IsNum 0 w' v (N : Nat) → Calls Tryd.prog 33 #[v] w' fun e w'' => ∃ r, e = .returned r ∧ IsNum 0 w'' r (Q : Nat) ∧ Below w'.heap.size w' w'')
    (C6 : ∀ w' v, IsNum 0 w' v (Q : Nat) → Calls Tryd.prog 35 #[v, v] w' fun e w'' => ∃ r, e = .returned r ∧ IsNum 0 w'' r ((Q : Int) * (Q : Int)) ∧ Below w'.heap.size w' w'')
    (C7 : ∀ w' v u, IsNum 0 w' v (N : Nat) → IsNum 0 w' u ((Q : Int) * (Q : Int)) → Calls Tryd.prog 34 #[v, u] w' fun e w'' => ∃ r, e = .returned r ∧ IsNum 0 w'' r R ∧ Below w'.heap.size w' w'')
    (C8 : ∀ w' v, IsNum 0 w' v (Q : Nat) → Calls Tryd.prog 36 #[v] w' fun e w'' => ∃ r, e = .returned r ∧ IsNum 0 w'' r (2 * Q : Nat) ∧ Below w'.heap.size w' w'')
    (C9 : ∀ w', Calls Tryd.prog 38 #[.int .i64 1] w' fun e w'' => ∃ r, e = .returned r ∧ IsNum 0 w'' r 1 ∧ Below w'.heap.size w' w'')
    (C10 : ∀ w' v u, IsNum 0 w' v (2 * Q : Nat) → IsNum 0 w' u 1 → Calls Tryd.prog 37 #[v, u] w' fun e w'' => ∃ r, e = .returned r ∧ IsNum 0 w'' r (2 * Q + 1 : Nat) ∧ Below w'.heap.size w' w'')
    (C11 : ∀ w' v, IsNum 0 w' v (S : Nat) → Calls Tryd.prog 40 #[v, .int .i64 E] w' fun e w'' => ∃ u, e = .returned u ∧ IsDy w'' u M2 X2 ∧ Below w'.heap.size w' w'')
    (C12 : ∀ w' v, IsDy w' v M2 X2 → Calls Tryd.prog 39 #[v] w' fun e w'' => e = .returned (.tuple #[.int .u64 (o : Nat), .int .u8 fl]) ∧ Below w'.heap.size w' w'') :
    Calls Tryd.prog 13 #[.int .u64 a] w fun e w' => e = .returned (.tuple #[.int .u64 (o : Nat), .int .u8 fl]) ∧ Below w.heap.size w w' := by
  have K1 := hide C1; have K2 := hide C2; have K3 := hide C3; have K4 := hide C4; have K5 := hide C5; have K6 := hide C6; have K7 := hide C7; have K8 := hide C8; have K9 := hide C9; have K10 := hide C10; have K11 := hide C11; have K12 := hide C12; have HR := hide hR
  clear C1 C2 C3 C4 C5 C6 C7 C8 C9 C10 C11 C12 hR
  have e1 := wrap_small (X - 241) (by omega)
  have e2 := wrap_small (q - 1) (by omega)
  have bq1 := bq.1; have bq2 := bq.2
  have bX1 := bX.1; have bX2 := bX.2
  subst hE
  go_enter Tryd.func13, Tryd.ntmps13
  go_wp2_with fail
  refine (unhide K1 _).mono ?_
  rintro e wk ⟨rfl, rfl⟩
  go_wp2_with fail
  refine (unhide K1 _).mono ?_
  rintro e wk ⟨rfl, rfl⟩
  go_wp2_with fail
  refine (unhide K2 _).mono ?_
  rintro e wk ⟨rfl, rfl⟩
  clear K1 K2
  go_wp2_with fail
  refine (unhide K3 _).mono ?_
  rintro e w1 ⟨v, rfl, ⟨n1, a1, d1, L1, rfl, i1⟩, hb⟩
  have hba : Below w1.heap.size w1 (w1.alloc (.cells #[.bool n1, .slice a1 L1.length d1, .int .i64 X] 46)) := (Below.refl _ _).alloc (Nat.le_refl _) _
  have H1 := hide (i1.below hba)
  have x1 := Box3.new w1 (.bool n1) (.slice a1 L1.length d1) (.int .i64 X)
  have B1 := hide (hb.trans (hba.mono hb.size))
  have y0 := x1.c0; have y1 := x1.c1; have y2 := x1.c2
  have XD := hide x1
  clear hb hba i1 K3 x1
  generalize L1.length = l1 at *
  go_wp2_with fail
  refine (unhide K4 _ _ (unhide H1)).mono ?_
  rintro e w2 ⟨v, rfl, ⟨n2, a2, d2, L2, rfl, i2⟩, hb⟩
  have hba : Below w2.heap.size w2 (w2.alloc (.cells #[.bool n2, .slice a2 L2.length d2] 44)) := (Below.refl _ _).alloc (Nat.le_refl _) _
  have H2 := hide ((show IsNum 0 w2 (.agg #[.bool n2, .slice a2 L2.length d2]) (N : Nat) from ⟨n2, a2, d2, L2, rfl, i2⟩).below hba)
  have x2 := Box2.new w2 (.bool n2) (.slice a2 L2.length d2)
  have hg1 := ((unhide XD).all hb).lt
  have B2 := hide ((unhide B1).trans ((hb.trans (hba.mono hb.size)).mono (unhide B1).size))
  have XD2 := hide (((unhide XD).all hb).all hba)
  clear y0 y1 y2
  have y0 := x2.c0; have y1 := x2.c1
  have XM := hide x2
  clear hb hba i2 K4 x2 XD H1 B1
  generalize L2.length = l2 at *
  go_wp2_with fail
  refine (unhide K5 _ _ (unhide H2)).mono ?_
  rintro e w3 ⟨v, rfl, ⟨n3, a3, d3, L3, rfl, i3⟩, hb⟩
  have hba : Below w3.heap.size w3 (w3.alloc (.cells #[.bool n3, .slice a3 L3.length d3] 44)) := (Below.refl _ _).alloc (Nat.le_refl _) _
  have H3 := hide ((show IsNum 0 w3 (.agg #[.bool n3, .slice a3 L3.length d3]) (Q : Nat) from ⟨n3, a3, d3, L3, rfl, i3⟩).below hba)
  have x3 := Box2.new w3 (.bool n3) (.slice a3 L3.length d3)
  have hg2 := ((unhide XM).all hb).lt
  have hg3 := (unhide B2).size
  have hg4 := hb.size
  have B3 := hide ((unhide B2).trans ((hb.trans (hba.mono hb.size)).mono (unhide B2).size))
  have XD3 := hide (((unhide XD2).all hb).all hba)
  have XM3 := hide (((unhide XM).all hb).all hba)
  have H23 := hide (((unhide H2).below hb).below hba)
  have XQ := hide x3
  have hw : w.heap.size ≤ w3.heap.size := Nat.le_trans hg3 hg4
  clear y0 y1 hb hba i3 K5 x3 XD2 XM H2 B2 hg3 hg4
  go_wp2_with fail
  refine at_world (fun W => Below w.heap.size w W ∧ Box3 W w1.heap.size (.bool n1) (.slice a1 l1 d1) (.int .i64 X) ∧ Box2 W w2.heap.size (.bool n2) (.slice a2 l2 d2) ∧ Box2 W w3.heap.size (.bool n3) (.slice a3 L3.length d3) ∧ IsNum 0 W (.agg #[.bool n2, .slice a2 l2 d2]) (N : Nat) ∧ IsNum 0 W (.agg #[.bool n3, .slice a3 L3.length d3]) (Q : Nat)) ⟨unhide B3, unhide XD3, unhide XM3, unhide XQ, unhide H23, unhide H3⟩ ?_
  clear B3 XD3 XM3 XQ H23 H3
  rintro W0 ⟨b0, xd, xm, xq, im, iq⟩
  generalize w1.heap.size = gd at *
  generalize w2.heap.size = gm at *
  generalize w3.heap.size = gq at *
  generalize L3.length = l3 at *
  have hqW := xq.lt
  have HK := hide (fun w' (h : Below W0.heap.size W0 w') => (show Below W0.heap.size W0 w' ∧ w'.cell? ⟨gm, 0, none⟩ = some (.bool n2) ∧ w'.cell? ⟨gm, 1, none⟩ = some (.slice a2 l2 d2) ∧ w'.cell? ⟨gq, 0, none⟩ = some (.bool n3) ∧ w'.cell? ⟨gq, 1, none⟩ = some (.slice a3 l3 d3) from ⟨h, (xm.all h).c0, (xm.all h).c1, (xq.all h).c0, (xq.all h).c1⟩))
  have CM := hide (fun w' (h : Below W0.heap.size W0 w') => unhide K6 w' _ (iq.below h))
  have CB := hide (fun w' v (h : Below W0.heap.size W0 w') (hv : IsNum 0 w' v ((Q : Int) * (Q : Int))) => unhide K7 w' _ v (im.below h) hv)
  have HT := hide (fun (W : World) (g : Nat) {np : Bool} {ap : Option Addr} {Lp cp : Nat} (h1 : Below W0.heap.size W0 W) (h3 : Box2 W g (.bool np) (.slice ap Lp cp)) (h4 : IsNum 0 W (.agg #[.bool np, .slice ap Lp cp]) R) (h5 : W0.heap.size ≤ g) =>
    (show RestS w gd (.bool n1) (.slice a1 l1 d1) (.int .i64 X) gq n3 a3 l3 d3 Q np ap Lp cp R g W from ⟨b0.trans (h1.mono b0.size), xd.all h1, xq.all h1, iq.below h1, h3, h4, hw, by omega, Nat.lt_of_lt_of_le hqW h5⟩))
  clear b0 xd xm xq im iq K6 K7
  have HKA := hide (fun wn o (h1 : Below W0.heap.size W0 wn) => unhide HK (wn.alloc o) (h1.alloc h1.size o))
  have HKS := hide (fun wn g u u' (h1 : Below W0.heap.size W0 wn) (h4 : W0.heap.size ≤ g) => unhide HK ((wn.setCell ⟨g, 0, none⟩ u).setCell ⟨g, 1, none⟩ u') ((h1.setCell (p := ⟨g, 0, none⟩) h4 u).setCell (p := ⟨g, 1, none⟩) h4 u'))
  have BXA := hide (fun wn (h1 : Below (W0.drew.alloc (.cells #[.bool false, .slice none 0 0] 44)).heap.size (W0.drew.alloc (.cells #[.bool false, .slice none 0 0] 44)) wn) => (Box2.new W0.drew (.bool false) (.slice none 0 0)).below h1 (by simp))
  have BXB := hide (fun wn wm (h2 : Below (wn.alloc (.cells #[.bool false, .slice none 0 0] 44)).heap.size (wn.alloc (.cells #[.bool false, .slice none 0 0] 44)) wm) => (Box2.new wn (.bool false) (.slice none 0 0)).below h2 (by simp))
  go_region_held3 (fun w' => Below W0.heap.size W0 w' ∧ w'.cell? ⟨gm, 0, none⟩ = some (.bool n2) ∧ w'.cell? ⟨gm, 1, none⟩ = some (.slice a2 l2 d2) ∧ w'.cell? ⟨gq, 0, none⟩ = some (.bool n3) ∧ w'.cell? ⟨gq, 1, none⟩ = some (.slice a3 l3 d3))
    (first | assumption | exact unhide HK _ (Below.refl _ _).drew | exact unhide HK _ (by assumption) | exact unhide HKA _ _ (by assumption) | exact unhide HKA _ _ (And.left (by assumption)) | exact unhide HKS _ _ _ _ hBwm (by first | exact Nat.le_refl _ | exact Below.size (by assumption)) | fail "KK")
    (first | (go_at_call 35; refine (unhide CM _ (And.left (by assumption))).mono ?_; rintro e wd ⟨vd, rfl, id, hb1⟩; have hBwd : Below W0.heap.size W0 wd := Below.trans (And.left (by assumption)) (hb1.mono (Below.size (And.left (by assumption)))); (first | (have xb := Box2.below xb hb1 xb.lt) | (have xb : Box2 wd W0.heap.size (.bool false) (.slice none 0 0) := unhide BXA _ hb1) | (have xb := unhide BXB _ _ hb1) | skip); have ISH := hide id; clear id; clear hb1) | (go_at_call 34; refine (unhide CB _ _ (And.left (by assumption)) (by first | exact unhide ISH | exact (unhide ISH).below ((Below.refl _ _).alloc (Nat.le_refl _) _))).mono ?_; rintro e wm ⟨pv, rfl, ⟨np, ap, cp, Lp, rfl, ip⟩, hb1⟩; have hBwm : Below W0.heap.size W0 wm := Below.trans (And.left (by assumption)) (hb1.mono (Below.size (And.left (by assumption)))); (first | (have xb := Box2.below xb hb1 xb.lt) | (have xb : Box2 wm W0.heap.size (.bool false) (.slice none 0 0) := unhide BXA _ hb1) | (have xb := unhide BXB _ _ hb1) | skip); have IP := hide (show IsNum 0 wm (.agg #[.bool np, .slice ap Lp.length cp]) R from ⟨np, ap, cp, Lp, rfl, ip⟩); (first | (have y0 := xb.c0; have y1 := xb.c1; have f0 := xb.free 0; have f1 := xb.free 1) | skip); clear ip; clear hb1) | fail "NO ARM")
  all_goals
    first
      | (refine at_thenB (RestS _ _ _ _ _ _ _ _ _ _ _ _ _ _ _ _ W0.heap.size) (unhide HT _ _ (And.left (by assumption)) (xb.put _ _) ((unhide IP).set_box xb _ _) (by first | exact Nat.le_refl _ | exact Below.size (by assumption))) ?_; rintro W1 D; generalize W0.heap.size = g at *)
      | (refine at_thenB (RestS _ _ _ _ _ _ _ _ _ _ _ _ _ _ _ _ wd.heap.size) (unhide HT _ _ (And.left (by assumption)) (xb.put _ _) ((unhide IP).set_box xb _ _) (by first | exact Nat.le_refl _ | exact Below.size (by assumption))) ?_; rintro W1 D; generalize wd.heap.size = g at *)
      | (refine at_thenB (RestS _ _ _ _ _ _ _ _ _ _ _ _ _ _ _ _ wm.heap.size) (unhide HT _ _ (And.left (by assumption)) (Box2.new _ _ _) ((unhide IP).below ((Below.refl _ _).alloc (Nat.le_refl _) _)) (Below.size (by assumption))) ?_; rintro W1 D; generalize wm.heap.size = g at *)
      | fail "NO WAY"
  all_goals
    try clear y0 y1 f0 f1
    try clear xb
    clear HT HK HKA HKS BXA BXB CM CB IP ISH hBwd hBwm
    generalize Lp.length = lp at *
    have q0 := D.2.2.1.c0; have q1 := D.2.2.1.c1; have f0 := D.2.2.1.free 0; have f1 := D.2.2.1.free 1
    go_wp2_with fail
    refine (unhide K8 _ _ D.2.2.2.1).mono ?_
    rintro e w6 ⟨v, rfl, ⟨n6, a6, c6, L6, rfl, i6⟩, hb⟩
    have I6 : IsNum 0 w6 (.agg #[.bool n6, .slice a6 L6.length c6]) (2 * Q : Nat) := ⟨n6, a6, c6, L6, rfl, i6⟩
    have D := D.below hb
    clear i6 hb q0 q1 f0 f1 K8
    generalize L6.length = l6 at *
    have q0 := D.2.2.1.c0; have q1 := D.2.2.1.c1; have f0 := D.2.2.1.free 0; have f1 := D.2.2.1.free 1
    have r0 := D.2.2.2.2.1.c0; have r1 := D.2.2.2.2.1.c1
    have hlr := num_len D.2.2.2.2.2.1
    have gne : gq ≠ g := by have := D.2.2.2.2.2.2.2.2; omega
    have gne' : g ≠ gq := fun e => gne e.symm
    have D := D.putq I6
    clear I6
    by_cases hR : R = 0
    · have hl : ¬ ((lp : Int) > 0) := by have := hlr.2 hR; omega
      rw [← (unhide HR).1 hR] at D
      clear hlr HR hR K9 K10
      have s0 := D.2.2.1.c0; have s1 := D.2.2.1.c1; have s2 := D.2.1.c2
      have DD := hide D
      clear D
      go_wp2_with fail
      refine (unhide K11 _ _ (unhide DD).2.2.2.1).mono ?_
      rintro e w9 ⟨v, rfl, ⟨n9, a9, c9, L9, rfl, i9⟩, hb⟩
      have I9 := hide (show IsDy w9 (.agg #[.bool n9, .slice a9 L9.length c9, .int .i64 X2]) M2 X2 from ⟨n9, a9, c9, L9, rfl, i9⟩)
      have B9 := hide ((unhide DD).1.trans (hb.mono (unhide DD).1.size))
      clear hb i9 DD s0 s1 s2 K11
      generalize L9.length = l9 at *
      go_wp2_with fail
      refine (unhide K12 _ _ (unhide I9)).mono ?_
      rintro e w10 ⟨rfl, hb⟩
      have B10 := hide ((unhide B9).trans (hb.mono (unhide B9).size))
      clear hb I9 B9 K12
      go_wp2
      exact bodyPost_ret (v := .tuple #[.int .u64 o, .int .u8 fl]) (by simp [results, Tryd.results13, go_sem]) rfl ⟨rfl, unhide B10⟩
    · have hl : ((lp : Int) > 0) := by
        have : lp ≠ 0 := fun e => hR (hlr.1 e)
        omega
      have hS := hide ((unhide HR).2 hR)
      clear hlr HR hR
      go_wp2_with fail
      have D := D.below ((Below.refl _ _).drew)
      have g0 := D.2.2.1.c0; have g1 := D.2.2.1.c1
      go_region_with (first | (go_at_call 38; refine (unhide K9 _).mono ?_; rintro e w7 ⟨v, rfl, ⟨n7, a7, c7, L7, rfl, i7⟩, hb⟩; have I7 : IsNum 0 w7 (.agg #[.bool n7, .slice a7 L7.length c7]) 1 := ⟨n7, a7, c7, L7, rfl, i7⟩; have D := D.below hb; clear i7 hb; generalize L7.length = l7 at *; clear q0 q1 f0 f1 r0 r1 g0 g1; have q0 := D.2.2.1.c0; have q1 := D.2.2.1.c1; have f0 := D.2.2.1.free 0; have f1 := D.2.2.1.free 1; have r0 := D.2.2.2.2.1.c0; have r1 := D.2.2.2.2.1.c1; have g0 := q0; have g1 := q1) | (go_at_call 37; refine (unhide K10 _ _ _ D.2.2.2.1 I7).mono ?_; rintro e w8 ⟨v, rfl, ⟨n8, a8, c8, L8, rfl, i8⟩, hb⟩; have I8 : IsNum 0 w8 (.agg #[.bool n8, .slice a8 L8.length c8]) (2 * Q + 1 : Nat) := ⟨n8, a8, c8, L8, rfl, i8⟩; have D := D.below hb; clear i8 hb I7; generalize L8.length = l8 at *; clear q0 q1 f0 f1 r0 r1 g0 g1; have q0 := D.2.2.1.c0; have q1 := D.2.2.1.c1; have f0 := D.2.2.1.free 0; have f1 := D.2.2.1.free 1; have r0 := D.2.2.2.2.1.c0; have r1 := D.2.2.2.2.1.c1; have D := D.putq I8; clear I8))
      all_goals
        rw [← unhide hS] at D
        clear hS K9 K10
        have s0 := D.2.2.1.c0; have s1 := D.2.2.1.c1; have s2 := D.2.1.c2
        have DD := hide D
        clear D q0 q1 f0 f1 r0
        go_wp2_with fail
        refine (unhide K11 _ _ (unhide DD).2.2.2.1).mono ?_
        rintro e w9 ⟨v, rfl, ⟨n9, a9, c9, L9, rfl, i9⟩, hb⟩
        have I9 := hide (show IsDy w9 (.agg #[.bool n9, .slice a9 L9.length c9, .int .i64 X2]) M2 X2 from ⟨n9, a9, c9, L9, rfl, i9⟩)
        have B9 := hide ((unhide DD).1.trans (hb.mono (unhide DD).1.size))
        clear hb i9 DD s0 s1 s2 K11
        generalize L9.length = l9 at *
        go_wp2_with fail
        refine (unhide K12 _ _ (unhide I9)).mono ?_
        rintro e w10 ⟨rfl, hb⟩
        have B10 := hide ((unhide B9).trans (hb.mono (unhide B9).size))
        clear hb I9 B9 K12
        go_wp2
        exact bodyPost_ret (v := .tuple #[.int .u64 o, .int .u8 fl]) (by simp [results, Tryd.results13, go_sem]) rfl ⟨rfl, unhide B10⟩

end Go.Proofs.YtgegjhkiiejhlaaDoor

/- Contracts of package root: next, reckon, Whole. -/
namespace Go.Proofs.YtgegjhkiiejhlaaDoor
open Go.RowKit

/-- Block b is a root as far as it is reckoned. -/
def BoxP (w : World) (b : Nat) (x y : Value) : Prop := w.heap[b]? = some (.cells #[x, y] 52 (0, 0))
theorem BoxP.c0 {w : World} {b : Nat} {x y : Value} (h : BoxP w b x y) : w.cell? ⟨b, 0, none⟩ = some x := by rw [cell_of_row w b 0 _ _ _ h]; rfl
theorem BoxP.c1 {w : World} {b : Nat} {x y : Value} (h : BoxP w b x y) : w.cell? ⟨b, 1, none⟩ = some y := by rw [cell_of_row w b 1 _ _ _ h]; rfl
theorem BoxP.free {w : World} {b : Nat} {x y : Value} (h : BoxP w b x y) (j : Nat) : w.frozen? ⟨b, j, none⟩ = false := frozen_of_row w b j _ _ h
theorem BoxP.lt {w : World} {b : Nat} {x y : Value} (h : BoxP w b x y) : b < w.heap.size := (Array.getElem?_eq_some_iff.1 h).1
theorem BoxP.all {w w' : World} {b : Nat} {x y : Value} (h : BoxP w b x y) (hb : Below w.heap.size w w') : BoxP w' b x y := (hb.block b h.lt).trans h
theorem BoxP.new (w : World) (x y : Value) : BoxP (w.alloc (.cells #[x, y] 52)) w.heap.size x y := heap_alloc_new w _

theorem or_pair (s p : Nat) (hs : s < 144115188075855872) (hp : p < 4) : bits BinOp.or IntKind.u64 ((s : Int) * 4) (p : Int) = ((4 * s + p : Nat) : Int) := by
  have e : (s : Int) * 4 = ((s * 2 ^ 2 : Nat) : Int) := by omega
  rw [e, u64_or_nat (s * 2 ^ 2) p (by omega) (by omega), Nat.or_comm, or_above p s 2 (by omega)]
  congr 1
  omega
theorem or_one (x : Nat) (h : x < 144115188075855872) : bits BinOp.or IntKind.u64 ((x : Int) * 2) 1 = ((2 * x + 1 : Nat) : Int) := by
  have e : (x : Int) * 2 = ((x * 2 ^ 1 : Nat) : Int) := by omega
  rw [e]
  refine (u64_or_nat (x * 2 ^ 1) 1 (by omega) (by omega)).trans ?_
  rw [Nat.or_comm, or_above 1 x 1 (by omega)]
  congr 1
  omega

theorem BoxP.put {w : World} {b : Nat} {x y : Value} (h : BoxP w b x y) (u u' : Value) : BoxP ((w.setCell ⟨b, 0, none⟩ u).setCell ⟨b, 1, none⟩ u') b u u' := by
  have h1 := heap_setCell_same w b 0 _ _ u h
  have h2 := heap_setCell_same (w.setCell ⟨b, 0, none⟩ u) b 1 _ _ u' h1
  unfold BoxP
  rw [h2]
  simp
theorem BoxP.oth {w : World} {b g : Nat} {x y : Value} (h : BoxP w b x y) (hne : b ≠ g) (u u' : Value) : BoxP ((w.setCell ⟨g, 0, none⟩ u).setCell ⟨g, 1, none⟩ u') b x y :=
  (Below.heap_setCell _ ⟨g, 1, none⟩ u' b hne).trans ((Below.heap_setCell w ⟨g, 0, none⟩ u b hne).trans h)
theorem below_putP {B g : Nat} {a w : World} (h : Below B a w) (hg : B ≤ g) (u u' : Value) : Below B a ((w.setCell ⟨g, 0, none⟩ u).setCell ⟨g, 1, none⟩ u') := (h.setCell hg u).setCell hg u'

set_option maxRecDepth 20000 in
set_option maxHeartbeats 4000000 in
theorem pnext_n (r s p x y z : Nat) (w : World) (hr : r < 18014398509481984) (hs : s ≤ 2 * r) (hc : (x : Int) < (y : Int))
    (o1 : bits BinOp.or IntKind.u64 ((s : Int) * 4) (p : Int) = (x : Int)) (o2 : bits BinOp.or IntKind.u64 ((r : Int) * 2 * 2) 1 = (y : Int)) (hz : (r : Int) * 2 = (z : Int)) :
    Calls Tryd.prog 51 #[.agg #[.int .u64 r, .int .u64 s], .int .u64 p] w fun e w' => e = .returned (.agg #[.int .u64 (z : Nat), .int .u64 (x : Nat)]) ∧ Below w.heap.size w w' := by
  have hc' := decide_eq_true hc
  have HZ := hide hz
  clear hz
  go_enter Tryd.func51, Tryd.ntmps51
  go_wp2
  go_quiet (fail)
  go_wp2
  rw [unhide HZ]
  refine bodyPost_ret (v := .agg #[.int .u64 (z : Nat), .int .u64 (x : Nat)]) (by simp [results, Tryd.results51, go_sem]) rfl ⟨rfl, ?_⟩
  exact (((below_drewN (((Below.refl _ _).alloc (Nat.le_refl _) _).alloc (by simp) _) _).setCell (by simp) _).setCell (by simp) _)

set_option maxRecDepth 20000 in
set_option maxHeartbeats 4000000 in
theorem pnext_m (r s p x y z d : Nat) (w : World) (hr : r < 18014398509481984) (hs : s ≤ 2 * r) (hc : ¬ (x : Int) < (y : Int)) (hd : (x : Int) - (y : Int) = (d : Int))
    (o1 : bits BinOp.or IntKind.u64 ((s : Int) * 4) (p : Int) = (x : Int)) (o2 : bits BinOp.or IntKind.u64 ((r : Int) * 2 * 2) 1 = (y : Int)) (o3 : bits BinOp.or IntKind.u64 ((r : Int) * 2) 1 = (z : Int)) (hx : x < 18446744073709551616) :
    Calls Tryd.prog 51 #[.agg #[.int .u64 r, .int .u64 s], .int .u64 p] w fun e w' => e = .returned (.agg #[.int .u64 (z : Nat), .int .u64 (d : Nat)]) ∧ Below w.heap.size w w' := by
  have hc' := decide_eq_false hc
  have HD := hide hd
  clear hd
  go_enter Tryd.func51, Tryd.ntmps51
  go_wp2
  go_quiet (fail)
  go_wp2
  rw [unhide HD]
  refine bodyPost_ret (v := .agg #[.int .u64 (z : Nat), .int .u64 (d : Nat)]) (by simp [results, Tryd.results51, go_sem]) rfl ⟨rfl, ?_⟩
  exact (((below_drewN (((Below.refl _ _).alloc (Nat.le_refl _) _).alloc (by simp) _) _).setCell (by simp) _).setCell (by simp) _)

end Go.Proofs.YtgegjhkiiejhlaaDoor

