/- Part 27 of the texts. -/
import Derived.Test.YtfnnbkclnflpfaaGreatDoorPartR26
import Derived.Test.YtfnnbkclnflpfaaGreatDoorPartR03
import Derived.Deep.CutRange
/- Package certify: Gradient by letters. -/
namespace Go.Proofs.YtfnnbkclnflpfaaGreatDoor
open Go.RowKit
attribute [local go_sem ↓] Go.wp_at_zero Go.wp_at_succ

/-- Behind Gradient's first region: the answer's box, the factor's, the rest's. -/
def GdSt (w : World) (r n c rn rc fd gf : Nat) (fo : Option Addr) (lo lo1 : Int) (FA FL : Nat → Nat → Int) (ro : Option Addr) (rd g3 : Nat) (g : Nat) (W : World) : Prop :=
  Below w.heap.size w W ∧ Box3 W g3 (.bool false) (.slice none 0 0) (.int .i64 0) ∧ BoxT 61 W gf (.int .i64 r) (.int .i64 n) (.slice fo rn fd) ∧ Gr W fo fd r n lo FA ∧ BoxT 61 W g (.int .i64 r) (.int .i64 c) (.slice ro rc rd) ∧ Gr W ro rd r c lo1 FL ∧ g3 < gf ∧ g3 < g

set_option maxRecDepth 20000 in
set_option maxHeartbeats 16000000 in
theorem cGrad_of (r n c na nx nb ca cx cb : Nat) (ao xo bo : Option Addr) (lo lo1 lo2 lo3 z : Int) (FA FX FB FT FL FP : Nat → Nat → Int) (w : World)
    (C0 : ∀ w', Below w.heap.size w w' → Calls Tryz.prog 52 #[.agg #[.int .i64 r, .int .i64 c, .slice bo nb cb], .agg #[.int .i64 r, .int .i64 n, .slice ao na ca], .agg #[.int .i64 n, .int .i64 c, .slice xo nx cx]] w' fun e w'' => e = .returned (.int .i64 0) ∧ Below w'.heap.size w' w'')
    (C1 : ∀ w', Below w.heap.size w w' → Calls Tryz.prog 34 #[.agg #[.int .i64 r, .int .i64 n, .slice ao na ca]] w' fun e w'' => ∃ go q, e = .returned (.agg #[.int .i64 r, .int .i64 n, .slice go (r * n) q]) ∧ Gr w'' go q r n lo FA ∧ Below w'.heap.size w' w'')
    (C2 : ∀ w', Below w.heap.size w w' → Calls Tryz.prog 34 #[.agg #[.int .i64 n, .int .i64 c, .slice xo nx cx]] w' fun e w'' => ∃ go q, e = .returned (.agg #[.int .i64 n, .int .i64 c, .slice go (n * c) q]) ∧ Gr w'' go q n c lo FX ∧ Below w'.heap.size w' w'')
    (C3 : ∀ w' ko kd yo yd, Below w.heap.size w w' → Gr w' ko kd r n lo FA → Gr w' yo yd n c lo FX → Calls Tryz.prog 37 #[.agg #[.int .i64 r, .int .i64 n, .slice ko (r * n) kd], .agg #[.int .i64 n, .int .i64 c, .slice yo (n * c) yd]] w' fun e w'' => ∃ go q, e = .returned (.agg #[.int .i64 r, .int .i64 c, .slice go (r * c) q]) ∧ Gr w'' go q r c lo1 FT ∧ Below w'.heap.size w' w'')
    (C4 : ∀ w', Below w.heap.size w w' → Calls Tryz.prog 34 #[.agg #[.int .i64 r, .int .i64 c, .slice bo nb cb]] w' fun e w'' => ∃ go q, e = .returned (.agg #[.int .i64 r, .int .i64 c, .slice go (r * c) q]) ∧ Gr w'' go q r c lo FB ∧ Below w'.heap.size w' w'')
    (C5 : ∀ w' ko kd yo yd, Below w.heap.size w w' → Gr w' ko kd r c lo1 FT → Gr w' yo yd r c lo FB → Calls Tryz.prog 36 #[.agg #[.int .i64 r, .int .i64 c, .slice ko (r * c) kd], .agg #[.int .i64 r, .int .i64 c, .slice yo (r * c) yd]] w' fun e w'' => ∃ go q, e = .returned (.agg #[.int .i64 r, .int .i64 c, .slice go (r * c) q]) ∧ Gr w'' go q r c lo1 FL ∧ Below w'.heap.size w' w'')
    (C6 : ∀ w' ko kd, Gr w' ko kd r n lo FA → Below w.heap.size w w' → Calls Tryz.prog 38 #[.agg #[.int .i64 r, .int .i64 n, .slice ko (r * n) kd]] w' fun e w'' => ∃ go q, e = .returned (.agg #[.int .i64 n, .int .i64 r, .slice go (n * r) q]) ∧ Gr w'' go q n r lo (fun i k => FA k i) ∧ Below w'.heap.size w' w'')
    (C7 : ∀ w' ko kd yo yd, Below w.heap.size w w' → Gr w' ko kd n r lo (fun i k => FA k i) → Gr w' yo yd r c lo1 FL → Calls Tryz.prog 37 #[.agg #[.int .i64 n, .int .i64 r, .slice ko (n * r) kd], .agg #[.int .i64 r, .int .i64 c, .slice yo (r * c) yd]] w' fun e w'' => ∃ go q, e = .returned (.agg #[.int .i64 n, .int .i64 c, .slice go (n * c) q]) ∧ Gr w'' go q n c lo2 FP ∧ Below w'.heap.size w' w'')
    (C8 : ∀ w' ko kd, Below w.heap.size w w' → Gr w' ko kd n c lo2 FP → Calls Tryz.prog 33 #[.agg #[.int .i64 n, .int .i64 c, .slice ko (n * c) kd]] w' fun e w'' => ∃ v, e = .returned v ∧ IsLv w'' v lo3 z ∧ Below w'.heap.size w' w'') :
    Calls Tryz.prog 18 #[.agg #[.int .i64 r, .int .i64 n, .slice ao na ca], .agg #[.int .i64 n, .int .i64 c, .slice xo nx cx], .agg #[.int .i64 r, .int .i64 c, .slice bo nb cb]] w fun e w' => ∃ v, e = .returned (.tuple #[v, .int .i64 0]) ∧ IsLv w' v lo3 z ∧ Below w.heap.size w w' := by
  have K0 := hide C0; have ST := hide (Bx3D.start w r n n c r c ao xo bo na nx nb ca cx cb)
  have H1 := hide C1; have H2 := hide C2; have H3 := hide C3; have H4 := hide C4; have H5 := hide C5; have H6 := hide C6; have H7 := hide C7; have H8 := hide C8
  have y0 := (unhide ST).1.c0; have y1 := (unhide ST).1.c1; have y2 := (unhide ST).1.c2
  have u0 := (unhide ST).2.1.c0; have u1 := (unhide ST).2.1.c1; have u2 := (unhide ST).2.1.c2
  have v0 := (unhide ST).2.2.1.c0; have v1 := (unhide ST).2.2.1.c1; have v2 := (unhide ST).2.2.1.c2
  clear C0 C1 C2 C3 C4 C5 C6 C7 C8
  generalize r * c = rc at *
  generalize r * n = rn at *
  generalize n * c = nn at *
  generalize n * r = nr at *
  go_enter Tryz.func18, Tryz.ntmps18
  go_wp2_with fail
  refine (unhide K0 _ (unhide ST).2.2.2.2).mono ?_
  rintro e w1 ⟨rfl, hb1⟩
  replace ST := hide ((unhide ST).all hb1)
  clear y0 y1 y2 u0 u1 u2 v0 v1 v2 K0 hb1
  have y0 := (unhide ST).1.c0; have y1 := (unhide ST).1.c1; have y2 := (unhide ST).1.c2
  go_wp2_with fail
  refine (unhide H1 _ (unhide ST).2.2.2.2).mono ?_
  rintro e w2 ⟨fo, fd, rfl, hq, hb1⟩
  have ba := below_alloc9 w2 (.cells #[.int .i64 r, .int .i64 n, .slice fo rn fd] 61)
  have hbb := hb1.trans (ba.mono hb1.size)
  have GC := hide ((unhide ST).all hb1).2.2.2.1.lt
  replace ST := hide ((unhide ST).all hbb)
  have QF := hide (hq.below ba); have XF := hide (BoxT.new 61 w2 (.int .i64 r) (.int .i64 n) (.slice fo rn fd))
  clear hb1 hbb ba H1 hq y0 y1 y2
  go_wp2_with fail
  refine at_world (fun W => Bx3D w W r n n c r c ao xo bo na nx nb ca cx cb ∧ Gr W fo fd r n lo FA ∧ BoxT 61 W w2.heap.size (.int .i64 r) (.int .i64 n) (.slice fo rn fd)) ⟨unhide ST, unhide QF, unhide XF⟩ ?_
  clear ST QF XF
  rintro W0 ⟨⟨_, x2, x3, x4, b0⟩, qf, xf⟩
  generalize w2.heap.size = gf at *
  obtain ⟨g1, e1⟩ : ∃ g1, g1 = w.heap.size + 1 := ⟨_, rfl⟩
  obtain ⟨g2, e2⟩ : ∃ g2, g2 = w.heap.size + 1 + 1 := ⟨_, rfl⟩
  obtain ⟨g3, e3⟩ : ∃ g3, g3 = w.heap.size + 1 + 1 + 1 := ⟨_, rfl⟩
  rw [← e3] at x4 GC ⊢
  rw [← e2] at x3 ⊢
  rw [← e1] at x2 ⊢
  have l0 := hide (show w.heap.size ≤ g3 by omega)
  clear e1 e2 e3
  have D0 := (Below.refl W0.heap.size W0).drew
  have HK := hide (show ∀ w' (h : Below W0.heap.size W0 w'), Below W0.heap.size W0 w' ∧ w'.cell? ⟨gf, 0, none⟩ = some (.int .i64 r) ∧ w'.cell? ⟨gf, 1, none⟩ = some (.int .i64 n) ∧ w'.cell? ⟨gf, 2, none⟩ = some (.slice fo rn fd) ∧ w'.cell? ⟨g1, 0, none⟩ = some (.int .i64 n) ∧ w'.cell? ⟨g1, 1, none⟩ = some (.int .i64 c) ∧ w'.cell? ⟨g1, 2, none⟩ = some (.slice xo nx cx) ∧ w'.cell? ⟨g2, 0, none⟩ = some (.int .i64 r) ∧ w'.cell? ⟨g2, 1, none⟩ = some (.int .i64 c) ∧ w'.cell? ⟨g2, 2, none⟩ = some (.slice bo nb cb) from fun w' h =>
    ⟨h, (xf.all h).c0, (xf.all h).c1, (xf.all h).c2, (x2.all h).c0, (x2.all h).c1, (x2.all h).c2, (x3.all h).c0, (x3.all h).c1, (x3.all h).c2⟩)
  have BW := hide (fun w' (h : Below W0.heap.size W0 w') => b0.trans (h.mono b0.size))
  have HT := hide (fun (W : World) (g : Nat) {ro : Option Addr} {rd : Nat} (h1 : Below W0.heap.size W0 W) (h3 : BoxT 61 W g (.int .i64 r) (.int .i64 c) (.slice ro rc rd)) (h4 : Gr W ro rd r c lo1 FL) (h5 : W0.heap.size ≤ g) =>
    (show GdSt w r n c rn rc fd gf fo lo lo1 FA FL ro rd g3 g W from ⟨b0.trans (h1.mono b0.size), x4.all h1, xf.all h1, qf.below h1, h3, h4, unhide GC, Nat.lt_of_lt_of_le x4.lt h5⟩))
  have HKA := hide (fun wn o (h1 : Below W0.heap.size W0 wn) => unhide HK (wn.alloc o) (h1.alloc h1.size o))
  have HKS := hide (fun wn g u u' u'' (h1 : Below W0.heap.size W0 wn) (h4 : W0.heap.size ≤ g) => unhide HK (((wn.setCell ⟨g, 0, none⟩ u).setCell ⟨g, 1, none⟩ u').setCell ⟨g, 2, none⟩ u'') (below_put3 h1 h4 u u' u''))
  have BXA := hide (fun wn (h1 : Below (W0.drew.alloc (.cells #[.int .i64 0, .int .i64 0, .slice none 0 0] 61)).heap.size (W0.drew.alloc (.cells #[.int .i64 0, .int .i64 0, .slice none 0 0] 61)) wn) => (BoxT.new 61 W0.drew (.int .i64 0) (.int .i64 0) (.slice none 0 0)).below h1 (by simp))
  have BXB := hide (fun wn wm (h2 : Below (wn.alloc (.cells #[.int .i64 0, .int .i64 0, .slice none 0 0] 61)).heap.size (wn.alloc (.cells #[.int .i64 0, .int .i64 0, .slice none 0 0] 61)) wm) => (BoxT.new 61 wn (.int .i64 0) (.int .i64 0) (.slice none 0 0)).below h2 (by simp))
  have QF := hide (qf.below D0)
  clear x2 x3 x4 b0 qf xf D0 GC
  go_region_held3 (fun w' => Below W0.heap.size W0 w' ∧ w'.cell? ⟨gf, 0, none⟩ = some (.int .i64 r) ∧ w'.cell? ⟨gf, 1, none⟩ = some (.int .i64 n) ∧ w'.cell? ⟨gf, 2, none⟩ = some (.slice fo rn fd) ∧ w'.cell? ⟨g1, 0, none⟩ = some (.int .i64 n) ∧ w'.cell? ⟨g1, 1, none⟩ = some (.int .i64 c) ∧ w'.cell? ⟨g1, 2, none⟩ = some (.slice xo nx cx) ∧ w'.cell? ⟨g2, 0, none⟩ = some (.int .i64 r) ∧ w'.cell? ⟨g2, 1, none⟩ = some (.int .i64 c) ∧ w'.cell? ⟨g2, 2, none⟩ = some (.slice bo nb cb))
    (first | assumption | exact unhide HK _ (Below.refl _ _).drew | exact unhide HK _ (by assumption) | exact unhide HKA _ _ (by assumption) | exact unhide HKA _ _ (And.left (by assumption)) | exact unhide HKS _ _ _ _ _ hBwm (by first | exact Nat.le_refl _ | exact Below.size (by assumption)) | fail "KK")
    (first
      | (go_at_call_of 34 xo; refine (unhide H2 _ (unhide BW _ (And.left (by assumption)))).mono ?_; rintro e wa ⟨o1, do1, rfl, qn, hb1⟩; have hBwa : Below W0.heap.size W0 wa := Below.trans (And.left (by assumption)) (hb1.mono (Below.size (And.left (by assumption)))); (first | (have xb := BoxT.below xb hb1 xb.lt) | (have xb : BoxT 61 wa W0.heap.size (.int .i64 0) (.int .i64 0) (.slice none 0 0) := unhide BXA _ hb1) | (have xb := unhide BXB _ _ hb1) | skip); (first | (replace QF := hide ((unhide QF).below hb1)) | (replace QF := hide (((unhide QF).below (below_alloc9 _ _)).below hb1)) | skip); (first | (replace QB := hide ((unhide QB).below hb1)) | (replace QB := hide (((unhide QB).below (below_alloc9 _ _)).below hb1)) | skip); (first | (replace QT := hide ((unhide QT).below hb1)) | (replace QT := hide (((unhide QT).below (below_alloc9 _ _)).below hb1)) | skip); (first | (replace QL := hide ((unhide QL).below hb1)) | (replace QL := hide (((unhide QL).below (below_alloc9 _ _)).below hb1)) | skip); have QX := hide qn;  clear qn hb1)
      | (go_at_call 37; refine (unhide H3 _ _ _ _ _ (unhide BW _ (And.left (by assumption))) (by first | exact unhide QF | exact (unhide QF).below (below_alloc9 _ _)) (by first | exact unhide QX | exact (unhide QX).below (below_alloc9 _ _))).mono ?_; rintro e wb ⟨o2, do2, rfl, qn, hb1⟩; have hBwb : Below W0.heap.size W0 wb := Below.trans (And.left (by assumption)) (hb1.mono (Below.size (And.left (by assumption)))); (first | (have xb := BoxT.below xb hb1 xb.lt) | (have xb : BoxT 61 wb W0.heap.size (.int .i64 0) (.int .i64 0) (.slice none 0 0) := unhide BXA _ hb1) | (have xb := unhide BXB _ _ hb1) | skip); (first | (replace QF := hide ((unhide QF).below hb1)) | (replace QF := hide (((unhide QF).below (below_alloc9 _ _)).below hb1)) | skip); (first | (replace QX := hide ((unhide QX).below hb1)) | (replace QX := hide (((unhide QX).below (below_alloc9 _ _)).below hb1)) | skip); (first | (replace QB := hide ((unhide QB).below hb1)) | (replace QB := hide (((unhide QB).below (below_alloc9 _ _)).below hb1)) | skip); (first | (replace QL := hide ((unhide QL).below hb1)) | (replace QL := hide (((unhide QL).below (below_alloc9 _ _)).below hb1)) | skip); have QT := hide qn;  clear qn hb1)
      | (go_at_call_of 34 bo; refine (unhide H4 _ (unhide BW _ (And.left (by assumption)))).mono ?_; rintro e wd ⟨o3, do3, rfl, qn, hb1⟩; have hBwd : Below W0.heap.size W0 wd := Below.trans (And.left (by assumption)) (hb1.mono (Below.size (And.left (by assumption)))); (first | (have xb := BoxT.below xb hb1 xb.lt) | (have xb : BoxT 61 wd W0.heap.size (.int .i64 0) (.int .i64 0) (.slice none 0 0) := unhide BXA _ hb1) | (have xb := unhide BXB _ _ hb1) | skip); (first | (replace QF := hide ((unhide QF).below hb1)) | (replace QF := hide (((unhide QF).below (below_alloc9 _ _)).below hb1)) | skip); (first | (replace QX := hide ((unhide QX).below hb1)) | (replace QX := hide (((unhide QX).below (below_alloc9 _ _)).below hb1)) | skip); (first | (replace QT := hide ((unhide QT).below hb1)) | (replace QT := hide (((unhide QT).below (below_alloc9 _ _)).below hb1)) | skip); (first | (replace QL := hide ((unhide QL).below hb1)) | (replace QL := hide (((unhide QL).below (below_alloc9 _ _)).below hb1)) | skip); have QB := hide qn;  clear qn hb1)
      | (go_at_call 36; refine (unhide H5 _ _ _ _ _ (unhide BW _ (And.left (by assumption))) (by first | exact unhide QT | exact (unhide QT).below (below_alloc9 _ _)) (by first | exact unhide QB | exact (unhide QB).below (below_alloc9 _ _))).mono ?_; rintro e wm ⟨ro, rd, rfl, qn, hb1⟩; have hBwm : Below W0.heap.size W0 wm := Below.trans (And.left (by assumption)) (hb1.mono (Below.size (And.left (by assumption)))); (first | (have xb := BoxT.below xb hb1 xb.lt) | (have xb : BoxT 61 wm W0.heap.size (.int .i64 0) (.int .i64 0) (.slice none 0 0) := unhide BXA _ hb1) | (have xb := unhide BXB _ _ hb1) | skip); (first | (replace QF := hide ((unhide QF).below hb1)) | (replace QF := hide (((unhide QF).below (below_alloc9 _ _)).below hb1)) | skip); (first | (replace QX := hide ((unhide QX).below hb1)) | (replace QX := hide (((unhide QX).below (below_alloc9 _ _)).below hb1)) | skip); (first | (replace QB := hide ((unhide QB).below hb1)) | (replace QB := hide (((unhide QB).below (below_alloc9 _ _)).below hb1)) | skip); (first | (replace QT := hide ((unhide QT).below hb1)) | (replace QT := hide (((unhide QT).below (below_alloc9 _ _)).below hb1)) | skip); have QL := hide qn; (first | (have y0 := xb.c0; have y1 := xb.c1; have y2 := xb.c2; have f0 := xb.free 0; have f1 := xb.free 1; have f2 := xb.free 2) | skip); clear qn hb1)
      | fail "NO ARM")
  all_goals
    first
      | (refine at_thenB (GdSt _ _ _ _ _ _ _ _ _ _ _ _ _ _ _ _ W0.heap.size) (unhide HT _ _ (And.left (by assumption)) (xb.put _ _ _) ((unhide QL).putT xb _ _ _ _ _) (by first | exact Nat.le_refl _ | exact Below.size (by assumption))) ?_; rintro W1 ⟨b5, x5, xf, qf5, xg, qg, hg1, hg2⟩; generalize W0.heap.size = g at *)
      | (refine at_thenB (GdSt _ _ _ _ _ _ _ _ _ _ _ _ _ _ _ _ wa.heap.size) (unhide HT _ _ (And.left (by assumption)) (xb.put _ _ _) ((unhide QL).putT xb _ _ _ _ _) (by first | exact Nat.le_refl _ | exact Below.size (by assumption))) ?_; rintro W1 ⟨b5, x5, xf, qf5, xg, qg, hg1, hg2⟩; generalize wa.heap.size = g at *)
      | (refine at_thenB (GdSt _ _ _ _ _ _ _ _ _ _ _ _ _ _ _ _ wb.heap.size) (unhide HT _ _ (And.left (by assumption)) (xb.put _ _ _) ((unhide QL).putT xb _ _ _ _ _) (by first | exact Nat.le_refl _ | exact Below.size (by assumption))) ?_; rintro W1 ⟨b5, x5, xf, qf5, xg, qg, hg1, hg2⟩; generalize wb.heap.size = g at *)
      | (refine at_thenB (GdSt _ _ _ _ _ _ _ _ _ _ _ _ _ _ _ _ wd.heap.size) (unhide HT _ _ (And.left (by assumption)) (xb.put _ _ _) ((unhide QL).putT xb _ _ _ _ _) (by first | exact Nat.le_refl _ | exact Below.size (by assumption))) ?_; rintro W1 ⟨b5, x5, xf, qf5, xg, qg, hg1, hg2⟩; generalize wd.heap.size = g at *)
      | (refine at_thenB (GdSt _ _ _ _ _ _ _ _ _ _ _ _ _ _ _ _ wm.heap.size) (unhide HT _ _ (And.left (by assumption)) (BoxT.new _ _ _ _ _) ((unhide QL).below (below_alloc9 _ _)) (Below.size (by assumption))) ?_; rintro W1 ⟨b5, x5, xf, qf5, xg, qg, hg1, hg2⟩; generalize wm.heap.size = g at *)
      | fail "NO WAY"
  all_goals
    try clear y0 y1 y2 f0 f1 f2
    try clear xb
    clear HT HK HKA HKS BXA BXB H2 H3 H4 H5 QF QX QB QT QL BW hBwa hBwb hBwd hBwm
    go_wp2_with fail
    refine at_world (fun W => GdSt w r n c rn rc fd gf fo lo lo1 FA FL ro rd g3 g W) ⟨b5, x5, xf, qf5, xg, qg, hg1, hg2⟩ ?_
    clear b5 x5 xf qf5 xg qg hg1 hg2
    rintro W1 ⟨b5, x5, xf, qf5, xg, qg, hg1, hg2⟩
    have D0 := (Below.refl W1.heap.size W1).drew
    have HK := hide (show ∀ w' (h : Below W1.heap.size W1 w'), Below g3 W1 w' ∧ w'.cell? ⟨gf, 0, none⟩ = some (.int .i64 r) ∧ w'.cell? ⟨gf, 1, none⟩ = some (.int .i64 n) ∧ w'.cell? ⟨gf, 2, none⟩ = some (.slice fo rn fd) ∧ w'.cell? ⟨g, 0, none⟩ = some (.int .i64 r) ∧ w'.cell? ⟨g, 1, none⟩ = some (.int .i64 c) ∧ w'.cell? ⟨g, 2, none⟩ = some (.slice ro rc rd) from fun w' h =>
      ⟨h.mono (Nat.le_of_lt x5.lt), (xf.all h).c0, (xf.all h).c1, (xf.all h).c2, (xg.all h).c0, (xg.all h).c1, (xg.all h).c2⟩)
    have BW := hide (fun w' (h : Below g3 W1 w') => b5.trans (h.mono (unhide l0)))
    have HG := hide (Nat.le_of_lt x5.lt)
    have KS := hide (fun w8 u u' u'' (hb : Below g3 W1 w8) (xc : BoxT 61 w8 gf (.int .i64 r) (.int .i64 n) (.slice fo rn fd)) (xe : BoxT 61 w8 g (.int .i64 r) (.int .i64 c) (.slice ro rc rd)) => (show Below g3 W1 (((w8.setCell ⟨g3, 0, none⟩ u).setCell ⟨g3, 1, none⟩ u').setCell ⟨g3, 2, none⟩ u'') ∧ (((w8.setCell ⟨g3, 0, none⟩ u).setCell ⟨g3, 1, none⟩ u').setCell ⟨g3, 2, none⟩ u'').cell? ⟨gf, 0, none⟩ = some (.int .i64 r) ∧ (((w8.setCell ⟨g3, 0, none⟩ u).setCell ⟨g3, 1, none⟩ u').setCell ⟨g3, 2, none⟩ u'').cell? ⟨gf, 1, none⟩ = some (.int .i64 n) ∧ (((w8.setCell ⟨g3, 0, none⟩ u).setCell ⟨g3, 1, none⟩ u').setCell ⟨g3, 2, none⟩ u'').cell? ⟨gf, 2, none⟩ = some (.slice fo rn fd) ∧ (((w8.setCell ⟨g3, 0, none⟩ u).setCell ⟨g3, 1, none⟩ u').setCell ⟨g3, 2, none⟩ u'').cell? ⟨g, 0, none⟩ = some (.int .i64 r) ∧ (((w8.setCell ⟨g3, 0, none⟩ u).setCell ⟨g3, 1, none⟩ u').setCell ⟨g3, 2, none⟩ u'').cell? ⟨g, 1, none⟩ = some (.int .i64 c) ∧ (((w8.setCell ⟨g3, 0, none⟩ u).setCell ⟨g3, 1, none⟩ u').setCell ⟨g3, 2, none⟩ u'').cell? ⟨g, 2, none⟩ = some (.slice ro rc rd) from
      ⟨below_put3 hb (Nat.le_refl _) u u' u'', (xc.oth3 (Nat.ne_of_gt hg1) u u' u'').c0, (xc.oth3 (Nat.ne_of_gt hg1) u u' u'').c1, (xc.oth3 (Nat.ne_of_gt hg1) u u' u'').c2, (xe.oth3 (Nat.ne_of_gt hg2) u u' u'').c0, (xe.oth3 (Nat.ne_of_gt hg2) u u' u'').c1, (xe.oth3 (Nat.ne_of_gt hg2) u u' u'').c2⟩))
    have X4 := hide (x5.all D0); have XC := hide (xf.all D0); have XE := hide (xg.all D0); have QF := hide (qf5.below D0); have QR := hide (qg.below D0)
    clear b5 x5 xf qf5 xg qg hg1 hg2 D0
    go_region_held3 (fun w' => Below g3 W1 w' ∧ w'.cell? ⟨gf, 0, none⟩ = some (.int .i64 r) ∧ w'.cell? ⟨gf, 1, none⟩ = some (.int .i64 n) ∧ w'.cell? ⟨gf, 2, none⟩ = some (.slice fo rn fd) ∧ w'.cell? ⟨g, 0, none⟩ = some (.int .i64 r) ∧ w'.cell? ⟨g, 1, none⟩ = some (.int .i64 c) ∧ w'.cell? ⟨g, 2, none⟩ = some (.slice ro rc rd))
      (first | exact unhide HK _ (Below.refl _ _).drew | exact ⟨hB9, (unhide XC).c0, (unhide XC).c1, (unhide XC).c2, (unhide XE).c0, (unhide XE).c1, (unhide XE).c2⟩ | exact ⟨hB8, (unhide XC).c0, (unhide XC).c1, (unhide XC).c2, (unhide XE).c0, (unhide XE).c1, (unhide XE).c2⟩ | exact unhide KS _ _ _ _ hB8 (unhide XC) (unhide XE) | fail "KK")
      (first
        | (go_at_call 38; refine (unhide H6 _ _ _ (unhide QF) (unhide BW _ (And.left (by assumption)))).mono ?_; rintro e w9 ⟨o6, do6, rfl, qn, hb1⟩; have hB9 : Below g3 W1 w9 := Below.trans (And.left (by assumption)) (hb1.mono (Nat.le_trans (unhide HG) (Below.size (And.left (by assumption))))); (first | (replace QF := hide ((unhide QF).below hb1)) | skip); (first | (replace QR := hide ((unhide QR).below hb1)) | skip); (first | (replace QP := hide ((unhide QP).below hb1)) | skip); replace X4 := hide ((unhide X4).all hb1); replace XC := hide ((unhide XC).all hb1); replace XE := hide ((unhide XE).all hb1); have QU := hide qn; clear qn hb1)
        | (go_at_call 37; refine (unhide H7 _ _ _ _ _ (unhide BW _ (And.left (by assumption))) (unhide QU) (unhide QR)).mono ?_; rintro e w9 ⟨o7, do7, rfl, qn, hb1⟩; have hB9 : Below g3 W1 w9 := Below.trans (And.left (by assumption)) (hb1.mono (Nat.le_trans (unhide HG) (Below.size (And.left (by assumption))))); (first | (replace QF := hide ((unhide QF).below hb1)) | skip); (first | (replace QR := hide ((unhide QR).below hb1)) | skip); (first | (replace QU := hide ((unhide QU).below hb1)) | skip); replace X4 := hide ((unhide X4).all hb1); replace XC := hide ((unhide XC).all hb1); replace XE := hide ((unhide XE).all hb1); have QP := hide qn; clear qn hb1)
        | (go_at_call 33; refine (unhide H8 _ _ _ (unhide BW _ (And.left (by assumption))) (unhide QP)).mono ?_; rintro e w8 ⟨v, rfl, ⟨n5, a5, c5, L5, rfl, i5⟩, hb1⟩; have hB8 : Below g3 W1 w8 := Below.trans (And.left (by assumption)) (hb1.mono (Nat.le_trans (unhide HG) (Below.size (And.left (by assumption))))); clear hB9; replace X4 := hide ((unhide X4).all hb1); replace XC := hide ((unhide XC).all hb1); replace XE := hide ((unhide XE).all hb1); have IP := hide (show IsLv w8 (.agg #[.bool n5, .slice a5 L5.length c5, .int .i64 (oE z lo3)]) lo3 z from ⟨n5, a5, c5, L5, rfl, i5⟩); have y0 := (unhide X4).c0; have y1 := (unhide X4).c1; have y2 := (unhide X4).c2; have f0 := (unhide X4).free 0; have f1 := (unhide X4).free 1; have f2 := (unhide X4).free 2; clear i5 hb1)
        | fail "NO ARM")
    all_goals
      have xp := (unhide X4).put (.bool n5) (.slice a5 L5.length c5) (.int .i64 (oE z lo3))
      have z0 := xp.c0; have z1 := xp.c1; have z2 := xp.c2
      have QE := hide (IsDy.put3 (unhide IP) (unhide X4) (.bool n5) (.slice a5 L5.length c5) (.int .i64 (oE z lo3)))
      have PB := hide (below_put3 (unhide BW _ hB8) (unhide l0) (.bool n5) (.slice a5 L5.length c5) (.int .i64 (oE z lo3)))
      clear xp y0 y1 y2 f0 f1 f2
      go_wp2
      exact bodyPost_ret (v := .tuple #[.agg #[.bool n5, .slice a5 L5.length c5, .int .i64 (oE z lo3)], .int .i64 0]) (by simp [results, Tryz.results18, go_sem, z0, z1, z2]) rfl ⟨_, rfl, unhide QE, unhide PB⟩

end Go.Proofs.YtfnnbkclnflpfaaGreatDoor

/- Package certify: Square, Residual, Orthogonal, Gradient of matrices of finite numbers. -/
namespace Go.Proofs.YtfnnbkclnflpfaaGreatDoor
open Go.RowKit

theorem fZ_lvl (b : Nat) (hf : fFin b = true) : Lvl (-1074) 2098 (fZ b) := ⟨fZ_lt b hf, by decide, by decide, by decide⟩
theorem up_lvl (b : Nat) (hf : fFin b = true) : Lvl (-2148) 4200 (fZ b * 2 ^ 1074) := ⟨up_ltV (j := 2098) (k := 1074) (V := 4200) (by decide) (fZ_lt b hf), by decide, by decide, by decide⟩
theorem dt_lvl (n : Nat) (hn : n ≤ 8) (x y : Nat → Nat) (hx : ∀ j, j < n → fFin (x j) = true) (hy : ∀ j, j < n → fFin (y j) = true) : Lvl (-2148) 4200 (smI (fun j => fZ (x j) * fZ (y j)) n) :=
  (dtZ_lvl n hn x y hx hy).more (by decide) (by decide) (by decide)
theorem pr_lvl (a b : Nat) (ha : fFin a = true) (hb : fFin b = true) : Lvl (-2148) 4200 (fZ a * fZ b) :=
  (show Lvl (-2148) 4196 (fZ a * fZ b) from ⟨mul_ltV (j := 2098) (k := 2098) (V := 4196) (by decide) (fZ_lt a ha) (fZ_lt b hb), by decide, by decide, by decide⟩).more (by decide) (by decide) (by decide)

/-- What Check says of such a matrix. -/
theorem ckE_ok {w : World} {ao : Option Addr} {cap r c : Nat} {S : List Nat} (h : Mx w ao cap r c S) (hf : ∀ x ∈ S, fFin x = true) : ckE (r : Int) (c : Int) (mxL S) = 0 := by
  unfold ckE
  rw [mxL_len, if_pos (mx_ok h), if_pos]
  have : ∀ k, k ≤ S.length → fnK (mxL S) k = true := by
    intro k
    induction k with
    | zero => intro _; rfl
    | succ k ih =>
      intro hk
      show (fnK (mxL S) k && fFin (atB (mxL S) k)) = true
      rw [ih (by omega), mxL_at, Bool.true_and, List.getD_eq_getElem?_getD, List.getElem?_eq_getElem (by omega)]
      exact hf _ (List.getElem_mem _)
  exact this _ (Nat.le_refl _)

theorem ccheck_ok (r c cap : Nat) (ao : Option Addr) (S : List Nat) (w : World) (h : Mx w ao cap r c S) (hf : ∀ x ∈ S, fFin x = true) :
    Calls Tryz.prog 12 #[.agg #[.int .i64 r, .int .i64 c, .slice ao S.length cap]] w fun e w' => e = .returned (.int .i64 0) ∧ Below w.heap.size w w' := by
  have := ccheck_any r c ao cap (mxL S) w h.1 (by rw [mxL_len]; have := h.small; omega)
  rwa [ckE_ok h hf, mxL_len] at this

/-- Sums over a grid's places. -/
theorem grid_sum (G : Nat → Nat → Int) (r c : Nat) : smI (fun p => G (p / c) (p % c)) (r * c) = smI (fun i => smI (fun k => G i k) c) r := by
  rw [smI_grid]
  refine smI_congr _ (fun i _ => smI_congr _ (fun k hk => ?_))
  rw [place_div hk, place_mod hk]

theorem cRes_any (r n c ca cb cc : Nat) (ao bo co : Option Addr) (A B C : List Nat) (w : World) (hA : Mx w ao ca r c A) (hB : Mx w bo cb r n B) (hC : Mx w co cc n c C) (fA : ∀ x ∈ A, fFin x = true) (fB : ∀ x ∈ B, fFin x = true) (fC : ∀ x ∈ C, fFin x = true) (hT : Tab w) :
    Calls Tryz.prog 17 #[.agg #[.int .i64 r, .int .i64 c, .slice ao A.length ca], .agg #[.int .i64 r, .int .i64 n, .slice bo B.length cb], .agg #[.int .i64 n, .int .i64 c, .slice co C.length cc]] w fun e w' => ∃ v, e = .returned (.tuple #[v, .int .i64 0]) ∧ IsLv w' v (-4296) (rsQ r n c A B C) ∧ Below w.heap.size w w' := by
  have n6 := hC.2.2.1
  refine cRes_of r n c _ _ _ ca cb cc ao bo co (-1074) (-2148) (-4296) (rsQ r n c A B C) (fun i k => fZ (elM c A i k)) (fun i k => fZ (elM n B i k)) (fun i k => fZ (elM c C i k)) (fun i k => smI (fun j => fZ (elM n B i j) * fZ (elM c C j k)) n) (fun i k => rsZ n c A B C i k) w
    (fun w' hb => ?_) (fun w' hb => values_any r c ca ao A w' (hA.below hb) fA (hT.all hb)) (fun w' hb => values_any r n cb bo B w' (hB.below hb) fB (hT.all hb)) (fun w' hb => values_any n c cc co C w' (hC.below hb) fC (hT.all hb)) (fun w' xo xd yo yd hb hx hy => ?_) (fun w' xo xd yo yd hb hx hy => ?_) (fun w' xo xd hb hx => ?_)
  · have := checkProduct_of r c r n n c ao bo co A.length B.length C.length ca cb cc 0 0 0 w' (.inl rfl) (.inl rfl) (.inl rfl) (fun w'' hb2 => ccheck_ok r c ca ao A w'' ((hA.below hb).below hb2) fA) (fun w'' hb2 => ccheck_ok r n cb bo B w'' ((hB.below hb).below hb2) fB) (fun w'' hb2 => ccheck_ok n c cc co C w'' ((hC.below hb).below hb2) fC)
    simpa [fst3] using this
  · exact gtimes_any r n c xd yd xo yo (-1074) (-1074) (-2148) 2098 2098 4200 _ _ w' (by decide) hx hy (fun i k _ _ => fZ_lvl _ (el_fin n B i k fB)) (fun i k _ _ => fZ_lvl _ (el_fin c C i k fC)) (fun i j k _ _ _ => pr_lvl _ _ (el_fin n B i j fB) (el_fin c C j k fC)) (fun i k j _ _ hj => dt_lvl j (by omega) _ _ (fun l _ => el_fin n B i l fB) (fun l _ => el_fin c C l k fC)) (hT.all hb)
  · have hx' := hx.lower 1074
    rw [show (-1074 : Int) - (1074 : Nat) = -2148 by decide] at hx'
    exact less_any11 r c xd yd xo yo (-2148) 4200 _ _ w' hx' hy (fun i k _ _ => up_lvl _ (el_fin c A i k fA)) (fun i k _ _ => dt_lvl n (by omega) _ _ (fun l _ => el_fin n B i l fB) (fun l _ => el_fin c C l k fC)) (fun i k _ _ => ⟨rsZ_lt n c A B C i k (by omega) fA fB fC, by decide, by decide, by decide⟩) (hT.all hb)
  · have C1 := square_any r c (r * c) xd xo (-2148) 4200 (fun p => rsZ n c A B C (p / c) (p % c)) w' hx.1 (Nat.mul_le_mul hx.2.1 hx.2.2) (fun k _ => ⟨rsZ_lt n c A B C _ _ (by omega) fA fB fC, by decide, by decide, by decide⟩) (by decide) (by decide) (by decide) (hT.all hb)
    rw [grid_sum (fun i k => rsZ n c A B C i k * rsZ n c A B C i k) r c] at C1
    exact C1

theorem lack_lvl (n c : Nat) (A X B : List Nat) (i k : Nat) (hn : n ≤ 6) (fA : ∀ x ∈ A, fFin x = true) (fX : ∀ x ∈ X, fFin x = true) (fB : ∀ x ∈ B, fFin x = true) : Lvl (-2148) 4200 (smI (fun j => fZ (elM n A i j) * fZ (elM c X j k)) n - fZ (elM c B i k) * 2 ^ 1074) :=
  ⟨lack_lt n c A X B i k (by omega) fA fX fB, by decide, by decide, by decide⟩

theorem cGrad_any (r n c ca cx cb : Nat) (ao xo bo : Option Addr) (A X B : List Nat) (w : World) (hA : Mx w ao ca r n A) (hX : Mx w xo cx n c X) (hB : Mx w bo cb r c B) (fA : ∀ x ∈ A, fFin x = true) (fX : ∀ x ∈ X, fFin x = true) (fB : ∀ x ∈ B, fFin x = true) (hT : Tab w) :
    Calls Tryz.prog 18 #[.agg #[.int .i64 r, .int .i64 n, .slice ao A.length ca], .agg #[.int .i64 n, .int .i64 c, .slice xo X.length cx], .agg #[.int .i64 r, .int .i64 c, .slice bo B.length cb]] w fun e w' => ∃ v, e = .returned (.tuple #[v, .int .i64 0]) ∧ IsLv w' v (-6444) (grQ r n c A X B) ∧ Below w.heap.size w w' := by
  have n6 := hX.2.2.1
  have r6 := hA.2.2.1
  refine cGrad_of r n c _ _ _ ca cx cb ao xo bo (-1074) (-2148) (-3222) (-6444) (grQ r n c A X B) (fun i k => fZ (elM n A i k)) (fun i k => fZ (elM c X i k)) (fun i k => fZ (elM c B i k)) (fun i k => smI (fun j => fZ (elM n A i j) * fZ (elM c X j k)) n) (fun i k => smI (fun j => fZ (elM n A i j) * fZ (elM c X j k)) n - fZ (elM c B i k) * 2 ^ 1074) (fun j k => grZ r n c A X B j k) w
    (fun w' hb => ?_) (fun w' hb => values_any r n ca ao A w' (hA.below hb) fA (hT.all hb)) (fun w' hb => values_any n c cx xo X w' (hX.below hb) fX (hT.all hb)) (fun w' ko kd yo yd hb hx hy => ?_) (fun w' hb => values_any r c cb bo B w' (hB.below hb) fB (hT.all hb)) (fun w' ko kd yo yd hb hx hy => ?_) (fun w' ko kd hx _ => gturned_any r n kd ko (-1074) _ w' hx) (fun w' ko kd yo yd hb hx hy => ?_) (fun w' ko kd hb hx => ?_)
  · have := checkProduct_of r c r n n c bo ao xo B.length A.length X.length cb ca cx 0 0 0 w' (.inl rfl) (.inl rfl) (.inl rfl) (fun w'' hb2 => ccheck_ok r c cb bo B w'' ((hB.below hb).below hb2) fB) (fun w'' hb2 => ccheck_ok r n ca ao A w'' ((hA.below hb).below hb2) fA) (fun w'' hb2 => ccheck_ok n c cx xo X w'' ((hX.below hb).below hb2) fX)
    simpa [fst3] using this
  · exact gtimes_any r n c kd yd ko yo (-1074) (-1074) (-2148) 2098 2098 4200 _ _ w' (by decide) hx hy (fun i k _ _ => fZ_lvl _ (el_fin n A i k fA)) (fun i k _ _ => fZ_lvl _ (el_fin c X i k fX)) (fun i j k _ _ _ => pr_lvl _ _ (el_fin n A i j fA) (el_fin c X j k fX)) (fun i k j _ _ hj => dt_lvl j (by omega) _ _ (fun l _ => el_fin n A i l fA) (fun l _ => el_fin c X l k fX)) (hT.all hb)
  · have hy' := hy.lower 1074
    rw [show (-1074 : Int) - (1074 : Nat) = -2148 by decide] at hy'
    exact less_any11 r c kd yd ko yo (-2148) 4200 _ _ w' hx hy' (fun i k _ _ => dt_lvl n (by omega) _ _ (fun l _ => el_fin n A i l fA) (fun l _ => el_fin c X l k fX)) (fun i k _ _ => up_lvl _ (el_fin c B i k fB)) (fun i k _ _ => lack_lvl n c A X B i k n6 fA fX fB) (hT.all hb)
  · exact gtimes_any n r c kd yd ko yo (-1074) (-2148) (-3222) 2098 4200 6301 _ _ w' (by decide) hx hy (fun i k _ _ => fZ_lvl _ (el_fin n A k i fA)) (fun i k _ _ => lack_lvl n c A X B i k n6 fA fX fB)
      (fun i j k _ _ _ => (show Lvl (-3222) 6298 _ from ⟨mul_ltV (j := 2098) (k := 4200) (V := 6298) (by decide) (fZ_lt _ (el_fin n A j i fA)) (lack_lt n c A X B j k (by omega) fA fX fB), by decide, by decide, by decide⟩).more (by decide) (by decide) (by decide))
      (fun i k j _ _ hj => ⟨smI_ltV (W := 6298) (V := 6301) (by decide) j (by omega) (fun l _ => mul_ltV (j := 2098) (k := 4200) (V := 6298) (by decide) (fZ_lt _ (el_fin n A l i fA)) (lack_lt n c A X B l k (by omega) fA fX fB)), by decide, by decide, by decide⟩) (hT.all hb)
  · have C1 := square_any n c (n * c) kd ko (-3222) 6301 (fun p => grZ r n c A X B (p / c) (p % c)) w' hx.1 (Nat.mul_le_mul hx.2.1 hx.2.2) (fun k _ => ⟨grZ_lt r n c A X B _ _ (by omega) (by omega) fA fX fB, by decide, by decide, by decide⟩) (by decide) (by decide) (by decide) (hT.all hb)
    rw [grid_sum (fun i k => grZ r n c A X B i k * grZ r n c A X B i k) n c, smI_swap] at C1
    exact C1

end Go.Proofs.YtfnnbkclnflpfaaGreatDoor

/- Package certify: is a number at most another one times a power of two, and 2^-4000 more? -/
namespace Go.Proofs.YtfnnbkclnflpfaaGreatDoor
open Go.RowKit
attribute [local go_sem ↓] Go.wp_at_zero Go.wp_at_succ
/-- What holds in atMost: the numbers' boxes. -/
def AmSt (w wr : World) (na nb : Bool) (ao bo : Option Addr) (ka kb ca cb : Nat) (x y : Int) : Prop :=
  Box3 wr w.heap.size (.bool na) (.slice ao ka ca) (.int .i64 x) ∧ Box3 wr (w.heap.size + 1) (.bool nb) (.slice bo kb cb) (.int .i64 y) ∧ Below w.heap.size w wr
theorem AmSt.all {w wr w' : World} {na nb : Bool} {ao bo : Option Addr} {ka kb ca cb : Nat} {x y : Int} (h : AmSt w wr na nb ao bo ka kb ca cb x y) (hb : Below wr.heap.size wr w') : AmSt w w' na nb ao bo ka kb ca cb x y := ⟨h.1.all hb, h.2.1.all hb, h.2.2.trans (hb.mono h.2.2.size)⟩
theorem AmSt.start (w : World) (na nb : Bool) (ao bo : Option Addr) (ka kb ca cb : Nat) (x y : Int) : AmSt w ((w.alloc (.cells #[.bool na, .slice ao ka ca, .int .i64 x] 29)).alloc (.cells #[.bool nb, .slice bo kb cb, .int .i64 y] 29)) na nb ao bo ka kb ca cb x y := by
  have b0 := below_alloc9 w (.cells #[.bool na, .slice ao ka ca, .int .i64 x] 29)
  have s0 := size_alloc9 w (.cells #[.bool na, .slice ao ka ca, .int .i64 x] 29)
  have x0 := Box3.new w (.bool na) (.slice ao ka ca) (.int .i64 x)
  generalize w.alloc (.cells #[.bool na, .slice ao ka ca, .int .i64 x] 29) = w0 at *
  have b1 := below_alloc9 w0 (.cells #[.bool nb, .slice bo kb cb, .int .i64 y] 29)
  have k1 := Box3.new w0 (.bool nb) (.slice bo kb cb) (.int .i64 y)
  rw [s0] at k1
  exact ⟨x0.all b1, k1, b0.trans (b1.mono b0.size)⟩

/-- In the loop: the boxes, the number 1's. -/
def AlSt (w wr : World) (g : Nat) (na nb : Bool) (ao bo : Option Addr) (ka kb ca cb : Nat) (x y : Int) : Prop :=
  AmSt w wr na nb ao bo ka kb ca cb x y ∧ LimbsAt wr (some ⟨g, 0, none⟩) 1 [1] ∧ Box2 wr (g + 1) (.bool false) (.slice (some ⟨g, 0, none⟩) 1 1)
theorem AlSt.all {w wr w' : World} {g : Nat} {na nb : Bool} {ao bo : Option Addr} {ka kb ca cb : Nat} {x y : Int} (h : AlSt w wr g na nb ao bo ka kb ca cb x y) (hb : Below wr.heap.size wr w') : AlSt w w' g na nb ao bo ka kb ca cb x y := ⟨h.1.all hb, h.2.1.below hb, h.2.2.below hb h.2.2.lt⟩
theorem AlSt.start {w wc : World} {na nb : Bool} {ao bo : Option Addr} {ka kb ca cb : Nat} {x y : Int} (h : AmSt w wc na nb ao bo ka kb ca cb x y) :
    AlSt w ((wc.alloc (.cells #[.int .u32 1] 70)).alloc (.cells #[.bool false, .slice (some ⟨wc.heap.size, 0, none⟩) 1 1] 27)) wc.heap.size na nb ao bo ka kb ca cb x y := by
  have b0 := below_alloc9 wc (.cells #[.int .u32 1] 70)
  have s0 := size_alloc9 wc (.cells #[.int .u32 1] 70)
  have h0 := heap_alloc_new wc (.cells #[.int .u32 1] 70)
  generalize wc.alloc (.cells #[.int .u32 1] 70) = w0 at *
  have b1 := below_alloc9 w0 (.cells #[.bool false, .slice (some ⟨wc.heap.size, 0, none⟩) 1 1] 27)
  have k1 := Box2.new w0 (.bool false) (.slice (some ⟨wc.heap.size, 0, none⟩) 1 1)
  rw [s0] at k1
  have hl : LimbsAt w0 (some ⟨wc.heap.size, 0, none⟩) 1 [1] := ⟨by decide, by simp, .inr ⟨wc.heap.size, 0, rfl, by omega, fun i hi => by
    obtain rfl : i = 0 := by simpa using hi
    rw [cell_of_row w0 wc.heap.size _ _ _ _ h0]; rfl⟩⟩
  exact ⟨(h.all b0).all b1, hl.below b1, k1⟩

end Go.Proofs.YtfnnbkclnflpfaaGreatDoor

/- The reference of layer 11: Dot. -/
namespace Go.Proofs.YtfnnbkclnflpfaaGreatDoor
open Go.RowKit
attribute [local go_sem ↓] Go.wp_at_zero Go.wp_at_succ

/-- What holds in a sum's loop: the answer's box, the sum. -/
def DtSt (w wr : World) (lo s : Int) : Prop := Box3 wr w.heap.size (.bool false) (.slice none 0 0) (.int .i64 0) ∧ Kept wr (w.heap.size + 1) lo s ∧ Below w.heap.size w wr
theorem DtSt.all {w wr w' : World} {lo s : Int} (h : DtSt w wr lo s) (hb : Below wr.heap.size wr w') : DtSt w w' lo s := ⟨h.1.all hb, h.2.1.all hb, h.2.2.trans (hb.mono h.2.2.size)⟩
theorem DtSt.start (w : World) (lo : Int) : DtSt w ((w.alloc (.cells #[.bool false, .slice none 0 0, .int .i64 0] 29)).alloc (.cells #[.bool false, .slice none 0 0, .int .i64 0] 29)) lo 0 := by
  have b0 := below_alloc9 w (.cells #[.bool false, .slice none 0 0, .int .i64 0] 29)
  have s0 := size_alloc9 w (.cells #[.bool false, .slice none 0 0, .int .i64 0] 29)
  have x0 := Box3.new w (.bool false) (.slice none 0 0) (.int .i64 0)
  generalize w.alloc (.cells #[.bool false, .slice none 0 0, .int .i64 0] 29) = w0 at *
  have b1 := below_alloc9 w0 (.cells #[.bool false, .slice none 0 0, .int .i64 0] 29)
  have k1 := Kept.new w0 lo
  rw [s0] at k1
  exact ⟨x0.all b1, k1, b0.trans (b1.mono b0.size)⟩
/-- The sum's box is written. -/
theorem DtSt.put {w wr : World} {lo s t : Int} (h : DtSt w wr lo s) {n : Bool} {a : Option Addr} {l c : Nat} {X : Int} (hv : IsLv wr (.agg #[.bool n, .slice a l c, .int .i64 X]) lo t) :
    DtSt w (((wr.setCell ⟨w.heap.size + 1, 0, none⟩ (.bool n)).setCell ⟨w.heap.size + 1, 1, none⟩ (.slice a l c)).setCell ⟨w.heap.size + 1, 2, none⟩ (.int .i64 X)) lo t := by
  obtain ⟨h1, ⟨n', a', l', c', X', h2, _⟩, h3⟩ := h
  have ne : w.heap.size ≠ w.heap.size + 1 := by omega
  exact ⟨((h1.other (p := ⟨w.heap.size + 1, 0, none⟩) ne _).other (p := ⟨w.heap.size + 1, 1, none⟩) ne _).other (p := ⟨w.heap.size + 1, 2, none⟩) ne _, ⟨n, a, l, c, X, h2.put _ _ _, IsDy.put3 hv h2 _ _ _⟩, below_put3 h3 (by omega) _ _ _⟩

set_option maxRecDepth 20000 in
set_option maxHeartbeats 16000000 in
theorem rdot_of (ao bo : Option Addr) (c d n : Nat) (I J : List Int) (lo lo2 : Int) (fa fb sm : Nat → Int) (w : World) (hI : BitsAt w ao c I) (hJ : BitsAt w bo d J) (hi : I.length = n) (hj : J.length = n) (hn : n ≤ 8) (h0 : sm 0 = 0)
    (C1 : ∀ w' k, k < n → Calls Tryz.prog 53 #[.int .u64 (atB I k : Nat)] w' fun r w'' => ∃ u, r = .returned u ∧ IsLv w'' u lo (fa k) ∧ Below w'.heap.size w' w'')
    (C2 : ∀ w' k, k < n → Calls Tryz.prog 53 #[.int .u64 (atB J k : Nat)] w' fun r w'' => ∃ u, r = .returned u ∧ IsLv w'' u lo (fb k) ∧ Below w'.heap.size w' w'')
    (C3 : ∀ w' k v u, k < n → IsLv w' v lo (fa k) → IsLv w' u lo (fb k) → Calls Tryz.prog 51 #[v, u] w' fun r w'' => ∃ q, r = .returned q ∧ IsLv w'' q lo2 (fa k * fb k) ∧ Below w'.heap.size w' w'')
    (C4 : ∀ w' k v u, k < n → IsLv w' v lo2 (sm k) → IsLv w' u lo2 (fa k * fb k) → Calls Tryz.prog 50 #[v, u] w' fun r w'' => ∃ q, r = .returned q ∧ IsLv w'' q lo2 (sm (k + 1)) ∧ Below w'.heap.size w' w'') :
    Calls Tryz.prog 45 #[.slice ao n c, .slice bo n d] w fun e w' => ∃ v, e = .returned v ∧ IsLv w' v lo2 (sm n) ∧ Below w.heap.size w w' := by
  have K1 := hide C1; have K2 := hide C2; have K3 := hide C3; have K4 := hide C4; have HI := hide hI; have HJ := hide hJ; have LI := hide hi; have LJ := hide hj
  have ST := hide (show DtSt w _ lo2 (sm 0) from by rw [h0]; exact DtSt.start w lo2)
  clear C1 C2 C3 C4 hI hJ hi hj h0
  go_enter Tryz.func45, Tryz.ntmps45
  go_wp2_with fail
  go_loopw [6] (fun i wr => ∃ k : Nat, k ≤ n ∧ i = .int .i64 k ∧ Hid (DtSt w wr lo2 (sm k))) (fun i _ => n - (intOf i).toNat)
  case atStart => exact ⟨0, Nat.zero_le _, rfl, ST⟩
  case round =>
    clear ST
    obtain ⟨k, hk, rfl, hS⟩ := hrel
    by_cases hlt : k < n
    · have hkI : (k : Int) < (n : Int) := by omega
      have W1 := hide (fun w' => unhide K1 w' k hlt)
      have W2 := hide (fun w' => unhide K2 w' k hlt)
      have W3 := hide (fun w' v u => unhide K3 w' k v u hlt)
      have W4 := hide (fun w' v u => unhide K4 w' k v u hlt)
      obtain ⟨b1, o1, rfl, p1, q1⟩ := (unhide HI).ne (by rw [unhide LI]; omega)
      obtain ⟨b2, o2, rfl, p2, q2⟩ := (unhide HJ).ne (by rw [unhide LJ]; omega)
      have cx := q1 k (by rw [unhide LI]; exact hlt)
      have cy := q2 k (by rw [unhide LJ]; exact hlt)
      generalize atB I k = x at *
      generalize atB J k = y at *
      have KX := hide cx; have KY := hide cy; have P1 := hide p1; have P2 := hide p2
      clear q1 q2 cx cy p1 p2
      go_wp2_with fail
      refine at_world (fun W => DtSt w W lo2 (sm k)) (unhide hS) ?_
      clear hS
      rintro W0 hS
      have D0 := (Below.refl W0.heap.size W0).drew
      have SS := hide (hS.all D0)
      obtain ⟨nn, aa, ll, cc, X, bx, ix⟩ := (unhide SS).2.1
      have y0 := bx.c0; have y1 := bx.c1; have y2 := bx.c2; have f0 := bx.free 0; have f1 := bx.free 1; have f2 := bx.free 2
      have BX := hide bx; have IX := hide ix
      have HK := hide (show ∀ w' (h : Below w.heap.size w w'), w'.cell? ⟨b1, o1 + k, none⟩ = some (.int .u64 (x : Nat)) ∧ w'.cell? ⟨b2, o2 + k, none⟩ = some (.int .u64 (y : Nat)) from fun w' h =>
        ⟨(h.cell (p := ⟨b1, o1 + k, none⟩) (unhide P1)).trans (unhide KX), (h.cell (p := ⟨b2, o2 + k, none⟩) (unhide P2)).trans (unhide KY)⟩)
      clear hS D0 bx ix KX KY P1 P2
      obtain ⟨cx, cy⟩ := unhide HK _ (unhide SS).2.2
      go_region_with (first
          | (go_at_call_of 53 x; refine (unhide W1 _).mono ?_; rintro e w4 ⟨q, rfl, hq, hb1⟩; replace SS := hide ((unhide SS).all hb1); (first | (replace QY := hide ((unhide QY).below hb1)) | skip); have QX := hide hq; clear y0 y1 y2 f0 f1 f2 cx cy; replace BX := hide ((unhide BX).all hb1); replace IX := hide ((unhide IX).below hb1); obtain ⟨cx, cy⟩ := unhide HK _ (unhide SS).2.2; have y0 := (unhide BX).c0; have y1 := (unhide BX).c1; have y2 := (unhide BX).c2; have f0 := (unhide BX).free 0; have f1 := (unhide BX).free 1; have f2 := (unhide BX).free 2; clear hq hb1)
          | (go_at_call_of 53 y; refine (unhide W2 _).mono ?_; rintro e w4 ⟨q, rfl, hq, hb1⟩; replace SS := hide ((unhide SS).all hb1); (first | (replace QX := hide ((unhide QX).below hb1)) | skip); have QY := hide hq; clear y0 y1 y2 f0 f1 f2 cx cy; replace BX := hide ((unhide BX).all hb1); replace IX := hide ((unhide IX).below hb1); obtain ⟨cx, cy⟩ := unhide HK _ (unhide SS).2.2; have y0 := (unhide BX).c0; have y1 := (unhide BX).c1; have y2 := (unhide BX).c2; have f0 := (unhide BX).free 0; have f1 := (unhide BX).free 1; have f2 := (unhide BX).free 2; clear hq hb1)
          | (go_at_call 51; refine (unhide W3 _ _ _ (unhide QX) (unhide QY)).mono ?_; rintro e w4 ⟨q, rfl, hq, hb1⟩; replace SS := hide ((unhide SS).all hb1); have QP := hide hq; clear y0 y1 y2 f0 f1 f2 cx cy; replace BX := hide ((unhide BX).all hb1); replace IX := hide ((unhide IX).below hb1); obtain ⟨cx, cy⟩ := unhide HK _ (unhide SS).2.2; have y0 := (unhide BX).c0; have y1 := (unhide BX).c1; have y2 := (unhide BX).c2; have f0 := (unhide BX).free 0; have f1 := (unhide BX).free 1; have f2 := (unhide BX).free 2; clear hq hb1)
          | (go_at_call 50; refine (unhide W4 _ _ _ (unhide IX) (unhide QP)).mono ?_; rintro e w4 ⟨q, rfl, ⟨n5, a5, c5, L5, rfl, i5⟩, hb1⟩; replace SS := hide ((unhide SS).all hb1); have QS := hide (show IsLv w4 (.agg #[.bool n5, .slice a5 L5.length c5, .int .i64 (oE (sm (k + 1)) lo2)]) lo2 (sm (k + 1)) from ⟨n5, a5, c5, L5, rfl, i5⟩); clear y0 y1 y2 f0 f1 f2 cx cy; replace BX := hide ((unhide BX).all hb1); obtain ⟨cx, cy⟩ := unhide HK _ (unhide SS).2.2; have y0 := (unhide BX).c0; have y1 := (unhide BX).c1; have y2 := (unhide BX).c2; have f0 := (unhide BX).free 0; have f1 := (unhide BX).free 1; have f2 := (unhide BX).free 2; have SF := hide ((unhide SS).put (unhide QS)); clear i5 hb1)
          | fail "NO ARM")
      all_goals
        go_wp2_with fail
        go_round
        case rel => exact ⟨k + 1, by omega, by go_num, SF⟩
        case measure => simp [intOf]; omega
    · have hkk : k = n := by omega
      subst hkk
      obtain ⟨h1, ⟨nn, aa, ll, cc, X, bx, ix⟩, h3⟩ := unhide hS
      have y0 := bx.c0; have y1 := bx.c1; have y2 := bx.c2
      have r0 := h1.c0; have r1 := h1.c1; have r2 := h1.c2; have f0 := h1.free 0; have f1 := h1.free 1; have f2 := h1.free 2
      have xe := h1.put (.bool nn) (.slice aa ll cc) (.int .i64 X)
      have e0 := xe.c0; have e1 := xe.c1; have e2 := xe.c2
      have HS := hide (IsDy.put3 ix h1 (.bool nn) (.slice aa ll cc) (.int .i64 X))
      have BE := hide (below_put3 h3 (Nat.le_refl _) (.bool nn) (.slice aa ll cc) (.int .i64 X))
      clear xe h1 bx ix h3 hS
      go_wp2_with fail
      exact bodyPost_ret (v := .agg #[.bool nn, .slice aa ll cc, .int .i64 X]) (by simp [results, Tryz.results45, go_sem, e0, e1, e2]) rfl ⟨_, rfl, unhide HS, unhide BE⟩

end Go.Proofs.YtfnnbkclnflpfaaGreatDoor

/- The reference of layer 11: Orthogonal by letters. -/
namespace Go.Proofs.YtfnnbkclnflpfaaGreatDoor
open Go.RowKit
attribute [local go_sem ↓] Go.wp_at_zero Go.wp_at_succ

theorem Box3.oth3 {w : World} {b : Nat} {x y z : Value} (h : Box3 w b x y z) {g : Nat} (hg : b ≠ g) (u u' u'' : Value) : Box3 (((w.setCell ⟨g, 0, none⟩ u).setCell ⟨g, 1, none⟩ u').setCell ⟨g, 2, none⟩ u'') b x y z :=
  ((h.other (p := ⟨g, 0, none⟩) hg u).other (p := ⟨g, 1, none⟩) hg u').other (p := ⟨g, 2, none⟩) hg u''
theorem Box3.ex {w : World} {b : Nat} {x y z : Value} (h : Box3 w b x y z) : ∃ g, g = b ∧ Box3 w g x y z := ⟨b, rfl, h⟩
/-- Another box of a number is written. -/
theorem Kept.oth3 {w : World} {b g : Nat} {lo s : Int} (h : Kept w b lo s) {x : Bool} {a : Option Addr} {l c : Nat} {y : Int} (hg : Box3 w g (.bool x) (.slice a l c) (.int .i64 y)) (hne : b ≠ g) (u u' u'' : Value) : Kept (((w.setCell ⟨g, 0, none⟩ u).setCell ⟨g, 1, none⟩ u').setCell ⟨g, 2, none⟩ u'') b lo s := by
  obtain ⟨n, a, l, c, X, h1, h2⟩ := h
  exact ⟨n, a, l, c, X, h1.oth3 hne _ _ _, IsDy.put3 h2 hg _ _ _⟩
/-- It is written itself. -/
theorem Kept.put {w : World} {g : Nat} {lo s t : Int} {lo' : Int} (h : Kept w g lo s) {n : Bool} {a : Option Addr} {l c : Nat} {X : Int} (hv : IsLv w (.agg #[.bool n, .slice a l c, .int .i64 X]) lo' t) : Kept (((w.setCell ⟨g, 0, none⟩ (.bool n)).setCell ⟨g, 1, none⟩ (.slice a l c)).setCell ⟨g, 2, none⟩ (.int .i64 X)) g lo' t := by
  obtain ⟨n', a', l', c', X', h1, _⟩ := h
  exact ⟨n, a, l, c, X, h1.put _ _ _, IsDy.put3 hv h1 _ _ _⟩

/-- What holds in the reference's Orthogonal: the matrix's box, the answer's, the sum's. -/
def OrSt (w wr : World) (r c n cap : Nat) (ao : Option Addr) (lo s : Int) : Prop :=
  BoxM wr w.heap.size (.int .i64 r) (.int .i64 c) (.slice ao n cap) ∧ Box3 wr (w.heap.size + 1) (.bool false) (.slice none 0 0) (.int .i64 0) ∧ Kept wr (w.heap.size + 1 + 1) lo s ∧ Below w.heap.size w wr
theorem OrSt.all {w wr w' : World} {r c n cap : Nat} {ao : Option Addr} {lo s : Int} (h : OrSt w wr r c n cap ao lo s) (hb : Below wr.heap.size wr w') : OrSt w w' r c n cap ao lo s :=
  ⟨h.1.all hb, h.2.1.all hb, h.2.2.1.all hb, h.2.2.2.trans (hb.mono h.2.2.2.size)⟩
theorem OrSt.start (w : World) (r c n cap : Nat) (ao : Option Addr) (lo : Int) : OrSt w (((w.alloc (.cells #[.int .i64 r, .int .i64 c, .slice ao n cap] 24)).alloc (.cells #[.bool false, .slice none 0 0, .int .i64 0] 29)).alloc (.cells #[.bool false, .slice none 0 0, .int .i64 0] 29)) r c n cap ao lo 0 := by
  obtain ⟨x0, x1, bb⟩ := boxes1D w r c ao n cap
  have s1 : ((w.alloc (.cells #[.int .i64 r, .int .i64 c, .slice ao n cap] 24)).alloc (.cells #[.bool false, .slice none 0 0, .int .i64 0] 29)).heap.size = w.heap.size + 1 + 1 := by simp
  generalize (w.alloc (.cells #[.int .i64 r, .int .i64 c, .slice ao n cap] 24)).alloc (.cells #[.bool false, .slice none 0 0, .int .i64 0] 29) = w1 at *
  have b2 := below_alloc9 w1 (.cells #[.bool false, .slice none 0 0, .int .i64 0] 29)
  have k2 := Kept.new w1 lo
  rw [s1] at k2
  exact ⟨x0.all b2, x1.all b2, k2, bb.trans (b2.mono bb.size)⟩
/-- The sum is written. -/
theorem OrSt.put {w wr : World} {r c n cap : Nat} {ao : Option Addr} {lo s t : Int} (h : OrSt w wr r c n cap ao lo s) {ng : Bool} {a : Option Addr} {l cp : Nat} {X : Int} (hv : IsLv wr (.agg #[.bool ng, .slice a l cp, .int .i64 X]) lo t) :
    OrSt w (((wr.setCell ⟨w.heap.size + 1 + 1, 0, none⟩ (.bool ng)).setCell ⟨w.heap.size + 1 + 1, 1, none⟩ (.slice a l cp)).setCell ⟨w.heap.size + 1 + 1, 2, none⟩ (.int .i64 X)) r c n cap ao lo t :=
  ⟨h.1.oth3 (by omega) _ _ _, h.2.1.oth3 (by omega) _ _ _, h.2.2.1.put hv, below_put3 h.2.2.2 (by omega) _ _ _⟩
/-- A number's box behind is written. -/
theorem OrSt.away {w wr : World} {r c n cap : Nat} {ao : Option Addr} {lo s : Int} (h : OrSt w wr r c n cap ao lo s) {g : Nat} {lo' z : Int} (hg : Kept wr g lo' z) (hl : w.heap.size + 1 + 1 < g) (u u' u'' : Value) :
    OrSt w (((wr.setCell ⟨g, 0, none⟩ u).setCell ⟨g, 1, none⟩ u').setCell ⟨g, 2, none⟩ u'') r c n cap ao lo s := by
  obtain ⟨n', a', l', c', X', h1, _⟩ := hg
  exact ⟨h.1.oth3 (by omega) _ _ _, h.2.1.oth3 (by omega) _ _ _, h.2.2.1.oth3 h1 (by omega) _ _ _, below_put3 h.2.2.2 (by omega) _ _ _⟩

end Go.Proofs.YtfnnbkclnflpfaaGreatDoor

