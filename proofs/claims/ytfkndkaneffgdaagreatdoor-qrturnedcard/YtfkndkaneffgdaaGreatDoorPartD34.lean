/- Part 34 of the texts. -/
import Derived.Test.YtfkndkaneffgdaaGreatDoorPartD33
import Derived.Test.YtfkndkaneffgdaaGreatDoorPartD28
import Derived.Test.YtfkndkaneffgdaaGreatDoorPartD08
import Derived.Lib.BitFns
import Derived.Test.YtfkndkaneffgdaaGreatDoorPartD29
import Derived.Test.YtfkndkaneffgdaaGreatDoorPartD07
import Derived.Test.YtfkndkaneffgdaaGreatDoorPartD30
import Derived.OwnWalk
import Derived.Test.YtfkndkaneffgdaaGreatDoorPartD01
import Derived.Test.YtfkndkaneffgdaaGreatDoorPartD09
import Derived.Test.YtfkndkaneffgdaaGreatDoorPartD05
import Derived.Test.YtfkndkaneffgdaaGreatDoorPartD02
import Derived.Test.YtfkndkaneffgdaaGreatDoorPartD06
import Derived.Maps.Own
import Derived.Maps.OwnOps
import Derived.Maps.OwnSet
import Derived.DeepKeys4
import Derived.WalkSmall
import Derived.Deep.RegionHeld3
import Derived.Deep.AppendLies
import Derived.Test.YtfkndkaneffgdaaGreatDoorPartD32
import Derived.Test.YtfkndkaneffgdaaGreatDoorPartD27
import Derived.Test.YtfkndkaneffgdaaGreatDoorPartD25
import Derived.Test.YtfkndkaneffgdaaGreatDoorPartD13
import Derived.Test.YtfkndkaneffgdaaGreatDoorPartD15
import Derived.Deep.Cut
import Derived.BigQuiet
/- Package qr: Factor, Thin, Turned, by letters (mkmu.py). -/
namespace Go.Proofs.YtfkndkaneffgdaaGreatDoor
open Go.RowKit
attribute [local go_sem ↓] Go.wp_at_zero Go.wp_at_succ

theorem cell_three14 {w : World} {b g j : Nat} {u u' u'' v : Value} (hne : b ≠ g) (h : w.cell? ⟨b, j, none⟩ = some v) : (((w.setCell ⟨g, 0, none⟩ u).setCell ⟨g, 1, none⟩ u').setCell ⟨g, 2, none⟩ u'').cell? ⟨b, j, none⟩ = some v := by
  rw [cell_setCell_other _ _ _ _ hne, cell_setCell_other _ _ _ _ hne, cell_setCell_other _ _ _ _ hne]
  exact h
theorem cell_drew14 {w : World} {a : Addr} {v : Value} (h : w.cell? a = some v) : w.drew.cell? a = some v := h
theorem cell_three14d {w : World} {b g j : Nat} {u u' u'' v : Value} (hne : b ≠ g) (h : w.cell? ⟨b, j, none⟩ = some v) : (((w.setCell ⟨g, 0, none⟩ u).setCell ⟨g, 1, none⟩ u').setCell ⟨g, 2, none⟩ u'').drew.cell? ⟨b, j, none⟩ = some v := cell_drew14 (cell_three14 hne h)

/-- What holds in Factor and Thin: the matrix's box, the results'. -/
structure FcSt (w wr : World) (x y : Int) (ao : Option Addr) (n cap : Nat) : Prop where
  bel : Below w.heap.size w wr
  a : BoxM wr w.heap.size (.int .i64 x) (.int .i64 y) (.slice ao n cap)
  r1 : BoxM wr (w.heap.size + 1) (.int .i64 0) (.int .i64 0) (.slice none 0 0)
  r2 : BoxM wr (w.heap.size + 1 + 1) (.int .i64 0) (.int .i64 0) (.slice none 0 0)
theorem FcSt.all {w wr w' : World} {x y : Int} {ao : Option Addr} {n cap : Nat} (t : FcSt w wr x y ao n cap) (hb : Below wr.heap.size wr w') : FcSt w w' x y ao n cap := ⟨t.bel.trans (hb.mono t.bel.size), t.a.all hb, t.r1.all hb, t.r2.all hb⟩
theorem FcSt.start (w : World) (x y : Int) (ao : Option Addr) (n cap : Nat) : FcSt w (((w.alloc (.cells #[.int .i64 x, .int .i64 y, .slice ao n cap] 24)).alloc (.cells #[.int .i64 0, .int .i64 0, .slice none 0 0] 24)).alloc (.cells #[.int .i64 0, .int .i64 0, .slice none 0 0] 24)) x y ao n cap := by
  obtain ⟨h1, h2, h3, h4⟩ := boxes3 w (.int .i64 x) (.int .i64 y) (.slice ao n cap) (.int .i64 0) (.int .i64 0) (.slice none 0 0) (.int .i64 0) (.int .i64 0) (.slice none 0 0) _ (Below.refl _ _)
  exact ⟨h1, h2, h3, h4⟩

set_option maxRecDepth 20000 in
set_option maxHeartbeats 8000000 in
theorem factor_of (r c n nq K cap : Nat) (ao : Option Addr) (S QF : List Nat) (V : Nat → List Nat) (tau : Nat → Nat) (ok fq fr : Bool) (w : World) (lS : S.length = n) (lQ : QF.length = nq) (hfq : fnK (mxL QF) nq = fq)
    (C1 : ∀ w', Below w.heap.size w w' → Calls Tryz.prog 21 #[.agg #[.int .i64 r, .int .i64 c, .slice ao n cap]] w' fun e w'' => e = .returned (.int .i64 0) ∧ Below w'.heap.size w' w'')
    (C2 : ∀ w', Below w.heap.size w w' → Calls Tryz.prog 22 #[.agg #[.int .i64 r, .int .i64 c, .slice ao n cap]] w' fun e w'' => TriAns w' w'' ok r c n K S V tau e ∧ Below w'.heap.size w' w'')
    (C3 : ∀ w' lo lc R, Below w.heap.size w w' → OwnMt 0 w' (.slice lo K lc) R → R.length = K → (∀ k, k < K → (mrAt R k).V = V k ∧ (mrAt R k).tau = tau k) → Calls Tryz.prog 23 #[.int .i64 r, .slice lo K lc] w' fun e w'' => ∃ Q qo qc, (Q = QF ∨ (fnK (mxL Q) nq = false ∧ fq = false)) ∧ Q.length = nq ∧ e = .returned (.agg #[.int .i64 r, .int .i64 r, .slice qo nq qc]) ∧ NewB w'.heap.size qo (mxL Q) ∧ BitsAt w'' qo qc (mxL Q) ∧ Below w'.heap.size w' w'')
    (C4 : ∀ w' Q qo qc, BitsAt w' qo qc (mxL Q) → Q.length = nq → Calls Tryz.prog 24 #[.slice qo nq qc] w' fun e w'' => e = .returned (.bool (fnK (mxL Q) nq)) ∧ Below w'.heap.size w' w'')
    (C5 : ∀ w' ro rc, BitsAt w' ro rc (mxL S) → Calls Tryz.prog 24 #[.slice ro n rc] w' fun e w'' => e = .returned (.bool fr) ∧ Below w'.heap.size w' w'') :
    Calls Tryz.prog 8 #[.agg #[.int .i64 r, .int .i64 c, .slice ao n cap]] w fun e w' => (((ok && (fq && fr)) = true ∧ ∃ v u, e = .returned (.tuple #[v, u, .int .i64 0]) ∧ NewM w.heap.size w' r r QF v ∧ NewM w.heap.size w' r c S u) ∨ ((ok && (fq && fr)) = false ∧ ∃ v u, e = .returned (.tuple #[v, u, .int .i64 2]) ∧ NewM w.heap.size w' 0 0 [] v ∧ NewM w.heap.size w' 0 0 [] u)) ∧ Below w.heap.size w w' := by
  have ST := hide (FcSt.start w r c ao n cap)
  have K1 := hide (C1 _ (unhide ST).bel); have K2 := hide C2; have K3 := hide C3; have K4 := hide C4; have K5 := hide C5; have LS := hide lS; have LQ := hide lQ; have HFQ := hide hfq
  clear C1 C2 C3 C4 C5 lS lQ hfq
  go_enter Tryz.func8, Tryz.ntmps8
  go_wp2_with fail
  refine (unhide K1).mono ?_
  rintro e w1 ⟨rfl, hb⟩
  replace ST := hide ((unhide ST).all hb)
  clear hb K1
  have y0 := (unhide ST).a.c0; have y1 := (unhide ST).a.c1; have y2 := (unhide ST).a.c2
  go_wp2_with fail
  clear y0 y1 y2
  refine (unhide K2 _ (unhide ST).bel).mono ?_
  rintro e w2 ⟨hans, hb⟩
  have S2 := hide ((unhide ST).all hb)
  have HZ := hide (show w.heap.size ≤ w1.heap.size from (unhide ST).bel.size)
  clear hb ST K2
  rcases hans with ⟨hok, ro, rc, v, R, rfl, hn, hq, hl, hRl, hRm⟩ | ⟨hok, rfl⟩
  · obtain ⟨lo, lc, hvl⟩ := hl.slice
    rw [hRl] at hvl
    subst hvl
    have ba := below_alloc9 w2 (.cells #[.int .i64 r, .int .i64 c, .slice ro n rc] 24)
    have HGB := hide (unhide S2).r2.lt
    have RB := hide (BoxM.new w2 (.int .i64 r) (.int .i64 c) (.slice ro n rc))
    replace S2 := hide ((unhide S2).all ba)
    have HQ := hide (hq.below ba)
    have HN := hide (hn.least (unhide HZ))
    have HL := hide ((hl.least (Nat.zero_le _)).below ba)
    have HRL := hide hRl; have HRM := hide hRm; have HOK := hide hok
    clear ba hq hn hl hRl hRm hok HZ
    have y0 := (unhide S2).a.c0
    go_wp2_with fail
    clear y0
    refine (unhide K3 _ lo lc R (unhide S2).bel (unhide HL) (unhide HRL) (unhide HRM)).mono ?_
    rintro e w3 ⟨Q, qo, qc, hQ, lQ, rfl, hn, hq, hb⟩
    have ba := below_alloc9 w3 (.cells #[.int .i64 r, .int .i64 r, .slice qo nq qc] 24)
    have HGA := hide ((unhide S2).all hb).r2.lt
    have QB := hide (BoxM.new w3 (.int .i64 r) (.int .i64 r) (.slice qo nq qc))
    have HN3 := hide (hn.least (unhide S2).bel.size)
    replace S2 := hide (((unhide S2).all hb).all ba)
    replace RB := hide (((unhide RB).all hb).all ba)
    replace HQ := hide (((unhide HQ).below hb).below ba)
    have HQ3 := hide (hq.below ba)
    have HQQ := hide hQ; have LQQ := hide lQ
    clear hb ba hn hq HL hQ lQ K3
    have y2 := (unhide QB).c2
    go_wp2_with fail
    clear y2
    refine (unhide K4 _ Q qo qc (unhide HQ3) (unhide LQQ)).mono ?_
    rintro e w4 ⟨rfl, hb⟩
    replace S2 := hide ((unhide S2).all hb)
    replace RB := hide ((unhide RB).all hb)
    replace QB := hide ((unhide QB).all hb)
    replace HQ := hide ((unhide HQ).below hb)
    replace HQ3 := hide ((unhide HQ3).below hb)
    clear hb K4
    cases hfQ : fnK (mxL Q) nq with
    | false =>
      have hno : Hid ((ok && (fq && fr)) = false) := hide (by
        rcases unhide HQQ with e | e
        · rw [e, unhide HFQ] at hfQ
          rw [hfQ]; cases ok <;> rfl
        · rw [e.2]; cases ok <;> rfl)
      clear RB QB HQ HQ3
      have X1 := (unhide S2).r1; have X2 := (unhide S2).r2
      have s0 := X1.c0; have s1 := X1.c1; have s2 := X1.c2
      have f0 := X1.free 0; have f1 := X1.free 1; have f2 := X1.free 2
      have Y1 := X1.put (.int .i64 0) (.int .i64 0) (.slice none 0 0)
      have Y2 := X2.three14 (g := w.heap.size + 1) (by omega) (.int .i64 0) (.int .i64 0) (.slice none 0 0)
      have s3 := Y2.c0; have s4 := Y2.c1; have s5 := Y2.c2
      have f3 := Y2.free 0; have f4 := Y2.free 1; have f5 := Y2.free 2
      have Z1 := Y1.three14 (g := w.heap.size + 1 + 1) (by omega) (.int .i64 0) (.int .i64 0) (.slice none 0 0)
      have Z2 := Y2.put (.int .i64 0) (.int .i64 0) (.slice none 0 0)
      have z0 := Z1.c0; have z1 := Z1.c1; have z2 := Z1.c2; have z3 := Z2.c0; have z4 := Z2.c1; have z5 := Z2.c2
      have BP := hide (below_putM (below_putM (unhide S2).bel (b := w.heap.size + 1) (by omega) (.int .i64 0) (.int .i64 0) (.slice none 0 0)) (b := w.heap.size + 1 + 1) (by omega) (.int .i64 0) (.int .i64 0) (.slice none 0 0))
      clear X1 X2 Y1 Y2 Z1 Z2 S2
      go_wp2_with fail
      exact bodyPost_ret (v := .tuple #[.agg #[.int .i64 0, .int .i64 0, .slice none 0 0], .agg #[.int .i64 0, .int .i64 0, .slice none 0 0], .int .i64 2]) (by simp [results, Tryz.results8, go_sem, z0, z1, z2, z3, z4, z5]) rfl ⟨.inr ⟨unhide hno, _, _, rfl, NewM.zero _ _, NewM.zero _ _⟩, unhide BP⟩
    | true =>
      have hQe : Q = QF := by
        rcases unhide HQQ with e | e
        · exact e
        · rw [e.1] at hfQ; cases hfQ
      subst hQe
      have hfq : fq = true := by rw [← unhide HFQ]; exact hfQ
      have y2 := (unhide RB).c2
      go_wp2_with fail
      clear y2
      refine (unhide K5 _ ro rc (unhide HQ)).mono ?_
      rintro e w5 ⟨rfl, hb⟩
      replace S2 := hide ((unhide S2).all hb)
      replace RB := hide ((unhide RB).all hb)
      replace QB := hide ((unhide QB).all hb)
      replace HQ := hide ((unhide HQ).below hb)
      replace HQ3 := hide ((unhide HQ3).below hb)
      clear hb K5
      cases hfr : fr with
      | false =>
        have hno : Hid ((ok && (fq && fr)) = false) := hide (by rw [hfr]; cases ok <;> cases fq <;> rfl)
        clear RB QB HQ HQ3
        have X1 := (unhide S2).r1; have X2 := (unhide S2).r2
        have s0 := X1.c0; have s1 := X1.c1; have s2 := X1.c2
        have f0 := X1.free 0; have f1 := X1.free 1; have f2 := X1.free 2
        have Y1 := X1.put (.int .i64 0) (.int .i64 0) (.slice none 0 0)
        have Y2 := X2.three14 (g := w.heap.size + 1) (by omega) (.int .i64 0) (.int .i64 0) (.slice none 0 0)
        have s3 := Y2.c0; have s4 := Y2.c1; have s5 := Y2.c2
        have f3 := Y2.free 0; have f4 := Y2.free 1; have f5 := Y2.free 2
        have Z1 := Y1.three14 (g := w.heap.size + 1 + 1) (by omega) (.int .i64 0) (.int .i64 0) (.slice none 0 0)
        have Z2 := Y2.put (.int .i64 0) (.int .i64 0) (.slice none 0 0)
        have z0 := Z1.c0; have z1 := Z1.c1; have z2 := Z1.c2; have z3 := Z2.c0; have z4 := Z2.c1; have z5 := Z2.c2
        have BP := hide (below_putM (below_putM (unhide S2).bel (b := w.heap.size + 1) (by omega) (.int .i64 0) (.int .i64 0) (.slice none 0 0)) (b := w.heap.size + 1 + 1) (by omega) (.int .i64 0) (.int .i64 0) (.slice none 0 0))
        clear X1 X2 Y1 Y2 Z1 Z2 S2
        go_wp2_with fail
        exact bodyPost_ret (v := .tuple #[.agg #[.int .i64 0, .int .i64 0, .slice none 0 0], .agg #[.int .i64 0, .int .i64 0, .slice none 0 0], .int .i64 2]) (by simp [results, Tryz.results8, go_sem, z0, z1, z2, z3, z4, z5]) rfl ⟨.inr ⟨unhide hno, _, _, rfl, NewM.zero _ _, NewM.zero _ _⟩, unhide BP⟩
      | true =>
        have hyes : Hid ((ok && (fq && fr)) = true) := hide (by rw [unhide HOK, hfq, hfr]; rfl)
        clear hfQ HFQ HQQ hfq hfr
        go_wp2_with fail
        refine at_world (fun W => FcSt w W r c ao n cap ∧ BoxM W w2.heap.size (.int .i64 r) (.int .i64 c) (.slice ro n rc) ∧ BoxM W w3.heap.size (.int .i64 r) (.int .i64 r) (.slice qo nq qc) ∧ BitsAt W ro rc (mxL S) ∧ BitsAt W qo qc (mxL Q)) ⟨unhide S2, unhide RB, unhide QB, unhide HQ, unhide HQ3⟩ ?_
        clear S2 RB QB HQ HQ3
        rintro W ⟨s2, rb, qb, hq, hq3⟩
        have S2 := hide (s2)
        have y0 := (rb).c0; have y1 := (rb).c1; have y2 := (rb).c2
        have y3 := (qb).c0; have y4 := (qb).c1; have y5 := (qb).c2
        have Q1 := hq; have Q3 := hq3
        clear s2 rb qb hq hq3
        have X1 := (unhide S2).r1; have X2 := (unhide S2).r2
        have s0 := X1.c0; have s1 := X1.c1; have s2 := X1.c2
        have f0 := X1.free 0; have f1 := X1.free 1; have f2 := X1.free 2
        have Y1 := X1.put (.int .i64 r) (.int .i64 r) (.slice qo nq qc)
        have Y2 := X2.three14 (g := w.heap.size + 1) (by omega) (.int .i64 r) (.int .i64 r) (.slice qo nq qc)
        have s3 := Y2.c0; have s4 := Y2.c1; have s5 := Y2.c2
        have f3 := Y2.free 0; have f4 := Y2.free 1; have f5 := Y2.free 2
        have Z1 := Y1.three14 (g := w.heap.size + 1 + 1) (by omega) (.int .i64 r) (.int .i64 c) (.slice ro n rc)
        have Z2 := Y2.put (.int .i64 r) (.int .i64 c) (.slice ro n rc)
        have z0 := Z1.c0; have z1 := Z1.c1; have z2 := Z1.c2; have z3 := Z2.c0; have z4 := Z2.c1; have z5 := Z2.c2
        have BP := hide (below_putM (below_putM (unhide S2).bel (b := w.heap.size + 1) (by omega) (.int .i64 r) (.int .i64 r) (.slice qo nq qc)) (b := w.heap.size + 1 + 1) (by omega) (.int .i64 r) (.int .i64 c) (.slice ro n rc))
        have PR := hide ((Q1.putM X1 (.int .i64 r) (.int .i64 r) (.slice qo nq qc)).putM Y2 (.int .i64 r) (.int .i64 c) (.slice ro n rc))
        have PQ := hide ((Q3.putM X1 (.int .i64 r) (.int .i64 r) (.slice qo nq qc)).putM Y2 (.int .i64 r) (.int .i64 c) (.slice ro n rc))
        clear X1 X2 Y1 Y2 Z1 Z2 S2 Q1 Q3
        have HS0 := hide (show _ ∧ _ ∧ _ ∧ _ ∧ _ ∧ _ from ⟨cell_drew14 y3, cell_drew14 y4, cell_drew14 y5, cell_drew14 y0, cell_drew14 y1, cell_drew14 y2⟩)
        have HP2 := hide (show _ ∧ _ ∧ _ ∧ _ ∧ _ ∧ _ from ⟨cell_three14 (u := .int .i64 r) (u' := .int .i64 r) (u'' := .slice qo nq qc) (show w3.heap.size ≠ w.heap.size + 1 by have := unhide HGA; omega) y3, cell_three14 (u := .int .i64 r) (u' := .int .i64 r) (u'' := .slice qo nq qc) (show w3.heap.size ≠ w.heap.size + 1 by have := unhide HGA; omega) y4, cell_three14 (u := .int .i64 r) (u' := .int .i64 r) (u'' := .slice qo nq qc) (show w3.heap.size ≠ w.heap.size + 1 by have := unhide HGA; omega) y5, cell_three14 (u := .int .i64 r) (u' := .int .i64 r) (u'' := .slice qo nq qc) (show w2.heap.size ≠ w.heap.size + 1 by have := unhide HGB; omega) y0, cell_three14 (u := .int .i64 r) (u' := .int .i64 r) (u'' := .slice qo nq qc) (show w2.heap.size ≠ w.heap.size + 1 by have := unhide HGB; omega) y1, cell_three14 (u := .int .i64 r) (u' := .int .i64 r) (u'' := .slice qo nq qc) (show w2.heap.size ≠ w.heap.size + 1 by have := unhide HGB; omega) y2⟩)
        have HS2 := hide (show _ ∧ _ ∧ _ ∧ _ ∧ _ ∧ _ from ⟨cell_three14d (u := .int .i64 r) (u' := .int .i64 r) (u'' := .slice qo nq qc) (show w3.heap.size ≠ w.heap.size + 1 by have := unhide HGA; omega) y3, cell_three14d (u := .int .i64 r) (u' := .int .i64 r) (u'' := .slice qo nq qc) (show w3.heap.size ≠ w.heap.size + 1 by have := unhide HGA; omega) y4, cell_three14d (u := .int .i64 r) (u' := .int .i64 r) (u'' := .slice qo nq qc) (show w3.heap.size ≠ w.heap.size + 1 by have := unhide HGA; omega) y5, cell_three14d (u := .int .i64 r) (u' := .int .i64 r) (u'' := .slice qo nq qc) (show w2.heap.size ≠ w.heap.size + 1 by have := unhide HGB; omega) y0, cell_three14d (u := .int .i64 r) (u' := .int .i64 r) (u'' := .slice qo nq qc) (show w2.heap.size ≠ w.heap.size + 1 by have := unhide HGB; omega) y1, cell_three14d (u := .int .i64 r) (u' := .int .i64 r) (u'' := .slice qo nq qc) (show w2.heap.size ≠ w.heap.size + 1 by have := unhide HGB; omega) y2⟩)
        have HS3 := hide (show _ ∧ _ ∧ _ ∧ _ ∧ _ ∧ _ from ⟨cell_three14d (u := .int .i64 r) (u' := .int .i64 c) (u'' := .slice ro n rc) (show w3.heap.size ≠ w.heap.size + 1 + 1 by have := unhide HGA; omega) (unhide HP2).1, cell_three14d (u := .int .i64 r) (u' := .int .i64 c) (u'' := .slice ro n rc) (show w3.heap.size ≠ w.heap.size + 1 + 1 by have := unhide HGA; omega) (unhide HP2).2.1, cell_three14d (u := .int .i64 r) (u' := .int .i64 c) (u'' := .slice ro n rc) (show w3.heap.size ≠ w.heap.size + 1 + 1 by have := unhide HGA; omega) (unhide HP2).2.2.1, cell_three14d (u := .int .i64 r) (u' := .int .i64 c) (u'' := .slice ro n rc) (show w2.heap.size ≠ w.heap.size + 1 + 1 by have := unhide HGB; omega) (unhide HP2).2.2.2.1, cell_three14d (u := .int .i64 r) (u' := .int .i64 c) (u'' := .slice ro n rc) (show w2.heap.size ≠ w.heap.size + 1 + 1 by have := unhide HGB; omega) (unhide HP2).2.2.2.2.1, cell_three14d (u := .int .i64 r) (u' := .int .i64 c) (u'' := .slice ro n rc) (show w2.heap.size ≠ w.heap.size + 1 + 1 by have := unhide HGB; omega) (unhide HP2).2.2.2.2.2⟩)
        clear y0 y1 y2 y3 y4 y5
        refine wp_region_held_drew (S := (fun w' => w'.cell? ⟨w3.heap.size, 0, none⟩ = some (.int .i64 (r : Int)) ∧ w'.cell? ⟨w3.heap.size, 1, none⟩ = some (.int .i64 (r : Int)) ∧ w'.cell? ⟨w3.heap.size, 2, none⟩ = some (.slice qo nq qc) ∧ w'.cell? ⟨w2.heap.size, 0, none⟩ = some (.int .i64 (r : Int)) ∧ w'.cell? ⟨w2.heap.size, 1, none⟩ = some (.int .i64 (c : Int)) ∧ w'.cell? ⟨w2.heap.size, 2, none⟩ = some (.slice ro n rc))) (by kernel_rfl) ?_ (fun hHeld => ?_)
        · exact unhide HS0
        refine wpAnyH_take (i := 0) (oi := { dst := some 44, op := Op.load 24 (Operand.tmp 9), type := 24, pos := "qr.go:24", after := #[], guard := none }) (v := (Value.agg #[.int .i64 (r : Int), .int .i64 (r : Int), .slice qo nq qc])) rfl (by kernel_rfl) (by kernel_rfl) (by kernel_rfl) (fun _ _ _ h => h) (Or.inl ⟨by rfl, ?_⟩) (by assumption) ?_
        · (intro w hSw; (try dsimp only at hSw); go_simp)
        simp only [Act.put, List.setIfInBounds_toArray, List.set_cons_zero, List.set_cons_succ]
        refine wpAnyH_take (i := 1) (oi := { dst := some 45, op := Op.load 24 (Operand.tmp 6), type := 24, pos := "qr.go:24", after := #[{ on := 2, ground := Ground.gcOnly Departure.lateStores }], guard := none }) (v := (Value.agg #[.int .i64 (r : Int), .int .i64 (c : Int), .slice ro n rc])) rfl (by kernel_rfl) (by kernel_rfl) (by kernel_rfl) (fun _ _ _ h => h) (Or.inl ⟨by rfl, ?_⟩) (by assumption) ?_
        · (intro w hSw; (try dsimp only at hSw); go_simp)
        simp only [Act.put, List.setIfInBounds_toArray, List.set_cons_zero, List.set_cons_succ]
        refine wpAnyH_ready (rs := [2]) (by kernel_rfl) (by simp) ?_
        refine AllReadyH.cons (o := { dst := none, op := Op.store 24 (Operand.tmp 2) (Operand.tmp 44), type := 0, pos := "qr.go:24", after := #[{ on := 0, ground := Ground.data }, { on := 0, ground := Ground.phase }, { on := 1, ground := Ground.textOnly Departure.lateStores }], guard := none }) rfl (fun KK hK => ?_) AllReadyH.nil
        go_simp
        refine hK.out _ _ ?_ (fun hHeld => ?_)
        · exact unhide HS2
        clear hK KK
        refine wpAnyH_ready (rs := [3]) (by kernel_rfl) (by simp) ?_
        refine AllReadyH.cons (o := { dst := none, op := Op.store 24 (Operand.tmp 3) (Operand.tmp 45), type := 0, pos := "qr.go:24", after := #[{ on := 1, ground := Ground.data }, { on := 2, ground := Ground.chain }, { on := 0, ground := Ground.phase }, { on := 1, ground := Ground.phase }, { on := 2, ground := Ground.phase }], guard := none }) rfl (fun KK hK => ?_) AllReadyH.nil
        go_simp
        refine hK.out _ _ ?_ (fun hHeld => ?_)
        · exact unhide HS3
        clear hK KK
        refine wpAnyH_ready (rs := [4]) (by kernel_rfl) (by simp) ?_
        refine AllReadyH.cons (o := { dst := some 4, op := Op.assign (Operand.const (Value.int IntKind.i64 0)), type := 26, pos := "qr.go:24", after := #[{ on := 3, ground := Ground.chain }, { on := 0, ground := Ground.phase }, { on := 1, ground := Ground.phase }, { on := 2, ground := Ground.phase }, { on := 3, ground := Ground.phase }], guard := none }) rfl (fun KK hK => ?_) AllReadyH.nil
        go_simp
        refine hK.out _ _ ?_ (fun hHeld => ?_)
        · exact unhide HS3
        clear hK KK
        refine wpAnyH_done (by kernel_rfl) ?_ _
        clear HS0 HS2 HS3 HP2
        go_wp2_with fail
        refine bodyPost_ret (v := .tuple #[.agg #[.int .i64 r, .int .i64 r, .slice qo nq qc], .agg #[.int .i64 r, .int .i64 c, .slice ro n rc], .int .i64 0]) (by simp [results, Tryz.results8, go_sem, z0, z1, z2, z3, z4, z5]) rfl ⟨.inl ⟨unhide hyes, _, _, rfl, ⟨qo, qc, by rw [unhide LQ], unhide HN3, (unhide PQ).below (Below.refl _ _).drew⟩, ⟨ro, rc, by rw [unhide LS], unhide HN, (unhide PR).below (Below.refl _ _).drew⟩⟩, (unhide BP).drew⟩
  · have hno : Hid ((ok && (fq && fr)) = false) := hide (by rw [hok]; rfl)
    have ba := below_alloc9 w2 (.cells #[.int .i64 0, .int .i64 0, .slice none 0 0] 24)
    replace S2 := hide ((unhide S2).all ba)
    clear ba hok HZ
    have X1 := (unhide S2).r1; have X2 := (unhide S2).r2
    have s0 := X1.c0; have s1 := X1.c1; have s2 := X1.c2
    have f0 := X1.free 0; have f1 := X1.free 1; have f2 := X1.free 2
    have Y1 := X1.put (.int .i64 0) (.int .i64 0) (.slice none 0 0)
    have Y2 := X2.three14 (g := w.heap.size + 1) (by omega) (.int .i64 0) (.int .i64 0) (.slice none 0 0)
    have s3 := Y2.c0; have s4 := Y2.c1; have s5 := Y2.c2
    have f3 := Y2.free 0; have f4 := Y2.free 1; have f5 := Y2.free 2
    have Z1 := Y1.three14 (g := w.heap.size + 1 + 1) (by omega) (.int .i64 0) (.int .i64 0) (.slice none 0 0)
    have Z2 := Y2.put (.int .i64 0) (.int .i64 0) (.slice none 0 0)
    have z0 := Z1.c0; have z1 := Z1.c1; have z2 := Z1.c2; have z3 := Z2.c0; have z4 := Z2.c1; have z5 := Z2.c2
    have BP := hide (below_putM (below_putM (unhide S2).bel (b := w.heap.size + 1) (by omega) (.int .i64 0) (.int .i64 0) (.slice none 0 0)) (b := w.heap.size + 1 + 1) (by omega) (.int .i64 0) (.int .i64 0) (.slice none 0 0))
    clear X1 X2 Y1 Y2 Z1 Z2 S2
    go_wp2_with fail
    exact bodyPost_ret (v := .tuple #[.agg #[.int .i64 0, .int .i64 0, .slice none 0 0], .agg #[.int .i64 0, .int .i64 0, .slice none 0 0], .int .i64 2]) (by simp [results, Tryz.results8, go_sem, z0, z1, z2, z3, z4, z5]) rfl ⟨.inr ⟨unhide hno, _, _, rfl, NewM.zero _ _, NewM.zero _ _⟩, unhide BP⟩

end Go.Proofs.YtfkndkaneffgdaaGreatDoor

/- Package qr: Thin, Turned, by letters (mkmv.py). -/
namespace Go.Proofs.YtfkndkaneffgdaaGreatDoor
open Go.RowKit
attribute [local go_sem ↓] Go.wp_at_zero Go.wp_at_succ
set_option maxRecDepth 20000 in
set_option maxHeartbeats 4000000 in
theorem turned_no (r c : Int) (ao : Option Addr) (n cap : Nat) (p s : Int) (bo : Option Addr) (m d : Nat) (w : World)
    (C1 : ∀ w', Below w.heap.size w w' → Calls Tryz.prog 33 #[.agg #[.int .i64 r, .int .i64 c, .slice ao n cap]] w' fun e w'' => ∃ v, e = .returned (.tuple #[v, .int .i64 1]) ∧ NewM w'.heap.size w'' 0 0 [] v ∧ Below w'.heap.size w' w'') :
    Calls Tryz.prog 16 #[.agg #[.int .i64 r, .int .i64 c, .slice ao n cap], .agg #[.int .i64 p, .int .i64 s, .slice bo m d]] w fun e w' => ∃ v, e = .returned (.tuple #[v, .int .i64 1]) ∧ NewM w.heap.size w' 0 0 [] v ∧ Below w.heap.size w w' := by
  have hbx := boxes3 w (.int .i64 r) (.int .i64 c) (.slice ao n cap) (.int .i64 p) (.int .i64 s) (.slice bo m d) (.int .i64 0) (.int .i64 0) (.slice none 0 0) _ (Below.refl _ _)
  have K1 := hide (C1 _ hbx.1)
  have HB := hide hbx.1; have HX := hide hbx.2.2.2
  clear C1 hbx
  go_enter Tryz.func16, Tryz.ntmps16
  go_wp2_with fail
  refine (unhide K1).mono ?_
  rintro e w1 ⟨v, rfl, ⟨vo, vc, rfl, _, _⟩, hb⟩
  simp only [List.length_nil]
  have ba := below_alloc9 w1 (.cells #[.int .i64 0, .int .i64 0, .slice vo 0 vc] 24)
  have hX := ((unhide HX).all hb).all ba
  have b1 := (unhide HB).trans (hb.mono (unhide HB).size)
  have hB := b1.trans (ba.mono b1.size)
  clear K1 HB HX hb ba b1
  have f0 := hX.free 0; have f1 := hX.free 1; have f2 := hX.free 2
  have s0 := hX.c0; have s1 := hX.c1; have s2 := hX.c2
  have XP := hX.put (.int .i64 0) (.int .i64 0) (.slice none 0 0)
  have z0 := XP.c0; have z1 := XP.c1; have z2 := XP.c2
  have BP := hide (below_putM hB (b := w.heap.size + 1 + 1) (by omega) (.int .i64 0) (.int .i64 0) (.slice none 0 0))
  clear XP hX hB
  go_wp2_with fail
  refine bodyPost_ret (v := .tuple #[.agg #[.int .i64 0, .int .i64 0, .slice none 0 0], .int .i64 1]) (by simp [results, Tryz.results16, go_sem, z0, z1, z2]) rfl ⟨_, rfl, NewM.zero _ _, unhide BP⟩

set_option maxRecDepth 20000 in
set_option maxHeartbeats 4000000 in
theorem qturned_of (r c : Int) (ao : Option Addr) (n cap : Nat) (p s : Int) (bo : Option Addr) (m d n1 n2 x y u v : Nat) (T M : List Nat) (er : Int) (w : World) (l1 : T.length = n1) (l2 : M.length = n2)
    (C1 : ∀ w', Below w.heap.size w w' → Calls Tryz.prog 33 #[.agg #[.int .i64 r, .int .i64 c, .slice ao n cap]] w' fun e w'' => ∃ v, e = .returned (.tuple #[v, .int .i64 0]) ∧ NewM w'.heap.size w'' x y T v ∧ Below w'.heap.size w' w'')
    (C2 : ∀ w' po pc, Below w.heap.size w w' → BitsAt w' po pc (mxL T) → Calls Tryz.prog 34 #[.agg #[.int .i64 x, .int .i64 y, .slice po n1 pc], .agg #[.int .i64 p, .int .i64 s, .slice bo m d]] w' fun e w'' => ∃ k, e = .returned (.tuple #[k, .int .i64 er]) ∧ NewM w'.heap.size w'' u v M k ∧ Below w'.heap.size w' w'') :
    Calls Tryz.prog 16 #[.agg #[.int .i64 r, .int .i64 c, .slice ao n cap], .agg #[.int .i64 p, .int .i64 s, .slice bo m d]] w fun e w' => ∃ k, e = .returned (.tuple #[k, .int .i64 er]) ∧ NewM w.heap.size w' u v M k ∧ Below w.heap.size w w' := by
  have hbx := boxes3 w (.int .i64 r) (.int .i64 c) (.slice ao n cap) (.int .i64 p) (.int .i64 s) (.slice bo m d) (.int .i64 0) (.int .i64 0) (.slice none 0 0) _ (Below.refl _ _)
  have K1 := hide (C1 _ hbx.1); have K2 := hide C2; have L1 := hide l1; have L2 := hide l2
  have HB := hide hbx.1; have HX := hide hbx.2.2.2; have HM := hide hbx.2.2.1
  clear C1 C2 hbx l1 l2
  go_enter Tryz.func16, Tryz.ntmps16
  go_wp2_with fail
  refine (unhide K1).mono ?_
  rintro e w1 ⟨v1, rfl, ⟨vo, vc, rfl, _, hq⟩, hb⟩
  rw [unhide L1]
  have ba := below_alloc9 w1 (.cells #[.int .i64 x, .int .i64 y, .slice vo n1 vc] 24)
  have TB := hide (BoxM.new w1 (.int .i64 x) (.int .i64 y) (.slice vo n1 vc))
  replace HX := hide (((unhide HX).all hb).all ba)
  replace HM := hide (((unhide HM).all hb).all ba)
  have HQ := hide (hq.below ba)
  have b1 := (unhide HB).trans (hb.mono (unhide HB).size)
  replace HB := hide (b1.trans (ba.mono b1.size))
  clear K1 hb ba b1 hq
  have q0 := (unhide TB).c0; have q1 := (unhide TB).c1; have q2 := (unhide TB).c2
  have q3 := (unhide HM).c0; have q4 := (unhide HM).c1; have q5 := (unhide HM).c2
  go_wp2_with fail
  clear q0 q1 q2 q3 q4 q5
  refine (unhide K2 _ vo vc (unhide HB) (unhide HQ)).mono ?_
  rintro e w2 ⟨k, rfl, ⟨ko, kc, rfl, hn, hq⟩, hb⟩
  rw [unhide L2]
  have hX := (unhide HX).all hb
  have HN := hide (hn.least (unhide HB).size)
  have hB := (unhide HB).trans (hb.mono (unhide HB).size)
  have f0 := hX.free 0; have f1 := hX.free 1; have f2 := hX.free 2
  have s0 := hX.c0; have s1 := hX.c1; have s2 := hX.c2
  have XP := hX.put (.int .i64 u) (.int .i64 v) (.slice ko n2 kc)
  have z0 := XP.c0; have z1 := XP.c1; have z2 := XP.c2
  have BP := hide (below_putM hB (b := w.heap.size + 1 + 1) (by omega) (.int .i64 u) (.int .i64 v) (.slice ko n2 kc))
  have QP := hide (hq.putM hX (.int .i64 u) (.int .i64 v) (.slice ko n2 kc))
  clear XP hX hB hb hn hq HB HX HM TB HQ K2
  go_wp2_with fail
  refine bodyPost_ret (v := .tuple #[.agg #[.int .i64 u, .int .i64 v, .slice ko n2 kc], .int .i64 er]) (by simp [results, Tryz.results16, go_sem, z0, z1, z2]) rfl ⟨_, rfl, ⟨ko, kc, by rw [unhide L2], unhide HN, unhide QP⟩, unhide BP⟩

end Go.Proofs.YtfkndkaneffgdaaGreatDoor

/- Contracts of the reference's zero, pivot. -/
namespace Go.Proofs.YtfkndkaneffgdaaGreatDoor
open Go.RowKit
attribute [local go_sem ↓] Go.wp_at_zero Go.wp_at_succ

/-- Is the number 0? -/
def nilAt (N : List Rw) (i c : Nat) : Prop := (nmAt (rwAt N i).R c).L.length = 0

end Go.Proofs.YtfkndkaneffgdaaGreatDoor

/- Rows in a block of the call's own, row by row overwritten, and what they are (for the reference's Rank). -/
namespace Go.Proofs.YtfkndkaneffgdaaGreatDoor
open Go.RowKit

/-- How many digits the numbers have behind c columns. -/
def KK : Nat → Nat
  | 0 => 2098
  | c + 1 => 2 * KK c + 1
end Go.Proofs.YtfkndkaneffgdaaGreatDoor

/- The reference of layer 13: Make. -/
namespace Go.Proofs.YtfkndkaneffgdaaGreatDoor
open Go.RowKit
attribute [local go_sem ↓] Go.wp_at_zero Go.wp_at_succ
/-- The list behind j steps. -/
def mkJ (g : Nat → Nat) (j : Nat) : List Nat := 4607182418800017408 :: fsL g (j - 1)
end Go.Proofs.YtfkndkaneffgdaaGreatDoor

