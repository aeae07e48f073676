/- Part 26 of the texts. -/
import Derived.Test.YtheepcdlakjdcaaGreatDoorPart24
import Derived.Test.YtheepcdlakjdcaaGreatDoorPart25
import Derived.Test.YtheepcdlakjdcaaGreatDoorChecked
import Derived.Test.YtheepcdlakjdcaaGreatDoorPart02
import Derived.ProofKit
import Derived.SizedLaws
import Derived.Lib.SmallJoins
import Derived.Test.YtheepcdlakjdcaaGreatDoorRows
import Derived.Test.YtheepcdlakjdcaaGreatDoorPart09
import Derived.Lib.LaidTab
import Derived.OpenShut
import Derived.Deep.DeepHandedRow
/- The law MatrixMuls, walked (mknk.py). -/
namespace Go.Proofs.YtheepcdlakjdcaaGreatDoor
open Go.RowKit
attribute [local go_sem ↓] Go.wp_at_zero Go.wp_at_succ

set_option maxRecDepth 20000 in
set_option maxHeartbeats 16000000 in
theorem matrixMuls_of (r c : Int) (ao : Option Addr) (cap : Nat) (I : List Int) (p q : Int) (bo : Option Addr) (d : Nat) (J : List Int) (s1 s2 t1 t2 : Nat) (S T : List Nat) (f h : Int) (ok : Bool) (w : World) (hI : BitsAt w ao cap I) (hl : I.length ≤ 17592186043904) (hJ : BitsAt w bo d J) (hlj : J.length ≤ 17592186043904) (lg1 : (I.length : Int) ≤ 60) (lg2 : (J.length : Int) ≤ 60) (hT : Tab w)
    (way : (ok = false ∧ f = 1 ∧ h = 1 ∧ s1 = 0 ∧ s2 = 0 ∧ t1 = 0 ∧ t2 = 0 ∧ S = [] ∧ T = []) ∨ (ok = true ∧ (0 ≤ r ∧ r ≤ 6 ∧ 0 ≤ c ∧ c ≤ 6) ∧ (0 ≤ p ∧ p ≤ 6 ∧ 0 ≤ q ∧ q ≤ 6) ∧ ((¬ c = p ∧ f = 3 ∧ s1 = 0 ∧ s2 = 0 ∧ S = []) ∨ (c = p ∧ False ∧ f = 3 ∧ s1 = 0 ∧ s2 = 0 ∧ S = []) ∨ (c = p ∧ True ∧ f = 0)) ∧ ((¬ r = p ∧ h = 3 ∧ t1 = 0 ∧ t2 = 0 ∧ T = []) ∨ (r = p ∧ ¬ c = q ∧ h = 3 ∧ t1 = 0 ∧ t2 = 0 ∧ T = []) ∨ (r = p ∧ c = q ∧ h = 0)))) (hS : S.length ≤ 36) (hTl : T.length ≤ 36)
    (C2 : ∀ w' po pc qo qc, Tab w' → BitsAt w' po pc I → BitsAt w' qo qc J → Calls Tryz.prog 6 #[.agg #[.int .i64 r, .int .i64 c, .slice po I.length pc], .agg #[.int .i64 p, .int .i64 q, .slice qo J.length qc]] w' fun e w'' => ∃ v, e = .returned (.tuple #[v, .int .i64 f]) ∧ NewM w'.heap.size w'' s1 s2 S v ∧ Below w'.heap.size w' w'')
    (C3 : ∀ w' po pc qo qc, Tab w' → BitsAt w' po pc I → BitsAt w' qo qc J → Calls Tryz.prog 7 #[.agg #[.int .i64 r, .int .i64 c, .slice po I.length pc], .agg #[.int .i64 p, .int .i64 q, .slice qo J.length qc]] w' fun e w'' => ∃ v, e = .returned (.tuple #[v, .int .i64 h]) ∧ NewM w'.heap.size w'' t1 t2 T v ∧ Below w'.heap.size w' w'')
    (C5 : (okB r c I.length && okB p q J.length) = ok)
    (C6 : c = p → True → ok = true → ∀ w', Below w.heap.size w w' → Calls Tryz.prog 11 #[.agg #[.int .i64 r, .int .i64 c, .slice ao I.length cap], .agg #[.int .i64 p, .int .i64 q, .slice bo J.length d]] w' fun e w'' => ∃ v, e = .returned v ∧ NewM 0 w'' s1 s2 S v ∧ Below w'.heap.size w' w'')
    (C7 : r = p → c = q → ok = true → ∀ w', Below w.heap.size w w' → Calls Tryz.prog 12 #[.agg #[.int .i64 r, .int .i64 c, .slice ao I.length cap], .agg #[.int .i64 p, .int .i64 q, .slice bo J.length d]] w' fun e w'' => ∃ v, e = .returned v ∧ NewM 0 w'' t1 t2 T v ∧ Below w'.heap.size w' w'') :
    Calls Tryz.prog 3 #[.agg #[.int .i64 r, .int .i64 c, .slice ao I.length cap], .agg #[.int .i64 p, .int .i64 q, .slice bo J.length d]] w fun e w' => e = .returned (.bool true) ∧ Below w.heap.size w w' := by
  have HT := hide hT; have WAY := hide way; have HSl := hide hS; have HTl := hide hTl
  have K2 := hide C2; have K3 := hide C3; have K6 := hide C6; have K7 := hide C7
  have K5 := hide (fun w' => form10_any r c ao I.length cap p q bo J.length d w')
  rw [C5] at K5
  have b0 := below_alloc9 w (.cells #[.int .i64 r, .int .i64 c, .slice ao I.length cap] 24)
  have s0 := size_alloc9 w (.cells #[.int .i64 r, .int .i64 c, .slice ao I.length cap] 24)
  have x0 := BoxM.new w (.int .i64 r) (.int .i64 c) (.slice ao I.length cap)
  have b1 := below_alloc9 (w.alloc (.cells #[.int .i64 r, .int .i64 c, .slice ao I.length cap] 24)) (.cells #[.int .i64 p, .int .i64 q, .slice bo J.length d] 24)
  have x1 := BoxM.new (w.alloc (.cells #[.int .i64 r, .int .i64 c, .slice ao I.length cap] 24)) (.int .i64 p) (.int .i64 q) (.slice bo J.length d)
  rw [s0] at x1
  have bb := b0.trans (b1.mono b0.size)
  have HX0 := hide (x0.all b1); have HX1 := hide x1; have HBB := hide bb
  have K1 := hide (rcopy_any r c ao cap I _ (hI.below bb) hl)
  have K1b := hide (fun w' (hb : Below w.heap.size w w') => rcopy_any p q bo d J w' (hJ.below hb) hlj)
  have SAME := hide (fun base w' po pc (o : OwnB base w' (.slice po I.length pc) (natL I)) => o.same hI)
  have SAMEJ := hide (fun base w' po pc (o : OwnB base w' (.slice po J.length pc) (natL J)) => o.same hJ)
  have hl2 := hide (show I.length ≤ 35184372088830 by omega); have hl3 := hide (show J.length ≤ 35184372088830 by omega)
  clear b0 s0 x0 b1 x1 bb hI hl hJ hlj hT way hS hTl C2 C3 C5 C6 C7
  go_enter Tryz.func3, Tryz.ntmps3
  go_wp2_with fail
  refine Calls.mono (unhide K1) ?_
  rintro e w1 ⟨po, pc, rfl, own1, hb1⟩
  have bel1 := (unhide HBB).trans (hb1.mono (unhide HBB).size)
  have ba := below_alloc9 w1 (.cells #[.int .i64 r, .int .i64 c, .slice po I.length pc] 24)
  have Q1 := hide ((unhide SAME _ _ _ _ own1).below ba)
  have CP := hide ((own1.copy.base (unhide HBB).size).below ba)
  have BX := hide (BoxM.new w1 (.int .i64 r) (.int .i64 c) (.slice po I.length pc))
  have A1 := hide (((unhide HX0).all hb1).all ba); have A2 := ((unhide HX1).all hb1).all ba
  have B1 := hide (bel1.trans (ba.mono bel1.size))
  have HA2 := hide A2
  have x0 := A2.c0; have x1 := A2.c1; have x2 := A2.c2
  clear own1 hb1 bel1 ba A2 K1 HX0 HX1 HBB SAME
  go_wp2_with fail
  refine (unhide K1b _ (unhide B1)).mono ?_
  rintro e w2 ⟨qo, qc, rfl, own2, hb2⟩
  have zz := hide (size_alloc9 w1 (.cells #[.int .i64 r, .int .i64 c, .slice po I.length pc] 24))
  have bel2 := (unhide B1).trans (hb2.mono (unhide B1).size)
  have ba := below_alloc9 w2 (.cells #[.int .i64 p, .int .i64 q, .slice qo J.length qc] 24)
  have Q2 := hide ((unhide SAMEJ _ _ _ _ own2).below ba)
  have CQ := hide ((own2.copy.base (unhide B1).size).below ba)
  replace CP := hide (((((unhide CP).upto (H' := w2.heap.size) (by have := hb2.size; rw [unhide zz] at this; omega))).below hb2).below ba)
  replace Q1 := hide (((unhide Q1).below hb2).below ba)
  replace BX := hide (((unhide BX).all hb2).all ba)
  have BY := hide (BoxM.new w2 (.int .i64 p) (.int .i64 q) (.slice qo J.length qc))
  replace A1 := hide (((unhide A1).all hb2).all ba); replace HA2 := hide (((unhide HA2).all hb2).all ba)
  have B2 := hide (bel2.trans (ba.mono bel2.size))
  clear x0 x1 x2 own2 hb2 bel2 ba B1 K1b SAMEJ zz
  have y0 := (unhide BX).c0; have y1 := (unhide BX).c1; have y2 := (unhide BX).c2
  have x0 := (unhide BY).c0; have x1 := (unhide BY).c1; have x2 := (unhide BY).c2
  go_wp2_with fail
  refine (unhide K2 _ _ _ _ _ ((unhide HT).all (unhide B2)) (unhide Q1) (unhide Q2)).mono ?_
  rintro e w3 ⟨v, rfl, ⟨so, sd, rfl, ns, qs⟩, hb3⟩
  have zz := hide (size_alloc9 w2 (.cells #[.int .i64 p, .int .i64 q, .slice qo J.length qc] 24))
  have ba := below_alloc9 w3 (.cells #[.int .i64 s1, .int .i64 s2, .slice so S.length sd] 24)
  have NS := hide (ns.least (H' := w2.heap.size) (by rw [unhide zz]; omega))
  have QS := hide (qs.below ba)
  have XS := hide (BoxM.new w3 (.int .i64 s1) (.int .i64 s2) (.slice so S.length sd))
  have bel3 := (unhide B2).trans (hb3.mono (unhide B2).size)
  replace Q1 := hide (((unhide Q1).below hb3).below ba); replace Q2 := hide (((unhide Q2).below hb3).below ba)
  replace CP := hide (((unhide CP).below hb3).below ba); replace CQ := hide (((unhide CQ).below hb3).below ba)
  replace BX := hide (((unhide BX).all hb3).all ba); replace BY := hide (((unhide BY).all hb3).all ba)
  replace A1 := hide (((unhide A1).all hb3).all ba); replace HA2 := hide (((unhide HA2).all hb3).all ba)
  have B3 := hide (bel3.trans (ba.mono bel3.size))
  clear x0 x1 x2 y0 y1 y2 ns qs hb3 bel3 ba B2 K2 zz
  have y0 := (unhide BX).c0; have y1 := (unhide BX).c1; have y2 := (unhide BX).c2
  have x0 := (unhide BY).c0; have x1 := (unhide BY).c1; have x2 := (unhide BY).c2
  go_wp2_with fail
  refine (unhide K3 _ _ _ _ _ ((unhide HT).all (unhide B3)) (unhide Q1) (unhide Q2)).mono ?_
  rintro e w4 ⟨v, rfl, ⟨ro, rd, rfl, nt, qt⟩, hb4⟩
  have zz := hide (size_alloc9 w3 (.cells #[.int .i64 s1, .int .i64 s2, .slice so S.length sd] 24))
  have ba := below_alloc9 w4 (.cells #[.int .i64 t1, .int .i64 t2, .slice ro T.length rd] 24)
  have bel4 := (unhide B3).trans (hb4.mono (unhide B3).size)
  have ST := hide (show SkSt w (w4.alloc (.cells #[.int .i64 t1, .int .i64 t2, .slice ro T.length rd] 24)) w2.heap.size w1.heap.size w2.heap.size w3.heap.size w4.heap.size r c p q ao bo I.length cap J.length d po qo pc qc s1 s2 t1 t2 so sd S ro rd T from
    ⟨bel4.trans (ba.mono bel4.size), ((unhide A1).all hb4).all ba, ((unhide HA2).all hb4).all ba, ((unhide BX).all hb4).all ba, ((unhide BY).all hb4).all ba, ((unhide CP).below hb4).below ba, ((unhide CQ).below hb4).below ba, ⟨((unhide XS).all hb4).all ba, ((unhide QS).below hb4).below ba, unhide NS⟩, ⟨BoxM.new w4 _ _ _, qt.below ba, nt.least (by have h1 := (unhide XS).lt; have h2 := (unhide BY).lt; omega)⟩⟩)
  clear x0 x1 x2 y0 y1 y2 nt qt hb4 bel4 ba B3 K3 zz Q1 Q2 CP CQ BX BY A1 HA2 XS QS NS
  have y0 := (unhide ST).pb.c0; have y1 := (unhide ST).pb.c1; have y2 := (unhide ST).pb.c2
  go_wp2_with fail
  generalize w1.heap.size = g1 at *
  generalize w2.heap.size = g2 at *
  generalize w3.heap.size = g3 at *
  generalize w4.heap.size = g4 at *
  refine (spoil10_any (fun W => SkSt w W g2 g1 g2 g3 g4 r c p q ao bo I.length cap J.length d po qo pc qc s1 s2 t1 t2 so sd S ro rd T) r c po I.length pc _ (unhide hl2) (unhide ST) (fun w' w'' h hb => h.all hb) (fun w' j h hj => h.putP hj)).mono ?_
  rintro e w5 ⟨rfl, st5⟩
  clear y0 y1 y2 ST
  have ST := hide st5
  have y0 := st5.qb.c0; have y1 := st5.qb.c1; have y2 := st5.qb.c2
  clear st5
  go_wp2_with fail
  refine (spoil10_any (fun W => SkSt w W g2 g1 g2 g3 g4 r c p q ao bo I.length cap J.length d po qo pc qc s1 s2 t1 t2 so sd S ro rd T) p q qo J.length qc _ (unhide hl3) (unhide ST) (fun w' w'' h hb => h.all hb) (fun w' j h hj => h.putQ hj)).mono ?_
  rintro e w6 ⟨rfl, st6⟩
  clear y0 y1 y2 ST
  have ST := hide st6
  have a0 := st6.a.c0; have a1 := st6.a.c1; have a2 := st6.a.c2
  have b0 := st6.b.c0; have b1 := st6.b.c1; have b2 := st6.b.c2
  clear st6
  go_wp2_with fail
  refine (unhide K5 _).mono ?_
  rintro e w7 ⟨rfl, hb⟩
  clear a0 a1 a2 b0 b1 b2
  replace ST := hide ((unhide ST).all hb)
  have a0 := (unhide ST).a.c0; have a1 := (unhide ST).a.c1; have a2 := (unhide ST).a.c2
  have b0 := (unhide ST).b.c0; have b1 := (unhide ST).b.c1; have b2 := (unhide ST).b.c2
  have s0' := (unhide ST).s.box.c0; have s1' := (unhide ST).s.box.c1; have s2' := (unhide ST).s.box.c2
  have t0' := (unhide ST).t.box.c0; have t1' := (unhide ST).t.box.c1; have t2' := (unhide ST).t.box.c2
  clear hb K5
  rcases unhide WAY with ⟨rfl, rfl, rfl, rfl, rfl, rfl, rfl, rfl, rfl⟩ | ⟨rfl, ⟨hr0, hr1, hc0, hc1⟩, ⟨hp0, hp1, hq0, hq1⟩, wa, wb⟩
  · clear WAY K6 K7
    simp only [List.length_nil, Bool.false_eq_true, if_false] at s2' t2' ⊢
    go_wp2_with fail
    refine (told_err _ _ _ _ _ _ _ 1 _ (.inl rfl)).mono ?_
    rintro e w8 ⟨rfl, hb⟩
    clear a0 a1 a2 b0 b1 b2 s0' s1' s2' t0' t1' t2'
    replace ST := hide ((unhide ST).all hb)
    have a0 := (unhide ST).a.c0; have a1 := (unhide ST).a.c1; have a2 := (unhide ST).a.c2
    have b0 := (unhide ST).b.c0; have b1 := (unhide ST).b.c1; have b2 := (unhide ST).b.c2
    have s0' := (unhide ST).s.box.c0; have s1' := (unhide ST).s.box.c1; have s2' := (unhide ST).s.box.c2
    have t0' := (unhide ST).t.box.c0; have t1' := (unhide ST).t.box.c1; have t2' := (unhide ST).t.box.c2
    clear hb
    simp only [List.length_nil] at s2' t2'
    go_wp2_with fail
    refine (told_err _ _ _ _ _ _ _ 1 _ (.inl rfl)).mono ?_
    rintro e w9 ⟨rfl, hb⟩
    clear a0 a1 a2 b0 b1 b2 s0' s1' s2' t0' t1' t2'
    have BE := hide ((unhide ST).bel.trans (hb.mono (unhide ST).bel.size))
    clear hb ST
    go_wp2_with fail
    refine (awake10_any _ ((unhide HT).all (unhide BE))).mono ?_
    rintro e w19 ⟨rfl, hb⟩
    replace BE := hide ((unhide BE).trans (hb.mono (unhide BE).size))
    clear hb
    go_wp2
    go_ret
    exact ⟨rfl, unhide BE⟩
  · clear WAY
    rw [if_pos rfl]
    have BW := hide (below_alloc9 w7 (.cells #[.int .i64 0, .int .i64 0, .slice none 0 0] 24))
    have BW2 := hide (below_alloc9 (w7.alloc (.cells #[.int .i64 0, .int .i64 0, .slice none 0 0] 24)) (.cells #[.int .i64 0, .int .i64 0, .slice none 0 0] 24))
    have SZ := hide (size_alloc9 w7 (.cells #[.int .i64 0, .int .i64 0, .slice none 0 0] 24))
    have st8 := ((unhide ST).all (unhide BW)).all (unhide BW2)
    have XX := hide ((BoxM.new w7 (.int .i64 0) (.int .i64 0) (.slice none 0 0)).all (unhide BW2))
    have YY := BoxM.new (w7.alloc (.cells #[.int .i64 0, .int .i64 0, .slice none 0 0] 24)) (.int .i64 0) (.int .i64 0) (.slice none 0 0)
    rw [unhide SZ] at YY
    have HYY := hide YY
    have ORD := hide (show w.heap.size + 1 < w7.heap.size ∧ g1 < w7.heap.size ∧ g2 < w7.heap.size ∧ g3 < w7.heap.size ∧ g4 < w7.heap.size from ⟨(unhide ST).b.lt, (unhide ST).pb.lt, (unhide ST).qb.lt, (unhide ST).s.box.lt, (unhide ST).t.box.lt⟩)
    have ST := hide st8
    clear a0 a1 a2 b0 b1 b2 s0' s1' s2' t0' t1' t2' BW BW2 SZ YY
    have a0 := st8.a.c0; have a1 := st8.a.c1; have a2 := st8.a.c2
    have b0 := st8.b.c0; have b1 := st8.b.c1; have b2 := st8.b.c2
    clear st8
    rcases wa with ⟨nA, rfl, rfl, rfl, rfl⟩ | ⟨rfl, gA, rfl, rfl, rfl, rfl⟩ | ⟨rfl, lA, rfl⟩
    · rcases wb with ⟨nB, rfl, rfl, rfl, rfl⟩ | ⟨rfl, gB, rfl, rfl, rfl, rfl⟩ | ⟨rfl, rfl, rfl⟩
      · have v0 := (unhide XX).c0; have v1 := (unhide XX).c1; have v2 := (unhide XX).c2
        have s0' := (unhide ST).s.box.c0; have s1' := (unhide ST).s.box.c1; have s2' := (unhide ST).s.box.c2
        simp only [List.length_nil] at s2'
        go_wp2_with fail
        refine (told_err _ _ _ _ _ _ _ 3 _ (.inr rfl)).mono ?_
        rintro e w11 ⟨rfl, hb⟩
        replace ST := hide ((unhide ST).all hb); replace HYY := hide ((unhide HYY).all hb)
        clear hb XX
        have v0 := (unhide HYY).c0; have v1 := (unhide HYY).c1; have v2 := (unhide HYY).c2
        have t0' := (unhide ST).t.box.c0; have t1' := (unhide ST).t.box.c1; have t2' := (unhide ST).t.box.c2
        simp only [List.length_nil] at t2'
        go_wp2_with fail
        refine (told_err _ _ _ _ _ _ _ 3 _ (.inr rfl)).mono ?_
        rintro e w12 ⟨rfl, hb⟩
        have BE := hide ((unhide ST).bel.trans (hb.mono (unhide ST).bel.size))
        clear hb ST HYY
        go_wp2_with fail
        refine (awake10_any _ ((unhide HT).all (unhide BE))).mono ?_
        rintro e w19 ⟨rfl, hb⟩
        replace BE := hide ((unhide BE).trans (hb.mono (unhide BE).size))
        clear hb
        go_wp2
        go_ret
        exact ⟨rfl, unhide BE⟩
      · have v0 := (unhide XX).c0; have v1 := (unhide XX).c1; have v2 := (unhide XX).c2
        have s0' := (unhide ST).s.box.c0; have s1' := (unhide ST).s.box.c1; have s2' := (unhide ST).s.box.c2
        simp only [List.length_nil] at s2'
        go_wp2_with fail
        refine (told_err _ _ _ _ _ _ _ 3 _ (.inr rfl)).mono ?_
        rintro e w11 ⟨rfl, hb⟩
        replace ST := hide ((unhide ST).all hb); replace HYY := hide ((unhide HYY).all hb)
        clear hb XX
        have v0 := (unhide HYY).c0; have v1 := (unhide HYY).c1; have v2 := (unhide HYY).c2
        have t0' := (unhide ST).t.box.c0; have t1' := (unhide ST).t.box.c1; have t2' := (unhide ST).t.box.c2
        simp only [List.length_nil] at t2'
        go_wp2_with fail
        refine (told_err _ _ _ _ _ _ _ 3 _ (.inr rfl)).mono ?_
        rintro e w12 ⟨rfl, hb⟩
        have BE := hide ((unhide ST).bel.trans (hb.mono (unhide ST).bel.size))
        clear hb ST HYY
        go_wp2_with fail
        refine (awake10_any _ ((unhide HT).all (unhide BE))).mono ?_
        rintro e w19 ⟨rfl, hb⟩
        replace BE := hide ((unhide BE).trans (hb.mono (unhide BE).size))
        clear hb
        go_wp2
        go_ret
        exact ⟨rfl, unhide BE⟩
      · go_wp2_with fail
        refine (unhide K7 (by first | rfl | trivial) (by first | trivial | assumption | omega) (by first | rfl | trivial) _ (unhide ST).bel).mono ?_
        rintro e w10 ⟨v, rfl, ⟨yo, yd, rfl, _, qx⟩, hb⟩
        clear a0 a1 a2 b0 b1 b2
        replace ST := hide ((unhide ST).all hb); replace XX := hide ((unhide XX).all hb); replace HYY := hide ((unhide HYY).all hb)
        have f0 := (unhide HYY).free 0; have f1 := (unhide HYY).free 1; have f2 := (unhide HYY).free 2
        have u0 := (unhide HYY).c0; have u1 := (unhide HYY).c1; have u2 := (unhide HYY).c2
        have Qy := hide (qx.putM (unhide HYY) (.int .i64 t1) (.int .i64 t2) (.slice yo T.length yd))
        replace ST := hide ((unhide ST).box (unhide HYY) (by have := unhide ORD; omega) (by have := unhide ORD; omega) (by have := unhide ORD; omega) (by have := unhide ORD; omega) (by have := unhide ORD; omega) (by have := unhide ORD; omega) (.int .i64 t1) (.int .i64 t2) (.slice yo T.length yd))
        replace XX := hide ((unhide XX).three (g := w7.heap.size + 1) (by omega) (.int .i64 t1) (.int .i64 t2) (.slice yo T.length yd))
        replace HYY := hide ((unhide HYY).put (.int .i64 t1) (.int .i64 t2) (.slice yo T.length yd))
        clear qx hb K7
        have a0 := (unhide ST).a.c0; have a1 := (unhide ST).a.c1; have a2 := (unhide ST).a.c2
        have b0 := (unhide ST).b.c0; have b1 := (unhide ST).b.c1; have b2 := (unhide ST).b.c2
        have v0 := (unhide XX).c0; have v1 := (unhide XX).c1; have v2 := (unhide XX).c2
        have s0' := (unhide ST).s.box.c0; have s1' := (unhide ST).s.box.c1; have s2' := (unhide ST).s.box.c2
        simp only [List.length_nil] at s2'
        go_wp2_with fail
        refine (told_err _ _ _ _ _ _ _ 3 _ (.inr rfl)).mono ?_
        rintro e w11 ⟨rfl, hb⟩
        replace ST := hide ((unhide ST).all hb); replace HYY := hide ((unhide HYY).all hb)
        replace Qy := hide ((unhide Qy).below hb)
        clear hb XX
        have v0 := (unhide HYY).c0; have v1 := (unhide HYY).c1; have v2 := (unhide HYY).c2
        have t0' := (unhide ST).t.box.c0; have t1' := (unhide ST).t.box.c1; have t2' := (unhide ST).t.box.c2
        go_wp2_with fail
        refine (told_ok _ _ _ _ _ _ T _ (unhide ST).t.bits (unhide Qy) (by have := unhide HTl; omega)).mono ?_
        rintro e w12 ⟨rfl, hb⟩
        have BE := hide ((unhide ST).bel.trans (hb.mono (unhide ST).bel.size))
        clear hb ST HYY
        go_wp2_with fail
        refine (awake10_any _ ((unhide HT).all (unhide BE))).mono ?_
        rintro e w19 ⟨rfl, hb⟩
        replace BE := hide ((unhide BE).trans (hb.mono (unhide BE).size))
        clear hb
        go_wp2
        go_ret
        exact ⟨rfl, unhide BE⟩
    · exact gA.elim
    · rcases wb with ⟨nB, rfl, rfl, rfl, rfl⟩ | ⟨rfl, gB, rfl, rfl, rfl, rfl⟩ | ⟨rfl, rfl, rfl⟩
      · go_wp2_with fail
        refine (unhide K6 (by first | rfl | trivial) (by first | trivial | assumption | omega) (by first | rfl | trivial) _ (unhide ST).bel).mono ?_
        rintro e w9 ⟨v, rfl, ⟨xo, xd, rfl, _, qx⟩, hb⟩
        replace ST := hide ((unhide ST).all hb); replace XX := hide ((unhide XX).all hb); replace HYY := hide ((unhide HYY).all hb)
        have f0 := (unhide XX).free 0; have f1 := (unhide XX).free 1; have f2 := (unhide XX).free 2
        have u0 := (unhide XX).c0; have u1 := (unhide XX).c1; have u2 := (unhide XX).c2
        have Qx := hide (qx.putM (unhide XX) (.int .i64 s1) (.int .i64 s2) (.slice xo S.length xd))
        replace ST := hide ((unhide ST).box (unhide XX) (by have := unhide ORD; omega) (by have := unhide ORD; omega) (by have := unhide ORD; omega) (by have := unhide ORD; omega) (by have := unhide ORD; omega) (by have := unhide ORD; omega) (.int .i64 s1) (.int .i64 s2) (.slice xo S.length xd))
        replace HYY := hide ((unhide HYY).three (g := w7.heap.size) (by omega) (.int .i64 s1) (.int .i64 s2) (.slice xo S.length xd))
        replace XX := hide ((unhide XX).put (.int .i64 s1) (.int .i64 s2) (.slice xo S.length xd))
        clear qx hb K6
        have a0 := (unhide ST).a.c0; have a1 := (unhide ST).a.c1; have a2 := (unhide ST).a.c2
        have b0 := (unhide ST).b.c0; have b1 := (unhide ST).b.c1; have b2 := (unhide ST).b.c2
        have v0 := (unhide XX).c0; have v1 := (unhide XX).c1; have v2 := (unhide XX).c2
        have s0' := (unhide ST).s.box.c0; have s1' := (unhide ST).s.box.c1; have s2' := (unhide ST).s.box.c2
        go_wp2_with fail
        refine (told_ok _ _ _ _ _ _ S _ (unhide ST).s.bits (unhide Qx) (by have := unhide HSl; omega)).mono ?_
        rintro e w11 ⟨rfl, hb⟩
        replace ST := hide ((unhide ST).all hb); replace HYY := hide ((unhide HYY).all hb)
        clear hb XX
        have v0 := (unhide HYY).c0; have v1 := (unhide HYY).c1; have v2 := (unhide HYY).c2
        have t0' := (unhide ST).t.box.c0; have t1' := (unhide ST).t.box.c1; have t2' := (unhide ST).t.box.c2
        simp only [List.length_nil] at t2'
        go_wp2_with fail
        refine (told_err _ _ _ _ _ _ _ 3 _ (.inr rfl)).mono ?_
        rintro e w12 ⟨rfl, hb⟩
        have BE := hide ((unhide ST).bel.trans (hb.mono (unhide ST).bel.size))
        clear hb ST HYY
        go_wp2_with fail
        refine (awake10_any _ ((unhide HT).all (unhide BE))).mono ?_
        rintro e w19 ⟨rfl, hb⟩
        replace BE := hide ((unhide BE).trans (hb.mono (unhide BE).size))
        clear hb
        go_wp2
        go_ret
        exact ⟨rfl, unhide BE⟩
      · go_wp2_with fail
        refine (unhide K6 (by first | rfl | trivial) (by first | trivial | assumption | omega) (by first | rfl | trivial) _ (unhide ST).bel).mono ?_
        rintro e w9 ⟨v, rfl, ⟨xo, xd, rfl, _, qx⟩, hb⟩
        replace ST := hide ((unhide ST).all hb); replace XX := hide ((unhide XX).all hb); replace HYY := hide ((unhide HYY).all hb)
        have f0 := (unhide XX).free 0; have f1 := (unhide XX).free 1; have f2 := (unhide XX).free 2
        have u0 := (unhide XX).c0; have u1 := (unhide XX).c1; have u2 := (unhide XX).c2
        have Qx := hide (qx.putM (unhide XX) (.int .i64 s1) (.int .i64 s2) (.slice xo S.length xd))
        replace ST := hide ((unhide ST).box (unhide XX) (by have := unhide ORD; omega) (by have := unhide ORD; omega) (by have := unhide ORD; omega) (by have := unhide ORD; omega) (by have := unhide ORD; omega) (by have := unhide ORD; omega) (.int .i64 s1) (.int .i64 s2) (.slice xo S.length xd))
        replace HYY := hide ((unhide HYY).three (g := w7.heap.size) (by omega) (.int .i64 s1) (.int .i64 s2) (.slice xo S.length xd))
        replace XX := hide ((unhide XX).put (.int .i64 s1) (.int .i64 s2) (.slice xo S.length xd))
        clear qx hb K6
        have a0 := (unhide ST).a.c0; have a1 := (unhide ST).a.c1; have a2 := (unhide ST).a.c2
        have b0 := (unhide ST).b.c0; have b1 := (unhide ST).b.c1; have b2 := (unhide ST).b.c2
        have v0 := (unhide XX).c0; have v1 := (unhide XX).c1; have v2 := (unhide XX).c2
        have s0' := (unhide ST).s.box.c0; have s1' := (unhide ST).s.box.c1; have s2' := (unhide ST).s.box.c2
        go_wp2_with fail
        refine (told_ok _ _ _ _ _ _ S _ (unhide ST).s.bits (unhide Qx) (by have := unhide HSl; omega)).mono ?_
        rintro e w11 ⟨rfl, hb⟩
        replace ST := hide ((unhide ST).all hb); replace HYY := hide ((unhide HYY).all hb)
        clear hb XX
        have v0 := (unhide HYY).c0; have v1 := (unhide HYY).c1; have v2 := (unhide HYY).c2
        have t0' := (unhide ST).t.box.c0; have t1' := (unhide ST).t.box.c1; have t2' := (unhide ST).t.box.c2
        simp only [List.length_nil] at t2'
        go_wp2_with fail
        refine (told_err _ _ _ _ _ _ _ 3 _ (.inr rfl)).mono ?_
        rintro e w12 ⟨rfl, hb⟩
        have BE := hide ((unhide ST).bel.trans (hb.mono (unhide ST).bel.size))
        clear hb ST HYY
        go_wp2_with fail
        refine (awake10_any _ ((unhide HT).all (unhide BE))).mono ?_
        rintro e w19 ⟨rfl, hb⟩
        replace BE := hide ((unhide BE).trans (hb.mono (unhide BE).size))
        clear hb
        go_wp2
        go_ret
        exact ⟨rfl, unhide BE⟩
      · go_wp2_with fail
        refine (unhide K6 (by first | rfl | trivial) (by first | trivial | assumption | omega) (by first | rfl | trivial) _ (unhide ST).bel).mono ?_
        rintro e w9 ⟨v, rfl, ⟨xo, xd, rfl, _, qx⟩, hb⟩
        replace ST := hide ((unhide ST).all hb); replace XX := hide ((unhide XX).all hb); replace HYY := hide ((unhide HYY).all hb)
        have f0 := (unhide XX).free 0; have f1 := (unhide XX).free 1; have f2 := (unhide XX).free 2
        have u0 := (unhide XX).c0; have u1 := (unhide XX).c1; have u2 := (unhide XX).c2
        have Qx := hide (qx.putM (unhide XX) (.int .i64 s1) (.int .i64 s2) (.slice xo S.length xd))
        replace ST := hide ((unhide ST).box (unhide XX) (by have := unhide ORD; omega) (by have := unhide ORD; omega) (by have := unhide ORD; omega) (by have := unhide ORD; omega) (by have := unhide ORD; omega) (by have := unhide ORD; omega) (.int .i64 s1) (.int .i64 s2) (.slice xo S.length xd))
        replace HYY := hide ((unhide HYY).three (g := w7.heap.size) (by omega) (.int .i64 s1) (.int .i64 s2) (.slice xo S.length xd))
        replace XX := hide ((unhide XX).put (.int .i64 s1) (.int .i64 s2) (.slice xo S.length xd))
        clear qx hb K6
        have a0 := (unhide ST).a.c0; have a1 := (unhide ST).a.c1; have a2 := (unhide ST).a.c2
        have b0 := (unhide ST).b.c0; have b1 := (unhide ST).b.c1; have b2 := (unhide ST).b.c2
        go_wp2_with fail
        refine (unhide K7 (by first | rfl | trivial) (by first | trivial | assumption | omega) (by first | rfl | trivial) _ (unhide ST).bel).mono ?_
        rintro e w10 ⟨v, rfl, ⟨yo, yd, rfl, _, qx⟩, hb⟩
        replace ST := hide ((unhide ST).all hb); replace XX := hide ((unhide XX).all hb); replace HYY := hide ((unhide HYY).all hb)
        replace Qx := hide ((unhide Qx).below hb)
        have f0 := (unhide HYY).free 0; have f1 := (unhide HYY).free 1; have f2 := (unhide HYY).free 2
        have u0 := (unhide HYY).c0; have u1 := (unhide HYY).c1; have u2 := (unhide HYY).c2
        have Qy := hide (qx.putM (unhide HYY) (.int .i64 t1) (.int .i64 t2) (.slice yo T.length yd))
        replace ST := hide ((unhide ST).box (unhide HYY) (by have := unhide ORD; omega) (by have := unhide ORD; omega) (by have := unhide ORD; omega) (by have := unhide ORD; omega) (by have := unhide ORD; omega) (by have := unhide ORD; omega) (.int .i64 t1) (.int .i64 t2) (.slice yo T.length yd))
        replace XX := hide ((unhide XX).three (g := w7.heap.size + 1) (by omega) (.int .i64 t1) (.int .i64 t2) (.slice yo T.length yd))
        replace Qx := hide ((unhide Qx).putM (unhide HYY) (.int .i64 t1) (.int .i64 t2) (.slice yo T.length yd))
        replace HYY := hide ((unhide HYY).put (.int .i64 t1) (.int .i64 t2) (.slice yo T.length yd))
        clear qx hb K7
        have a0 := (unhide ST).a.c0; have a1 := (unhide ST).a.c1; have a2 := (unhide ST).a.c2
        have b0 := (unhide ST).b.c0; have b1 := (unhide ST).b.c1; have b2 := (unhide ST).b.c2
        have v0 := (unhide XX).c0; have v1 := (unhide XX).c1; have v2 := (unhide XX).c2
        have s0' := (unhide ST).s.box.c0; have s1' := (unhide ST).s.box.c1; have s2' := (unhide ST).s.box.c2
        go_wp2_with fail
        refine (told_ok _ _ _ _ _ _ S _ (unhide ST).s.bits (unhide Qx) (by have := unhide HSl; omega)).mono ?_
        rintro e w11 ⟨rfl, hb⟩
        replace ST := hide ((unhide ST).all hb); replace HYY := hide ((unhide HYY).all hb)
        replace Qy := hide ((unhide Qy).below hb)
        clear hb XX
        have v0 := (unhide HYY).c0; have v1 := (unhide HYY).c1; have v2 := (unhide HYY).c2
        have t0' := (unhide ST).t.box.c0; have t1' := (unhide ST).t.box.c1; have t2' := (unhide ST).t.box.c2
        go_wp2_with fail
        refine (told_ok _ _ _ _ _ _ T _ (unhide ST).t.bits (unhide Qy) (by have := unhide HTl; omega)).mono ?_
        rintro e w12 ⟨rfl, hb⟩
        have BE := hide ((unhide ST).bel.trans (hb.mono (unhide ST).bel.size))
        clear hb ST HYY
        go_wp2_with fail
        refine (awake10_any _ ((unhide HT).all (unhide BE))).mono ?_
        rintro e w19 ⟨rfl, hb⟩
        replace BE := hide ((unhide BE).trans (hb.mono (unhide BE).size))
        clear hb
        go_wp2
        go_ret
        exact ⟨rfl, unhide BE⟩
end Go.Proofs.YtheepcdlakjdcaaGreatDoor

/- The law MatrixMuls: its ways. -/
namespace Go.Proofs.YtheepcdlakjdcaaGreatDoor
open Go.RowKit
attribute [local go_sem ↓] Go.wp_at_zero Go.wp_at_succ

set_option maxRecDepth 20000 in
set_option maxHeartbeats 4000000 in
theorem matrixMuls_long (r c : Int) (ao : Option Addr) (n cap : Nat) (p q : Int) (bo : Option Addr) (m d : Nat) (w : World) (hT : Tab w) (h : (60 : Int) < (n : Int) ∨ ((n : Int) ≤ 60 ∧ (60 : Int) < (m : Int))) :
    Calls Tryz.prog 3 #[.agg #[.int .i64 r, .int .i64 c, .slice ao n cap], .agg #[.int .i64 p, .int .i64 q, .slice bo m d]] w fun e w' => e = .returned (.bool true) ∧ Below w.heap.size w w' := by
  have HT := hide hT
  have b0 := below_alloc9 w (.cells #[.int .i64 r, .int .i64 c, .slice ao n cap] 24)
  have b1 := below_alloc9 (w.alloc (.cells #[.int .i64 r, .int .i64 c, .slice ao n cap] 24)) (.cells #[.int .i64 p, .int .i64 q, .slice bo m d] 24)
  have HB := hide (b0.trans (b1.mono b0.size))
  clear b0 b1 hT
  rcases h with h1 | ⟨h1, h2⟩
  all_goals
    go_enter Tryz.func3, Tryz.ntmps3
    go_wp2_with fail
    refine (awake10_any _ ((unhide HT).all (unhide HB))).mono ?_
    rintro e w2 ⟨rfl, hb⟩
    replace HB := hide ((unhide HB).trans (hb.mono (unhide HB).size))
    clear hb
    go_wp2
    go_ret
    exact ⟨rfl, unhide HB⟩

theorem matrixMuls_walk (r c : Int) (ao : Option Addr) (cap : Nat) (I : List Int) (p q : Int) (bo : Option Addr) (d : Nat) (J : List Int) (w : World) (hI : BitsAt w ao cap I) (hl : I.length ≤ 17592186043904) (_hr : -9223372036854775808 ≤ r ∧ r ≤ 9223372036854775807) (_hc : -9223372036854775808 ≤ c ∧ c ≤ 9223372036854775807) (hJ : BitsAt w bo d J) (hlj : J.length ≤ 17592186043904) (_hp : -9223372036854775808 ≤ p ∧ p ≤ 9223372036854775807) (_hq : -9223372036854775808 ≤ q ∧ q ≤ 9223372036854775807) (hT : Tab w) :
    Calls Tryz.prog 3 #[.agg #[.int .i64 r, .int .i64 c, .slice ao I.length cap], .agg #[.int .i64 p, .int .i64 q, .slice bo J.length d]] w fun e w' => e = .returned (.bool true) ∧ Below w.heap.size w w' := by
  by_cases hlong : (60 : Int) < (I.length : Int) ∨ ((I.length : Int) ≤ 60 ∧ (60 : Int) < (J.length : Int))
  · exact matrixMuls_long r c ao _ cap p q bo _ d w hT hlong
  have lg1 : (I.length : Int) ≤ 60 := by omega
  have lg2 : (J.length : Int) ≤ 60 := by omega
  cases h : (okB r c I.length && okB p q J.length)
  · exact matrixMuls_of r c ao cap I p q bo d J 0 0 0 0 [] [] 1 1 false w hI hl hJ hlj lg1 lg2 hT (.inl ⟨rfl, rfl, rfl, rfl, rfl, rfl, rfl, rfl, rfl⟩) (by simp) (by simp) (fun w' po pc qo qc _ _ _ => mmul_form r c po _ pc p q qo _ qc w' (by omega) (by omega) h) (fun w' po pc qo qc _ _ _ => msub_form r c po _ pc p q qo _ qc w' (by omega) (by omega) h) h (fun _ _ e => by cases e) (fun _ _ e => by cases e)
  · obtain ⟨h1, h2⟩ := Bool.and_eq_true_iff.1 h
    obtain ⟨r, c, rfl, rfl, hM, hS⟩ := Mx.of hI h1
    obtain ⟨p, q, rfl, rfl, hN, hR⟩ := Mx.of hJ h2
    have r6 := hM.2.2.1
    have c6 := hM.2.2.2
    have p6 := hN.2.2.1
    have q6 := hN.2.2.2
    have i36 : I.length ≤ 36 := by have := hM.small; rwa [natL_len] at this
    have j36 : J.length ≤ 36 := by have := hN.small; rwa [natL_len] at this
    have mx : ∀ {w' po pc}, BitsAt w' po pc I → Mx w' po pc r c (natL I) := fun hb' => Mx.from hb' h1
    have mx2 : ∀ {w' po pc}, BitsAt w' po pc J → Mx w' po pc p q (natL J) := fun hb' => Mx.from hb' h2
    have A : ∃ (f : Int) (s1 s2 : Nat) (S : List Nat), S.length ≤ 36 ∧ ((¬ (c : Int) = (p : Int) ∧ f = 3 ∧ s1 = 0 ∧ s2 = 0 ∧ S = []) ∨ ((c : Int) = (p : Int) ∧ False ∧ f = 3 ∧ s1 = 0 ∧ s2 = 0 ∧ S = []) ∨ ((c : Int) = (p : Int) ∧ True ∧ f = 0)) ∧
        (∀ w' po pc qo qc, Tab w' → BitsAt w' po pc I → BitsAt w' qo qc J → Calls Tryz.prog 6 #[.agg #[.int .i64 r, .int .i64 c, .slice po I.length pc], .agg #[.int .i64 p, .int .i64 q, .slice qo J.length qc]] w' fun e w'' => ∃ v, e = .returned (.tuple #[v, .int .i64 f]) ∧ NewM w'.heap.size w'' s1 s2 S v ∧ Below w'.heap.size w' w'') ∧
        ((c : Int) = (p : Int) → True → ∀ w', Below w.heap.size w w' → Calls Tryz.prog 11 #[.agg #[.int .i64 r, .int .i64 c, .slice ao I.length cap], .agg #[.int .i64 p, .int .i64 q, .slice bo J.length d]] w' fun e w'' => ∃ v, e = .returned v ∧ NewM 0 w'' s1 s2 S v ∧ Below w'.heap.size w' w'') := by
      by_cases hne : c = p
      · subst hne
        refine ⟨0, r, q, muM r c q (natL I) (natL J), ?_, .inr (.inr ⟨rfl, trivial, rfl⟩), ?_, ?_⟩
        · unfold muM
          rw [mkM_len]
          have : r * q ≤ 6 * 6 := Nat.mul_le_mul r6 q6
          omega
        · intro w' po pc qo qc ht hb1 hb2
          have C := mMul_ok r c pc q qc po qo (natL I) (natL J) w' (mx hb1) (mx2 hb2) ht
          rwa [natL_len, natL_len] at C
        · intro _ _ w' hb'
          have C := rmul10_any r c q cap d ao bo (natL I) (natL J) w' (hM.below hb') (hN.below hb')
          rwa [natL_len, natL_len] at C
      · exact ⟨3, 0, 0, [], by simp, .inl ⟨by omega, rfl, rfl, rfl, rfl⟩, fun w' po pc qo qc _ _ _ => mmul_shape r c _ pc p q _ qc po qo w' i36 j36 r6 c6 p6 q6 h hne, fun e => by omega⟩
    have B : ∃ (f : Int) (s1 s2 : Nat) (S : List Nat), S.length ≤ 36 ∧ ((¬ (r : Int) = (p : Int) ∧ f = 3 ∧ s1 = 0 ∧ s2 = 0 ∧ S = []) ∨ ((r : Int) = (p : Int) ∧ ¬ (c : Int) = (q : Int) ∧ f = 3 ∧ s1 = 0 ∧ s2 = 0 ∧ S = []) ∨ ((r : Int) = (p : Int) ∧ (c : Int) = (q : Int) ∧ f = 0)) ∧
        (∀ w' po pc qo qc, Tab w' → BitsAt w' po pc I → BitsAt w' qo qc J → Calls Tryz.prog 7 #[.agg #[.int .i64 r, .int .i64 c, .slice po I.length pc], .agg #[.int .i64 p, .int .i64 q, .slice qo J.length qc]] w' fun e w'' => ∃ v, e = .returned (.tuple #[v, .int .i64 f]) ∧ NewM w'.heap.size w'' s1 s2 S v ∧ Below w'.heap.size w' w'') ∧
        ((r : Int) = (p : Int) → (c : Int) = (q : Int) → ∀ w', Below w.heap.size w w' → Calls Tryz.prog 12 #[.agg #[.int .i64 r, .int .i64 c, .slice ao I.length cap], .agg #[.int .i64 p, .int .i64 q, .slice bo J.length d]] w' fun e w'' => ∃ v, e = .returned v ∧ NewM 0 w'' s1 s2 S v ∧ Below w'.heap.size w' w'') := by
      by_cases hne : r = p
      · by_cases hne2 : c = q
        · subst hne
          subst hne2
          refine ⟨0, r, c, suM r c (natL I) (natL J), ?_, .inr (.inr ⟨rfl, rfl, rfl⟩), ?_, ?_⟩
          · unfold suM
            rw [mkM_len]
            have : r * c ≤ 6 * 6 := Nat.mul_le_mul r6 c6
            omega
          · intro w' po pc qo qc ht hb1 hb2
            have C := mSub_ok r c pc qc po qo (natL I) (natL J) w' (mx hb1) (mx2 hb2) ht
            rwa [natL_len, natL_len] at C
          · intro _ _ w' hb'
            have C := rsub10_any r c cap d ao bo (natL I) (natL J) w' (hM.below hb') (hN.below hb')
            rwa [natL_len, natL_len] at C
        · exact ⟨3, 0, 0, [], by simp, .inr (.inl ⟨by omega, by omega, rfl, rfl, rfl, rfl⟩), fun w' po pc qo qc _ _ _ => msub_cols r c _ pc p q _ qc po qo w' i36 j36 r6 c6 p6 q6 h hne2, fun _ e => by omega⟩
      · exact ⟨3, 0, 0, [], by simp, .inl ⟨by omega, rfl, rfl, rfl, rfl⟩, fun w' po pc qo qc _ _ _ => msub_rows r c _ pc p q _ qc po qo w' i36 j36 r6 c6 p6 q6 h hne, fun e => by omega⟩
    obtain ⟨f, s1, s2, S, a1, a2, a3, a4⟩ := A
    obtain ⟨g, t1, t2, T, b1, b2, b3, b4⟩ := B
    exact matrixMuls_of r c ao cap I p q bo d J s1 s2 t1 t2 S T f g true w hI hl hJ hlj lg1 lg2 hT (.inr ⟨rfl, ⟨by omega, by omega, by omega, by omega⟩, ⟨by omega, by omega, by omega, by omega⟩, a2, b2⟩) a1 b1 a3 b3 h (fun e1 e2 _ => a4 e1 e2) (fun e1 e2 _ => b4 e1 e2)

end Go.Proofs.YtheepcdlakjdcaaGreatDoor

/- A struct of a sign and limbs that came in, opened. -/
namespace Go.Proofs.YtheepcdlakjdcaaGreatDoor
open Go.ChangeShapes Go.WideShapes Go.ChangeAt Go.RowKit Go.Joins

theorem Tryz.own : ownKnob Tryz.prog.godebug = none := by kernel_rfl
theorem Tryz.laidOut : laidOutB Tryz.prog = true := by kernel_rfl
end Go.Proofs.YtheepcdlakjdcaaGreatDoor

/- The bounds of an int or int64 that came in. -/
namespace Go.Proofs.YtheepcdlakjdcaaGreatDoor

theorem bounds_of_i64 {x : Int} (h : (Lit.int .i64 x).wf = true) : -9223372036854775808 ≤ x ∧ x ≤ 9223372036854775807 := by
  simp [Lit.wf, IntKind.min, IntKind.max, IntKind.signed, IntKind.bits] at h
  omega

end Go.Proofs.YtheepcdlakjdcaaGreatDoor

/- A dyadic number that came in, opened; the library's table, as the row lays it. -/
namespace Go.Proofs.YtheepcdlakjdcaaGreatDoor
open Go.ChangeShapes Go.WideShapes Go.ChangeAt Go.RowKit Go.Joins
theorem Tryz.tabName : Tryz.prog.globalNamed "math/bits.deBruijn32tab" = some 1 := by kernel_rfl
theorem Tryz.tabType : (Tryz.prog.globals[1]?).map (·.type) = some 114 := by kernel_rfl
theorem Tryz.tabCells : Tryz.prog.cellsOf 114 = 32 := by kernel_rfl
theorem Tryz.byteCells : Tryz.prog.cellsOf 5 = 1 := by kernel_rfl

theorem tab_getD : ∀ j, j < Lib.deBruijn32tab.length → (List.map Int.ofNat Lib.deBruijn32tab).getD j 0 = ((Lib.deBruijn32tab.getD j 0 : Nat) : Int) := by decide

/-- What the rows' list gives: the table's cells. -/
theorem tab_of_laid {W : World} (h : laidMetH Tryz.prog [("math/bits.deBruijn32tab", Rows.laid_math_bits_deBruijn32tab)] W) : Tab W := by
  have ht := Lib.tabIs_of_head (zs := Lib.deBruijn32tab.map Int.ofNat) (rest := []) Tryz.tabName Tryz.tabType Tryz.underlying114 Tryz.underlying5 Tryz.byteCells Tryz.tabCells h
  intro j hj
  have := ht.cell Tryz.tabName j (by simpa using hj)
  rw [this]
  congr 2
  exact tab_getD j hj

end Go.Proofs.YtheepcdlakjdcaaGreatDoor

