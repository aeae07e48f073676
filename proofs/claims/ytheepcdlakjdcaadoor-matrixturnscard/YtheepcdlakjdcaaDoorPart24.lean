/- Part 24 of the texts. -/
import Derived.Test.YtheepcdlakjdcaaDoorPart23
import Derived.Test.YtheepcdlakjdcaaDoorChecked
import Derived.Test.YtheepcdlakjdcaaDoorPart02
import Derived.ProofKit
import Derived.SizedLaws
import Derived.Lib.SmallJoins
import Derived.Test.YtheepcdlakjdcaaDoorRows
import Derived.Test.YtheepcdlakjdcaaDoorPart09
import Derived.Lib.LaidTab
import Derived.OpenShut
import Derived.Deep.DeepHandedRow
import Derived.Test.YtheepcdlakjdcaaDoorPart18
/- The law MatrixTurns, walked. -/
namespace Go.Proofs.YtheepcdlakjdcaaDoor
open Go.RowKit
attribute [local go_sem ↓] Go.wp_at_zero Go.wp_at_succ

set_option maxRecDepth 20000 in
set_option maxHeartbeats 4000000 in
theorem matrixTurns_form (r c : Int) (ao : Option Addr) (n cap : Nat) (p q : Int) (bo : Option Addr) (m d : Nat) (w : World) (hT : Tab w) (h : (okB r c n && okB p q m) = false) :
    Calls Tryd.prog 7 #[.agg #[.int .i64 r, .int .i64 c, .slice ao n cap], .agg #[.int .i64 p, .int .i64 q, .slice bo m d]] w fun e w' => e = .returned (.bool true) ∧ Below w.heap.size w w' := by
  have K5 := hide (fun w' => form10_any r c ao n cap p q bo m d w')
  rw [h] at K5
  simp only [Bool.false_eq_true, if_false] at K5
  have HT := hide hT
  have b0 := below_alloc9 w (.cells #[.int .i64 r, .int .i64 c, .slice ao n cap] 24)
  have b1 := below_alloc9 (w.alloc (.cells #[.int .i64 r, .int .i64 c, .slice ao n cap] 24)) (.cells #[.int .i64 p, .int .i64 q, .slice bo m d] 24)
  have HB := hide (b0.trans (b1.mono b0.size))
  clear b0 b1 h hT
  go_enter Tryd.func7, Tryd.ntmps7
  go_wp2_with fail
  refine (unhide K5 _).mono ?_
  rintro e w1 ⟨rfl, hb⟩
  replace HB := hide ((unhide HB).trans (hb.mono (unhide HB).size))
  clear hb K5
  go_wp2_with fail
  refine (awake10_any _ ((unhide HT).all (unhide HB))).mono ?_
  rintro e w2 ⟨rfl, hb⟩
  replace HB := hide ((unhide HB).trans (hb.mono (unhide HB).size))
  clear hb
  go_wp2
  go_ret
  exact ⟨rfl, unhide HB⟩

set_option maxRecDepth 20000 in
set_option maxHeartbeats 8000000 in
theorem matrixTurns_of (r c p q n m la lb lp lq cap d : Nat) (ao bo : Option Addr) (S A B P Q : List Nat) (w : World) (hT : Tab w) (h : (okB r c n && okB p q m) = true) (_hc6 : c ≤ 6) (_hp6 : p ≤ 6) (hS : BitsAt w ao cap (mxL S)) (hl : S.length = n) (hn : n ≤ 36) (h1 : A.length = la) (h2 : B.length = lb) (h3 : P.length = lp) (h4 : Q.length = lq) (h36 : lq ≤ 36)
    (C1 : ∀ w', Below w.heap.size w w' → Calls Tryd.prog 20 #[.agg #[.int .i64 r, .int .i64 c, .slice ao n cap]] w' fun e w'' => ∃ v, e = .returned (.tuple #[v, .int .i64 0]) ∧ NewM w'.heap.size w'' c r A v ∧ Below w'.heap.size w' w'')
    (C2 : ∀ w' xo xd, BitsAt w' xo xd (mxL A) → Calls Tryd.prog 20 #[.agg #[.int .i64 c, .int .i64 r, .slice xo la xd]] w' fun e w'' => ∃ v, e = .returned (.tuple #[v, .int .i64 0]) ∧ NewM w'.heap.size w'' r c S v ∧ Below w'.heap.size w' w'')
    (C3 : c = p → ∀ w', Below w.heap.size w w' → Calls Tryd.prog 31 #[.agg #[.int .i64 r, .int .i64 c, .slice ao n cap], .agg #[.int .i64 p, .int .i64 q, .slice bo m d]] w' fun e w'' => ∃ v, e = .returned (.tuple #[v, .int .i64 0]) ∧ NewM w'.heap.size w'' r q P v ∧ Below w'.heap.size w' w'')
    (C4 : c = p → ∀ w' xo xd, BitsAt w' xo xd (mxL P) → Calls Tryd.prog 20 #[.agg #[.int .i64 r, .int .i64 q, .slice xo lp xd]] w' fun e w'' => ∃ v, e = .returned (.tuple #[v, .int .i64 0]) ∧ NewM w'.heap.size w'' q r Q v ∧ Below w'.heap.size w' w'')
    (C6 : ∀ w', Below w.heap.size w w' → Calls Tryd.prog 20 #[.agg #[.int .i64 p, .int .i64 q, .slice bo m d]] w' fun e w'' => ∃ v, e = .returned (.tuple #[v, .int .i64 0]) ∧ NewM w'.heap.size w'' q p B v ∧ Below w'.heap.size w' w'')
    (C7 : c = p → ∀ w' xo xd yo yd, Below w.heap.size w w' → BitsAt w' xo xd (mxL B) → BitsAt w' yo yd (mxL A) → Calls Tryd.prog 31 #[.agg #[.int .i64 q, .int .i64 p, .slice xo lb xd], .agg #[.int .i64 c, .int .i64 r, .slice yo la yd]] w' fun e w'' => ∃ v, e = .returned (.tuple #[v, .int .i64 0]) ∧ NewM w'.heap.size w'' q r Q v ∧ Below w'.heap.size w' w'') :
    Calls Tryd.prog 7 #[.agg #[.int .i64 r, .int .i64 c, .slice ao n cap], .agg #[.int .i64 p, .int .i64 q, .slice bo m d]] w fun e w' => e = .returned (.bool true) ∧ Below w.heap.size w w' := by
  have K5 := hide (fun w' => form10_any r c ao n cap p q bo m d w')
  rw [h] at K5
  simp only [if_true] at K5
  have K1 := hide C1; have K2 := hide C2; have K3 := hide C3; have K4 := hide C4; have K6 := hide C6; have K7 := hide C7
  have HT := hide hT; have HS := hide hS; have H1 := hide h1; have H2 := hide h2; have H3 := hide h3; have H4 := hide h4; have HL := hide hl
  have KS := hide (fun w' uo ud ao cap (x : BitsAt w' uo ud (mxL S)) (y : BitsAt w' ao cap (mxL S)) => rsame_any r c uo ao ud cap S w' x y (by omega))
  have KQ := hide (fun w' uo ud ao cap (x : BitsAt w' uo ud (mxL Q)) (y : BitsAt w' ao cap (mxL Q)) => rsame_any q r uo ao ud cap Q w' x y (by omega))
  rw [hl] at KS
  rw [h4] at KQ
  have b0 := below_alloc9 w (.cells #[.int .i64 r, .int .i64 c, .slice ao n cap] 24)
  have s0 := size_alloc9 w (.cells #[.int .i64 r, .int .i64 c, .slice ao n cap] 24)
  have b1 := below_alloc9 (w.alloc (.cells #[.int .i64 r, .int .i64 c, .slice ao n cap] 24)) (.cells #[.int .i64 p, .int .i64 q, .slice bo m d] 24)
  have x1 := BoxM.new (w.alloc (.cells #[.int .i64 r, .int .i64 c, .slice ao n cap] 24)) (.int .i64 p) (.int .i64 q) (.slice bo m d)
  rw [s0] at x1
  have HA := hide ((BoxM.new w (.int .i64 r) (.int .i64 c) (.slice ao n cap)).all b1); have HX := hide x1
  have HB := hide (b0.trans (b1.mono b0.size))
  clear b0 b1 s0 x1 h hT hS C1 C2 C3 C4 C6 C7 h1 h2 h3 h4 hl
  go_enter Tryd.func7, Tryd.ntmps7
  go_wp2_with fail
  refine (unhide K5 _).mono ?_
  rintro e w1 ⟨rfl, hb⟩
  replace HB := hide ((unhide HB).trans (hb.mono (unhide HB).size)); replace HA := hide ((unhide HA).all hb); replace HX := hide ((unhide HX).all hb)
  clear hb K5
  have a0 := (unhide HA).c0; have a1 := (unhide HA).c1; have a2 := (unhide HA).c2
  go_wp2_with fail
  refine (unhide K1 _ (unhide HB)).mono ?_
  rintro e w2 ⟨v, rfl, ⟨xo, xd, rfl, _, qa⟩, hb⟩
  rw [unhide H1]
  have ba := below_alloc9 w2 (.cells #[.int .i64 c, .int .i64 r, .slice xo la xd] 24)
  have hbb := hb.trans (ba.mono hb.size)
  replace HB := hide ((unhide HB).trans (hbb.mono (unhide HB).size)); replace HA := hide ((unhide HA).all hbb); replace HX := hide ((unhide HX).all hbb)
  have QA := hide (qa.below ba); have XA := hide (BoxM.new w2 (.int .i64 c) (.int .i64 r) (.slice xo la xd))
  clear hb hbb ba qa K1 a0 a1 a2
  go_wp2_with fail
  refine (unhide K2 _ _ _ (unhide QA)).mono ?_
  rintro e w3 ⟨v, rfl, ⟨uo, ud, rfl, _, qu⟩, hb⟩
  rw [unhide HL]
  have ba := below_alloc9 w3 (.cells #[.int .i64 r, .int .i64 c, .slice uo n ud] 24)
  have hbb := hb.trans (ba.mono hb.size)
  replace HB := hide ((unhide HB).trans (hbb.mono (unhide HB).size)); replace HA := hide ((unhide HA).all hbb); replace HX := hide ((unhide HX).all hbb)
  replace QA := hide ((unhide QA).below hbb); replace XA := hide ((unhide XA).all hbb)
  have QU := hide (qu.below ba)
  clear hb hbb ba qu K2
  have a0 := (unhide HA).c0; have a1 := (unhide HA).c1; have a2 := (unhide HA).c2
  go_wp2_with fail
  generalize w2.heap.size = g2 at *
  refine (unhide KS _ _ _ _ _ (unhide QU) ((unhide HS).below (unhide HB))).mono ?_
  rintro e w4 ⟨rfl, hb⟩
  replace HB := hide ((unhide HB).trans (hb.mono (unhide HB).size)); replace HA := hide ((unhide HA).all hb); replace HX := hide ((unhide HX).all hb)
  replace QA := hide ((unhide QA).below hb); replace XA := hide ((unhide XA).all hb)
  clear hb KS QU a0 a1 a2 HS
  have a0 := (unhide HA).c0; have a1 := (unhide HA).c1; have a2 := (unhide HA).c2
  have b0 := (unhide HX).c0; have b1 := (unhide HX).c1; have b2 := (unhide HX).c2
  by_cases hcp : c = p
  · replace K3 := hide (unhide K3 hcp); replace K4 := hide (unhide K4 hcp); replace K7 := hide (unhide K7 hcp)
    subst hcp
    go_wp2_with fail
    refine (unhide K3 _ (unhide HB)).mono ?_
    rintro e w5 ⟨v, rfl, ⟨po, pd, rfl, _, qp⟩, hb⟩
    rw [unhide H3]
    have ba := below_alloc9 w5 (.cells #[.int .i64 r, .int .i64 q, .slice po lp pd] 24)
    have hbb := hb.trans (ba.mono hb.size)
    replace HB := hide ((unhide HB).trans (hbb.mono (unhide HB).size)); replace HX := hide ((unhide HX).all hbb)
    replace QA := hide ((unhide QA).below hbb); replace XA := hide ((unhide XA).all hbb)
    have QP := hide (qp.below ba)
    clear hb hbb ba qp K3 a0 a1 a2 b0 b1 b2 HA
    go_wp2_with fail
    refine (unhide K4 _ _ _ (unhide QP)).mono ?_
    rintro e w6 ⟨v, rfl, ⟨qo, qd, rfl, _, qq⟩, hb⟩
    rw [unhide H4]
    have ba := below_alloc9 w6 (.cells #[.int .i64 q, .int .i64 r, .slice qo lq qd] 24)
    have hbb := hb.trans (ba.mono hb.size)
    replace HB := hide ((unhide HB).trans (hbb.mono (unhide HB).size)); replace HX := hide ((unhide HX).all hbb)
    replace QA := hide ((unhide QA).below hbb); replace XA := hide ((unhide XA).all hbb)
    have QQ := hide (qq.below ba); have XQ := hide (BoxM.new w6 (.int .i64 q) (.int .i64 r) (.slice qo lq qd))
    clear hb hbb ba qq K4 QP
    have b0 := (unhide HX).c0; have b1 := (unhide HX).c1; have b2 := (unhide HX).c2
    go_wp2_with fail
    generalize w6.heap.size = g6 at *
    refine (unhide K6 _ (unhide HB)).mono ?_
    rintro e w7 ⟨v, rfl, ⟨zo, zd, rfl, _, qz⟩, hb⟩
    rw [unhide H2]
    have ba := below_alloc9 w7 (.cells #[.int .i64 q, .int .i64 c, .slice zo lb zd] 24)
    have hbb := hb.trans (ba.mono hb.size)
    replace HB := hide ((unhide HB).trans (hbb.mono (unhide HB).size))
    replace QA := hide ((unhide QA).below hbb); replace XA := hide ((unhide XA).all hbb)
    replace QQ := hide ((unhide QQ).below hbb); replace XQ := hide ((unhide XQ).all hbb)
    have QZ := hide (qz.below ba)
    clear hb hbb ba qz K6 b0 b1 b2 HX
    have a0 := (unhide XA).c0; have a1 := (unhide XA).c1; have a2 := (unhide XA).c2
    go_wp2_with fail
    refine (unhide K7 _ _ _ _ _ (unhide HB) (unhide QZ) (unhide QA)).mono ?_
    rintro e w8 ⟨v, rfl, ⟨ro, rd, rfl, _, qr⟩, hb⟩
    rw [unhide H4]
    have ba := below_alloc9 w8 (.cells #[.int .i64 q, .int .i64 r, .slice ro lq rd] 24)
    have hbb := hb.trans (ba.mono hb.size)
    replace HB := hide ((unhide HB).trans (hbb.mono (unhide HB).size))
    replace QQ := hide ((unhide QQ).below hbb); replace XQ := hide ((unhide XQ).all hbb)
    have QR := hide (qr.below ba)
    clear hb hbb ba qr K7 a0 a1 a2 XA QA QZ
    have a0 := (unhide XQ).c0; have a1 := (unhide XQ).c1; have a2 := (unhide XQ).c2
    go_wp2_with fail
    refine (unhide KQ _ _ _ _ _ (unhide QQ) (unhide QR)).mono ?_
    rintro e w9 ⟨rfl, hb⟩
    replace HB := hide ((unhide HB).trans (hb.mono (unhide HB).size))
    clear hb KQ a0 a1 a2
    go_wp2_with fail
    refine (awake10_any _ ((unhide HT).all (unhide HB))).mono ?_
    rintro e w10 ⟨rfl, hb⟩
    replace HB := hide ((unhide HB).trans (hb.mono (unhide HB).size))
    clear hb
    go_wp2
    go_ret
    exact ⟨rfl, unhide HB⟩
  · have hne : decide ((c : Int) = (p : Int)) = false := decide_eq_false (by omega)
    clear K3 K4 K7 K6
    go_wp2_with fail
    refine (awake10_any _ ((unhide HT).all (unhide HB))).mono ?_
    rintro e w10 ⟨rfl, hb⟩
    replace HB := hide ((unhide HB).trans (hb.mono (unhide HB).size))
    clear hb
    go_wp2
    go_ret
    exact ⟨rfl, unhide HB⟩

theorem matrixTurns_walk (r c : Int) (ao : Option Addr) (cap : Nat) (I : List Int) (p q : Int) (bo : Option Addr) (d : Nat) (J : List Int) (w : World) (hI : BitsAt w ao cap I) (_hl : I.length ≤ 17592186043904) (_hr : -9223372036854775808 ≤ r ∧ r ≤ 9223372036854775807) (_hc : -9223372036854775808 ≤ c ∧ c ≤ 9223372036854775807) (hJ : BitsAt w bo d J) (_hlj : J.length ≤ 17592186043904) (_hp : -9223372036854775808 ≤ p ∧ p ≤ 9223372036854775807) (_hq : -9223372036854775808 ≤ q ∧ q ≤ 9223372036854775807) (hT : Tab w) :
    Calls Tryd.prog 7 #[.agg #[.int .i64 r, .int .i64 c, .slice ao I.length cap], .agg #[.int .i64 p, .int .i64 q, .slice bo J.length d]] w fun e w' => e = .returned (.bool true) ∧ Below w.heap.size w w' := by
  cases h : (okB r c I.length && okB p q J.length)
  · exact matrixTurns_form r c ao _ cap p q bo _ d w hT h
  · obtain ⟨h1, h2⟩ := Bool.and_eq_true_iff.1 h
    obtain ⟨r, c, rfl, rfl, hM, hS⟩ := Mx.of hI h1
    obtain ⟨p, q, rfl, rfl, hN, hR⟩ := Mx.of hJ h2
    have r6 := hM.2.2.1
    have c6 := hM.2.2.2
    have p6 := hN.2.2.1
    have q6 := hN.2.2.2
    rw [← natL_len (I := I), ← natL_len (I := J)]
    rw [← natL_len (I := I), ← natL_len (I := J)] at h
    refine matrixTurns_of r c p q _ _ _ _ _ _ cap d ao bo (natL I) (tuM r c (natL I)) (tuM p q (natL J)) (muM r c q (natL I) (natL J)) (tuM r q (muM r c q (natL I) (natL J))) w hT h c6 p6 hM.1 rfl hM.small rfl rfl rfl rfl ?_ ?_ ?_ ?_ ?_ ?_ ?_
    · rw [tu_len]
      have : q * r ≤ 6 * 6 := Nat.mul_le_mul q6 r6
      omega
    · exact fun w' hb => mTurn_ok r c cap ao (natL I) w' (hM.below hb)
    · intro w' xo xd hx
      have C := mTurn_ok c r xd xo (tuM r c (natL I)) w' ⟨hx, tu_len _ _ _, c6, r6⟩
      rwa [tu_tu r c _ hM.2.1] at C
    · rintro rfl w' hb
      exact mMul_ok r c cap q d ao bo (natL I) (natL J) w' (hM.below hb) (hN.below hb) (hT.all hb)
    · rintro rfl w' xo xd hx
      exact mTurn_ok r q xd xo _ w' ⟨hx, mkM_len _ _ _, r6, q6⟩
    · exact fun w' hb => mTurn_ok p q d bo (natL J) w' (hN.below hb)
    · rintro rfl w' xo xd yo yd hb hx hy
      have C := mMul_ok q c xd r yd xo yo (tuM c q (natL J)) (tuM r c (natL I)) w' ⟨hx, tu_len _ _ _, q6, c6⟩ ⟨hy, tu_len _ _ _, c6, r6⟩ (hT.all hb)
      rwa [← mu_tu r c q] at C

end Go.Proofs.YtheepcdlakjdcaaDoor

/- A struct of a sign and limbs that came in, opened. -/
namespace Go.Proofs.YtheepcdlakjdcaaDoor
open Go.ChangeShapes Go.WideShapes Go.ChangeAt Go.RowKit Go.Joins

theorem Tryd.own : ownKnob Tryd.prog.godebug = none := by kernel_rfl
theorem Tryd.laidOut : laidOutB Tryd.prog = true := by kernel_rfl
end Go.Proofs.YtheepcdlakjdcaaDoor

/- The bounds of an int or int64 that came in. -/
namespace Go.Proofs.YtheepcdlakjdcaaDoor

theorem bounds_of_i64 {x : Int} (h : (Lit.int .i64 x).wf = true) : -9223372036854775808 ≤ x ∧ x ≤ 9223372036854775807 := by
  simp [Lit.wf, IntKind.min, IntKind.max, IntKind.signed, IntKind.bits] at h
  omega

end Go.Proofs.YtheepcdlakjdcaaDoor

/- A dyadic number that came in, opened; the library's table, as the row lays it. -/
namespace Go.Proofs.YtheepcdlakjdcaaDoor
open Go.ChangeShapes Go.WideShapes Go.ChangeAt Go.RowKit Go.Joins
theorem Tryd.tabName : Tryd.prog.globalNamed "math/bits.deBruijn32tab" = some 0 := by kernel_rfl
theorem Tryd.tabType : (Tryd.prog.globals[0]?).map (·.type) = some 115 := by kernel_rfl
theorem Tryd.tabCells : Tryd.prog.cellsOf 115 = 32 := by kernel_rfl
theorem Tryd.byteCells : Tryd.prog.cellsOf 5 = 1 := by kernel_rfl

theorem tab_getD : ∀ j, j < Lib.deBruijn32tab.length → (List.map Int.ofNat Lib.deBruijn32tab).getD j 0 = ((Lib.deBruijn32tab.getD j 0 : Nat) : Int) := by decide

/-- What the rows' list gives: the table's cells. -/
theorem tab_of_laid {W : World} (h : laidMetH Tryd.prog [("math/bits.deBruijn32tab", Rows.laid_math_bits_deBruijn32tab)] W) : Tab W := by
  have ht := Lib.tabIs_of_head (zs := Lib.deBruijn32tab.map Int.ofNat) (rest := []) Tryd.tabName Tryd.tabType Tryd.underlying115 Tryd.underlying5 Tryd.byteCells Tryd.tabCells h
  intro j hj
  have := ht.cell Tryd.tabName j (by simpa using hj)
  rw [this]
  congr 2
  exact tab_getD j hj

end Go.Proofs.YtheepcdlakjdcaaDoor

/- A list of bits that came in, opened. -/
namespace Go.Proofs.YtheepcdlakjdcaaDoor
open Go.ChangeShapes Go.WideShapes Go.ChangeAt Go.RowKit Go.Joins Go.Deep

theorem Tryd.cellsBits : Tryd.prog.cellsOf 26 = 1 := by kernel_rfl
theorem Tryd.bytesBits : Tryd.prog.bytesOf 26 = 8 := by kernel_rfl

theorem cellOf_plain {W : World} {a : Addr} {v : Value} (h : W.cell? a = some v) : a.spot = none ∧ a.block < W.heap.size := ⟨World.cell?_spot h, World.block_lt_of_cell? W _ h⟩
theorem addOf_plain (b off i : Nat) : (⟨b, off, none⟩ : Addr).add i = ⟨b, off + i, none⟩ := by simp [Addr.add]

theorem bounds_of_u64 {x : Int} (h : (Lit.int .u64 x).wf = true) : 0 ≤ x ∧ x ≤ 18446744073709551615 := by
  simp [Lit.wf, IntKind.min, IntKind.max, IntKind.signed, IntKind.bits] at h
  omega

end Go.Proofs.YtheepcdlakjdcaaDoor

