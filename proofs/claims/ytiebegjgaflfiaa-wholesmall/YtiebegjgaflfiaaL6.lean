/- The law WholeSmall, walked. -/
import Derived.Test.YtiebegjgaflfiaaS5
import Derived.Test.YtiebegjgaflfiaaWE
namespace Go.Proofs.Ytiebegjgaflfiaa
open Go.RowKit
attribute [local go_sem ↓] Go.wp_at_zero Go.wp_at_succ

theorem half_bd (m : Int) (h : -9223372036854775808 ≤ m ∧ m ≤ 9223372036854775807) : -4611686018427387904 ≤ wrap64 (m.tdiv 2) ∧ wrap64 (m.tdiv 2) ≤ 4611686018427387903 := by
  have h1 : -4611686018427387904 ≤ m.tdiv 2 ∧ m.tdiv 2 ≤ 4611686018427387903 := by
    rcases Int.le_total 0 m with h0 | h0
    · rw [Int.tdiv_eq_ediv_of_nonneg h0]; omega
    · have : m.tdiv 2 = -((-m).tdiv 2) := by rw [Int.neg_tdiv]; omega
      rw [this, Int.tdiv_eq_ediv_of_nonneg (by omega)]; omega
  unfold wrap64
  omega

theorem small_num {B : Nat} {w : World} {v : Value} {x : Int} (hv : IsNum B w v x) (h0 : -9223372036854775808 ≤ x) (h1 : x ≤ 9223372036854775807) :
    Calls Try.prog 31 #[v] w fun e w' => e = .returned (.tuple #[.int .i64 x, .int .i64 0]) ∧ Below w.heap.size w w' := by
  obtain ⟨na, ao, ca, A, rfl, a1, a2, a3, a4⟩ := hv.right (small_TOP _ (by omega))
  have := small_any na ao ca A w a1 (by omega)
  have hf : fits64 x = true := by unfold fits64; rw [decide_eq_true (by omega)]
  rwa [show smV na A = x by unfold smV; rw [a2, a3, hf]; rfl, show smE na A = 0 by unfold smE; rw [a2, a3, hf]; rfl] at this

/-- A right number that came in, as a number. -/
theorem right_num {B : Nat} {w : World} {neg : Bool} {ao : Option Addr} {cap : Nat} {L : List Nat} (h : LimbsAt w ao cap L) (hr : rightB neg L = true) (hn : NewAt B ao L) : IsNum B w (.agg #[.bool neg, .slice ao L.length cap]) (sval neg L) := by
  have hc := right_canon hr
  by_cases h0 : L = []
  · subst h0
    have : neg = false := by cases neg <;> simp_all
    subst this
    exact IsNum.zero _ _ _ _
  · exact IsNum.mk h hn hc.2.1 h0 (by omega)

/-- The reference's Compare of a number that came in and a small one. -/
theorem ref_cmp (na : Bool) (ao : Option Addr) (ca : Nat) (A : List Nat) (w : World) (u : Value) (B' : Nat) (y : Int) (h1 : LimbsAt w ao ca A) (la : A.length ≤ 35184372088830) (hu : IsNumM 2 B' w u y) :
    Calls Try.prog 27 #[.agg #[.bool na, .slice ao A.length ca], u] w fun e w' => e = .returned (.int .i64 (cmpI (sval na A) y)) ∧ Below w.heap.size w w' := by
  obtain ⟨nb, bo, cb, C, rfl, b1, b2, b3, b4, b5, b6⟩ := hu
  have := refCompare_any na nb ao bo ca cb A C w h1 b1 la (by omega)
  rwa [sval_IsNum b4 b5] at this

set_option maxHeartbeats 2000000 in
theorem smalls_walk (na : Bool) (ao : Option Addr) (ca : Nat) (A : List Nat) (m n : Int) (w : World) (hA : LimbsAt w ao ca A) (la : A.length ≤ 35184372087808) (bm : -9223372036854775808 ≤ m ∧ m ≤ 9223372036854775807) (bn : -9223372036854775808 ≤ n ∧ n ≤ 9223372036854775807) :
    Calls Try.prog 8 #[.int .i64 m, .int .i64 n, .agg #[.bool na, .slice ao A.length ca]] w fun e w' => e = .returned (.bool true) ∧ Below w.heap.size w w' := by
  have BM := hide bm
  have BN := hide bn
  go_enter Try.func8, Try.ntmps8
  go_wp2_with fail
  -- w := Of(m)
  have hb0 : Below w.heap.size w (w.alloc (.cells #[.bool na, .slice ao A.length ca] 24)) := (Below.refl _ _).alloc (Nat.le_refl _) _
  refine (of_any m _ bm.1 bm.2).mono ?_
  rintro e w2 ⟨v, rfl, ⟨n2, a2, c2, L2, rfl, i2⟩, hb1⟩
  have x0 : Box2 w2 w.heap.size (.bool na) (.slice ao A.length ca) := (Box2.new _ _ _).below hb1 (by simp)
  have b2 : Below w.heap.size w w2 := hb0.trans (hb1.mono (by simp))
  have im : IsNum 0 w2 (.agg #[.bool n2, .slice a2 L2.length c2]) m := IsNum.mono ⟨n2, a2, c2, L2, rfl, i2⟩ (Nat.zero_le _)
  have hz2 : w.heap.size < w2.heap.size := x0.lt
  have X0 := hide x0; have B2 := hide b2; have IM := hide im
  clear hb1 hb0 x0 b2 im i2 bm bn
  go_wp2_with fail
  -- v, e := Small(w)
  have b2 := unhide B2
  have hbx : Below w2.heap.size w2 (w2.alloc (.cells #[.bool n2, .slice a2 L2.length c2] 24)) := (Below.refl _ _).alloc (Nat.le_refl _) _
  refine (small_num ((unhide IM).below hbx) (unhide BM).1 (unhide BM).2).mono ?_
  rintro e w3 ⟨rfl, hb1⟩
  have hb2 : Below w2.heap.size w2 w3 := hbx.trans (hb1.mono (by simp))
  have x0 := (unhide X0).below hb2 (unhide X0).lt
  have xw : Box2 w3 w2.heap.size (.bool n2) (.slice a2 L2.length c2) := (Box2.new _ _ _).below hb1 (by simp)
  have b3 : Below w.heap.size w w3 := b2.trans (hb2.mono b2.size)
  have im := (unhide IM).below hb2
  clear X0 B2 IM hbx hb1 hb2 b2
  have X0 := hide x0; have B3 := hide b3; have IM := hide im
  clear x0 b3 im
  go_wp2
  refine at_world (fun W => W = w3) rfl ?_
  rintro W0 e0
  subst e0
  have hK : ∀ w', Below W0.heap.size W0 w' → Below W0.heap.size W0 w' ∧ w'.cell? ⟨w2.heap.size, 0, none⟩ = some (.bool n2) ∧ w'.cell? ⟨w2.heap.size, 1, none⟩ = some (.slice a2 L2.length c2) := fun w' h =>
    ⟨h, (xw.below h xw.lt).c0, (xw.below h xw.lt).c1⟩
  have HK := hide hK
  clear hK xw
  have hne : (m != m) = false := by simp
  have S1 := hide (fun (w' : World) (u : Value) (B' : Nat) (hb : Below W0.heap.size W0 w') (hu : IsNum B' w' u m) => same_num ((unhide IM).below hb) hu)
  simp only [decide_true] at S1
  go_region_held3 (fun w' => Below W0.heap.size W0 w' ∧ w'.cell? ⟨w2.heap.size, 0, none⟩ = some (.bool n2) ∧ w'.cell? ⟨w2.heap.size, 1, none⟩ = some (.slice a2 L2.length c2))
    (first | exact unhide HK _ (Below.refl _ _).drew | exact unhide HK _ (by assumption))
    (first | (go_at_call 32; refine (refOf_any m _ (unhide BM).1 (unhide BM).2).mono ?_; rintro e w1 ⟨v1, rfl, i1, hb1⟩; have hB1 : Below W0.heap.size W0 w1 := Below.trans (And.left (by assumption)) (hb1.mono (Below.size (And.left (by assumption)))); have I := hide (i1.num (by omega)); clear hb1 i1) | (go_at_call 15; refine (unhide S1 _ _ _ hB1 (unhide I)).mono ?_; rintro e w4 ⟨rfl, hb1⟩; have hB2 : Below W0.heap.size W0 w4 := Below.trans (And.left (by assumption)) (hb1.mono (Below.size (And.left (by assumption)))); clear hb1))
  have b4 : Below w.heap.size w w4 := (unhide B3).trans (hB2.mono (unhide B3).size)
  have x0 := (unhide X0).below hB2 (unhide X0).lt
  have X0' := hide x0; have B4 := hide b4
  clear X0 B3 IM HK S1 I hB1 hB2 x0 b4 hne
  have hm2 := half_bd m (unhide BM)
  have hn2 := half_bd n (unhide BN)
  obtain ⟨mh, hmh⟩ : ∃ x, x = wrap64 (m.tdiv 2) := ⟨_, rfl⟩
  obtain ⟨nh, hnh⟩ : ∃ x, x = wrap64 (n.tdiv 2) := ⟨_, rfl⟩
  rw [← hmh] at hm2
  rw [← hnh] at hn2
  have e1 := hmh.symm
  have e2 := hnh.symm
  obtain ⟨m1, m2⟩ := hm2
  obtain ⟨n1, n2'⟩ := hn2
  clear hmh hnh
  go_wp2_with fail
  -- Of(m/2), Of(n/2), Add
  refine (of_any mh _ (by omega) (by omega)).mono ?_
  rintro e w5 ⟨v5, rfl, i5, hb1⟩
  have b5 := (unhide B4).trans (hb1.mono (unhide B4).size)
  have x0 := (unhide X0').below hb1 (unhide X0').lt
  have X0 := hide x0; have B5 := hide b5; have I5 := hide i5
  clear X0' B4 hb1 b5 x0 i5
  go_wp2_with fail
  refine (of_any nh _ (by omega) (by omega)).mono ?_
  rintro e w6 ⟨v6, rfl, i6, hb1⟩
  have b6 := (unhide B5).trans (hb1.mono (unhide B5).size)
  have x0 := (unhide X0).below hb1 (unhide X0).lt
  have i5 := (unhide I5).below hb1
  clear X0 B5 I5 hb1
  have X0 := hide x0; have B6 := hide b6; have I5 := hide i5; have I6 := hide i6
  clear x0 b6 i5 i6
  go_wp2_with fail
  refine (add_num (unhide I5) (unhide I6) (small_TOP _ (by omega)) (small_TOP _ (by omega))).mono ?_
  rw [errOf_small _ (small_TOP _ (by omega)), numOf_small _ (small_TOP _ (by omega))]
  rintro e w7 ⟨v, rfl, ⟨n7, a7, c7, L7, rfl, i7⟩, hb1⟩
  have b7 := (unhide B6).trans (hb1.mono (unhide B6).size)
  have x0 := (unhide X0).below hb1 (unhide X0).lt
  have is : IsNum 0 w7 (.agg #[.bool n7, .slice a7 L7.length c7]) (mh + nh) := IsNum.mono ⟨n7, a7, c7, L7, rfl, i7⟩ (Nat.zero_le _)
  have hz7 : w.heap.size < w7.heap.size := x0.lt
  clear X0 B6 I5 I6 hb1 i7
  have X0 := hide x0; have B7 := hide b7; have IS := hide is
  clear x0 b7 is
  go_wp2_with fail
  have hbx : Below w7.heap.size w7 (w7.alloc (.cells #[.bool n7, .slice a7 L7.length c7] 24)) := (Below.refl _ _).alloc (Nat.le_refl _) _
  refine (small_num ((unhide IS).below hbx) (by omega) (by omega)).mono ?_
  rintro e w8 ⟨rfl, hb1⟩
  have hb2 : Below w7.heap.size w7 w8 := hbx.trans (hb1.mono (by simp))
  have b8 := (unhide B7).trans (hb2.mono (unhide B7).size)
  have x0 := (unhide X0).below hb2 (unhide X0).lt
  have p0 := x0.c0; have p1 := x0.c1
  clear X0 B7 IS hb1 hb2 hbx
  have X0 := hide x0; have B8 := hide b8
  clear x0 b8
  have hne : (mh + nh != mh + nh) = false := by simp
  go_wp2_with fail
  -- v, e = Small(a)
  have hB := unhide B8
  refine (small_any na ao ca A _ (hA.below hB) (by omega)).mono ?_
  rintro e w9 ⟨rfl, hb1⟩
  have b9 := hB.trans (hb1.mono hB.size)
  have x0 := (unhide X0).below hb1 (unhide X0).lt
  clear X0 B8 hb1 hB p0 p1 hne e1 e2
  have p0 := x0.c0; have p1 := x0.c1
  have X0 := hide x0; have B9 := hide b9
  clear x0 b9
  go_wp2_with fail
  refine (right_any na ao ca A _ (hA.below (unhide B9)) (by omega)).mono ?_
  rintro e w10 ⟨rfl, hb1⟩
  have b10 := (unhide B9).trans (hb1.mono (unhide B9).size)
  have x0 := (unhide X0).below hb1 (unhide X0).lt
  have hs := hA.below b10
  clear X0 B9 hb1 p0 p1 hA
  cases hr : rightB na A
  · have e1 : smV na A = 0 := by simp [smV, hr]
    have e2 : smE na A = 1 := by simp [smE, hr]
    rw [e1, e2]
    clear e1 e2 hr x0 hs
    go_wp2_with (go_at_call 11; refine (awake_any _).mono ?_; rintro e w11 ⟨rfl, hb5⟩)
    go_ret
    exact ⟨rfl, b10.trans (hb5.mono b10.size)⟩
  have hc := right_canon hr
  have hCmp := fun (w' : World) (u : Value) (B' : Nat) (y : Int) (h1 : LimbsAt w' ao ca A) (hu : IsNumM 2 B' w' u y) => ref_cmp na ao ca A w' u B' y h1 (show A.length ≤ 35184372088830 by omega) hu
  have HSame := hide (fun (w' : World) (u : Value) (B' : Nat) (h1 : LimbsAt w' ao ca A) (hu : IsNum B' w' u (sval na A)) => same_num hu (right_num (B := 0) h1 hr (NewAt.zero h1)))
  have hV : fits64 (sval na A) = true → smV na A = sval na A ∧ smE na A = 0 := fun h => by simp [smV, smE, hr, h]
  have hN : fits64 (sval na A) = false → smV na A = 0 ∧ smE na A = 2 := fun h => by simp [smV, smE, hr, h]
  have HCmp := hide hCmp
  have HV := hide hV
  have HN := hide hN
  have HS := hide hs
  have B10 := hide b10
  clear hCmp hV hN hs hc hr b10
  generalize sval na A = x at *
  generalize smV na A = sv at *
  generalize smE na A = se at *
  go_wp2
  refine at_world (fun W => W = w10) rfl ?_
  rintro V0 e0
  subst e0
  have hK : ∀ w', Below V0.heap.size V0 w' → Below V0.heap.size V0 w' ∧ w'.cell? ⟨w.heap.size, 0, none⟩ = some (.bool na) ∧ w'.cell? ⟨w.heap.size, 1, none⟩ = some (.slice ao A.length ca) := fun w' h =>
    ⟨h, (x0.below h x0.lt).c0, (x0.below h x0.lt).c1⟩
  have HK := hide hK
  clear hK x0
  obtain ⟨c1, hc1⟩ : ∃ c, c = cmpI x (-9223372036854775808) := ⟨_, rfl⟩
  obtain ⟨c2, hc2⟩ : ∃ c, c = cmpI x 9223372036854775807 := ⟨_, rfl⟩
  have H1 := hide (fun w' u B' h1 hu => unhide HCmp w' u B' (-9223372036854775808) h1 hu)
  have H2 := hide (fun w' u B' h1 hu => unhide HCmp w' u B' 9223372036854775807 h1 hu)
  rw [← hc1] at H1
  rw [← hc2] at H2
  have hF : (x < -9223372036854775808 → c1 < 0 ∧ sv = 0 ∧ se = 2) ∧ (¬ x < -9223372036854775808 → x > 9223372036854775807 → ¬ c1 < 0 ∧ 0 < c2 ∧ sv = 0 ∧ se = 2) ∧ (¬ x < -9223372036854775808 → ¬ x > 9223372036854775807 → ¬ c1 < 0 ∧ ¬ 0 < c2 ∧ sv = x ∧ se = 0) := by
    have hv := unhide HV
    have hn := unhide HN
    refine ⟨fun h => ?_, fun h h' => ?_, fun h h' => ?_⟩
    · have hf : fits64 x = false := by unfold fits64; rw [decide_eq_false (by omega)]
      exact ⟨by rw [hc1, cmpI_lt h]; decide, hn hf⟩
    · have hf : fits64 x = false := by unfold fits64; rw [decide_eq_false (by omega)]
      exact ⟨by rw [hc1, cmpI_gt (by omega)]; decide, by rw [hc2, cmpI_gt h']; decide, hn hf⟩
    · have hf : fits64 x = true := by unfold fits64; rw [decide_eq_true (by omega)]
      refine ⟨?_, ?_, hv hf⟩
      · rw [hc1]; unfold cmpI; rw [if_neg h]; split <;> omega
      · rw [hc2]; unfold cmpI; (repeat' split) <;> omega
  have HF := hide hF
  clear hF hc1 hc2 HV HN HCmp
  by_cases hx1 : x < -9223372036854775808
  · obtain ⟨f1, f2, f3⟩ := (unhide HF).1 hx1
    subst f2; subst f3
    clear HF hx1
    obtain ⟨_, p0, p1⟩ := unhide HK _ (Below.refl _ _)
    have hB0 := (Below.refl V0.heap.size V0).drew
    go_region_with (first | (go_at_call 32; refine (refOf_any (-9223372036854775808) _ (by decide) (by decide)).mono ?_; rintro e w11 ⟨v11, rfl, i1, hb1⟩; have hB1 : Below V0.heap.size V0 w11 := Below.trans (by assumption) (hb1.mono (Below.size (B := V0.heap.size) (w := V0) (by assumption))); have I := hide i1; clear hb1 i1; obtain ⟨_, p0, p1⟩ := unhide HK _ hB1) | (go_at_call 27; refine (unhide H1 _ _ _ ((unhide HS).below hB1) (unhide I)).mono ?_; rintro e w12 ⟨rfl, hb1⟩; have hB2 : Below V0.heap.size V0 w12 := Below.trans (by assumption) (hb1.mono (Below.size (B := V0.heap.size) (w := V0) (by assumption))); clear hb1))
    all_goals
      go_wp2_with (go_at_call 11; refine (awake_any _).mono ?_; rintro e w13 ⟨rfl, hb5⟩)
      go_ret
      exact ⟨rfl, ((unhide B10).trans (hB2.mono (unhide B10).size)).trans (hb5.mono ((unhide B10).trans (hB2.mono (unhide B10).size)).size)⟩
  · by_cases hx2 : x > 9223372036854775807
    ·
      obtain ⟨f1, f2, f3, f4⟩ := (unhide HF).2.1 hx1 hx2
      have g1 : decide (c1 < 0) = false := by simpa using f1
      have g2 : decide (0 < c2) = true := by simpa using f2
      have HX1 := hide hx1
      have HX2 := hide hx2
      clear HF hx1 hx2
      subst f3; subst f4
      go_region_held3 (fun w' => Below V0.heap.size V0 w' ∧ w'.cell? ⟨w.heap.size, 0, none⟩ = some (.bool na) ∧ w'.cell? ⟨w.heap.size, 1, none⟩ = some (.slice ao A.length ca))
        (first | exact unhide HK _ (Below.refl _ _).drew | exact unhide HK _ (by assumption))
        (first | (go_at_call 32; refine (refOf_any _ _ (by decide) (by decide)).mono ?_; rintro e w11 ⟨v11, rfl, i1, hb1⟩; have hB1 : Below V0.heap.size V0 w11 := Below.trans (And.left (by assumption)) (hb1.mono (Below.size (And.left (by assumption)))); have I := hide i1; clear hb1 i1) | (go_at_call 27; (first | refine (unhide H1 _ _ _ ((unhide HS).below hB1) (unhide I)).mono ?_ | refine (unhide H2 _ _ _ ((unhide HS).below hB1) (unhide I)).mono ?_); rintro e w11 ⟨rfl, hb1⟩; have hB1 : Below V0.heap.size V0 w11 := Below.trans (And.left (by assumption)) (hb1.mono (Below.size (And.left (by assumption)))); clear hb1))
      have bEnd : Below V0.heap.size V0 w11 := And.left (by assumption)
      have BE := hide bEnd
      clear bEnd
      go_wp2_with (go_at_call 11; refine (awake_any _).mono ?_; rintro e w13 ⟨rfl, hb5⟩)
      go_ret
      exact ⟨rfl, ((unhide B10).trans ((unhide BE).mono (unhide B10).size)).trans (hb5.mono ((unhide B10).trans ((unhide BE).mono (unhide B10).size)).size)⟩
    ·
      obtain ⟨f1, f2, f3, f4⟩ := (unhide HF).2.2 hx1 hx2
      have g1 : decide (c1 < 0) = false := by simpa using f1
      have g2 : decide (0 < c2) = false := by simpa using f2
      have HX1 := hide hx1
      have HX2 := hide hx2
      clear HF hx1 hx2
      subst f3; subst f4
      go_region_held3 (fun w' => Below V0.heap.size V0 w' ∧ w'.cell? ⟨w.heap.size, 0, none⟩ = some (.bool na) ∧ w'.cell? ⟨w.heap.size, 1, none⟩ = some (.slice ao A.length ca))
        (first | exact unhide HK _ (Below.refl _ _).drew | exact unhide HK _ (by assumption))
        (first | (go_at_call 32; refine (refOf_any _ _ (by decide) (by decide)).mono ?_; rintro e w11 ⟨v11, rfl, i1, hb1⟩; have hB1 : Below V0.heap.size V0 w11 := Below.trans (And.left (by assumption)) (hb1.mono (Below.size (And.left (by assumption)))); have I := hide i1; clear hb1 i1) | (go_at_call 27; (first | refine (unhide H1 _ _ _ ((unhide HS).below hB1) (unhide I)).mono ?_ | refine (unhide H2 _ _ _ ((unhide HS).below hB1) (unhide I)).mono ?_); rintro e w11 ⟨rfl, hb1⟩; have hB1 : Below V0.heap.size V0 w11 := Below.trans (And.left (by assumption)) (hb1.mono (Below.size (And.left (by assumption)))); clear hb1))
      have bEnd : Below V0.heap.size V0 w11 := And.left (by assumption)
      have BE := hide bEnd
      clear bEnd
      have hK2 : ∀ w', Below w11.heap.size w11 w' → Below w11.heap.size w11 w' ∧ w'.cell? ⟨w.heap.size, 0, none⟩ = some (.bool na) ∧ w'.cell? ⟨w.heap.size, 1, none⟩ = some (.slice ao A.length ca) := fun w' h =>
        ⟨h, (unhide HK w' ((unhide BE).trans (h.mono (unhide BE).size))).2⟩
      have HK2 := hide hK2
      have b11 := (unhide B10).trans ((unhide BE).mono (unhide B10).size)
      have hs11 := (unhide HS).below (unhide BE)
      have B11 := hide b11; have HS11 := hide hs11
      clear hK2 HK b11 hs11 HS B10 BE H1 H2
      simp only [decide_true] at HSame
      go_wp2
      refine at_world (fun W => W = w11) rfl ?_
      rintro U0 e0
      subst e0
      go_region_held3 (fun w' => Below U0.heap.size U0 w' ∧ w'.cell? ⟨w.heap.size, 0, none⟩ = some (.bool na) ∧ w'.cell? ⟨w.heap.size, 1, none⟩ = some (.slice ao A.length ca))
        (first | exact unhide HK2 _ (Below.refl _ _).drew | exact unhide HK2 _ (by assumption))
        (first | (go_at_call 30; refine (of_any _ _ (by have := unhide HX1; omega) (by have := unhide HX2; omega)).mono ?_; rintro e w14 ⟨v14, rfl, i1, hb1⟩; have hB1 : Below U0.heap.size U0 w14 := Below.trans (And.left (by assumption)) (hb1.mono (Below.size (And.left (by assumption)))); have I2 := hide i1; clear hb1 i1) | (go_at_call 15; refine (unhide HSame _ _ _ ((unhide HS11).below hB1) (unhide I2)).mono ?_; rintro e w14 ⟨rfl, hb1⟩; have hB1 : Below U0.heap.size U0 w14 := Below.trans (And.left (by assumption)) (hb1.mono (Below.size (And.left (by assumption)))); clear hb1) | (go_at_call 11; refine (awake_any _).mono ?_; rintro e w14 ⟨rfl, hb1⟩; have hB1 : Below U0.heap.size U0 w14 := Below.trans (And.left (by assumption)) (hb1.mono (Below.size (And.left (by assumption)))); clear hb1))
      go_wp2
      go_ret
      exact ⟨rfl, (unhide B11).trans (Below.mono (And.left (by assumption)) (unhide B11).size)⟩

end Go.Proofs.Ytiebegjgaflfiaa
