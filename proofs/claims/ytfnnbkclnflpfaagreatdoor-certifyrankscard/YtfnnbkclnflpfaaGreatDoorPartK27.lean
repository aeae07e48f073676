/- Part 27 of the texts. -/
import Derived.Test.YtfnnbkclnflpfaaGreatDoorPartK26
import Derived.Test.YtfnnbkclnflpfaaGreatDoorPartK24
import Derived.Test.YtfnnbkclnflpfaaGreatDoorPartK03
import Derived.Deep.CutRange
/- Package certify: Residual by letters. -/
namespace Go.Proofs.YtfnnbkclnflpfaaGreatDoor
open Go.RowKit
attribute [local go_sem ↓] Go.wp_at_zero Go.wp_at_succ

set_option maxRecDepth 20000 in
set_option maxHeartbeats 16000000 in
theorem cRes_of (r n c na nb nc ca cb cc : Nat) (ao bo co : Option Addr) (lo lo1 lo2 z : Int) (FA FB FC FT FL : Nat → Nat → Int) (w : World)
    (C0 : ∀ w', Below w.heap.size w w' → Calls Tryz.prog 52 #[.agg #[.int .i64 r, .int .i64 c, .slice ao na ca], .agg #[.int .i64 r, .int .i64 n, .slice bo nb cb], .agg #[.int .i64 n, .int .i64 c, .slice co nc cc]] w' fun e w'' => e = .returned (.int .i64 0) ∧ Below w'.heap.size w' w'')
    (C1 : ∀ w', Below w.heap.size w w' → Calls Tryz.prog 34 #[.agg #[.int .i64 r, .int .i64 c, .slice ao na ca]] w' fun e w'' => ∃ go q, e = .returned (.agg #[.int .i64 r, .int .i64 c, .slice go (r * c) q]) ∧ Gr w'' go q r c lo FA ∧ Below w'.heap.size w' w'')
    (C2 : ∀ w', Below w.heap.size w w' → Calls Tryz.prog 34 #[.agg #[.int .i64 r, .int .i64 n, .slice bo nb cb]] w' fun e w'' => ∃ go q, e = .returned (.agg #[.int .i64 r, .int .i64 n, .slice go (r * n) q]) ∧ Gr w'' go q r n lo FB ∧ Below w'.heap.size w' w'')
    (C3 : ∀ w', Below w.heap.size w w' → Calls Tryz.prog 34 #[.agg #[.int .i64 n, .int .i64 c, .slice co nc cc]] w' fun e w'' => ∃ go q, e = .returned (.agg #[.int .i64 n, .int .i64 c, .slice go (n * c) q]) ∧ Gr w'' go q n c lo FC ∧ Below w'.heap.size w' w'')
    (C4 : ∀ w' xo xd yo yd, Below w.heap.size w w' → Gr w' xo xd r n lo FB → Gr w' yo yd n c lo FC → Calls Tryz.prog 37 #[.agg #[.int .i64 r, .int .i64 n, .slice xo (r * n) xd], .agg #[.int .i64 n, .int .i64 c, .slice yo (n * c) yd]] w' fun e w'' => ∃ go q, e = .returned (.agg #[.int .i64 r, .int .i64 c, .slice go (r * c) q]) ∧ Gr w'' go q r c lo1 FT ∧ Below w'.heap.size w' w'')
    (C5 : ∀ w' xo xd yo yd, Below w.heap.size w w' → Gr w' xo xd r c lo FA → Gr w' yo yd r c lo1 FT → Calls Tryz.prog 36 #[.agg #[.int .i64 r, .int .i64 c, .slice xo (r * c) xd], .agg #[.int .i64 r, .int .i64 c, .slice yo (r * c) yd]] w' fun e w'' => ∃ go q, e = .returned (.agg #[.int .i64 r, .int .i64 c, .slice go (r * c) q]) ∧ Gr w'' go q r c lo1 FL ∧ Below w'.heap.size w' w'')
    (C6 : ∀ w' xo xd, Below w.heap.size w w' → Gr w' xo xd r c lo1 FL → Calls Tryz.prog 33 #[.agg #[.int .i64 r, .int .i64 c, .slice xo (r * c) xd]] w' fun e w'' => ∃ v, e = .returned v ∧ IsLv w'' v lo2 z ∧ Below w'.heap.size w' w'') :
    Calls Tryz.prog 17 #[.agg #[.int .i64 r, .int .i64 c, .slice ao na ca], .agg #[.int .i64 r, .int .i64 n, .slice bo nb cb], .agg #[.int .i64 n, .int .i64 c, .slice co nc cc]] w fun e w' => ∃ v, e = .returned (.tuple #[v, .int .i64 0]) ∧ IsLv w' v lo2 z ∧ Below w.heap.size w w' := by
  have K0 := hide C0; have ST := hide (Bx3D.start w r c r n n c ao bo co na nb nc ca cb cc)
  have H1 := hide C1; have H2 := hide C2; have H3 := hide C3; have H4 := hide C4; have H5 := hide C5; have H6 := hide C6
  have y0 := (unhide ST).1.c0; have y1 := (unhide ST).1.c1; have y2 := (unhide ST).1.c2
  have u0 := (unhide ST).2.1.c0; have u1 := (unhide ST).2.1.c1; have u2 := (unhide ST).2.1.c2
  have v0 := (unhide ST).2.2.1.c0; have v1 := (unhide ST).2.2.1.c1; have v2 := (unhide ST).2.2.1.c2
  clear C0 C1 C2 C3 C4 C5 C6
  generalize r * c = rc at *
  generalize r * n = rn at *
  generalize n * c = nn at *
  go_enter Tryz.func17, Tryz.ntmps17
  go_wp2_with fail
  refine (unhide K0 _ (unhide ST).2.2.2.2).mono ?_
  rintro e w1 ⟨rfl, hb1⟩
  replace ST := hide ((unhide ST).all hb1)
  clear y0 y1 y2 u0 u1 u2 v0 v1 v2 K0 hb1
  go_wp2_with fail
  refine at_world (fun W => Bx3D w W r c r n n c ao bo co na nb nc ca cb cc) (unhide ST) ?_
  clear ST
  rintro W0 st
  obtain ⟨x1, x2, x3, x4, b0⟩ := st
  obtain ⟨g1, e1⟩ : ∃ g1, g1 = w.heap.size + 1 := ⟨_, rfl⟩
  obtain ⟨g2, e2⟩ : ∃ g2, g2 = w.heap.size + 1 + 1 := ⟨_, rfl⟩
  obtain ⟨g3, e3⟩ : ∃ g3, g3 = w.heap.size + 1 + 1 + 1 := ⟨_, rfl⟩
  rw [← e3] at x4 ⊢
  rw [← e2] at x3 ⊢
  rw [← e1] at x2 ⊢
  have l0 := hide (show w.heap.size < g3 by omega); have l1 := hide (show g1 < g3 by omega); have l2 := hide (show g2 < g3 by omega)
  clear e1 e2 e3
  have HK := hide (fun w' (h : Below g3 W0 w') => (show Below g3 W0 w' ∧ w'.cell? ⟨w.heap.size, 0, none⟩ = some (.int .i64 r) ∧ w'.cell? ⟨w.heap.size, 1, none⟩ = some (.int .i64 c) ∧ w'.cell? ⟨w.heap.size, 2, none⟩ = some (.slice ao na ca) ∧ w'.cell? ⟨g1, 0, none⟩ = some (.int .i64 r) ∧ w'.cell? ⟨g1, 1, none⟩ = some (.int .i64 n) ∧ w'.cell? ⟨g1, 2, none⟩ = some (.slice bo nb cb) ∧ w'.cell? ⟨g2, 0, none⟩ = some (.int .i64 n) ∧ w'.cell? ⟨g2, 1, none⟩ = some (.int .i64 c) ∧ w'.cell? ⟨g2, 2, none⟩ = some (.slice co nc cc) from
    ⟨h, (x1.below h (unhide l0)).c0, (x1.below h (unhide l0)).c1, (x1.below h (unhide l0)).c2, (x2.below h (unhide l1)).c0, (x2.below h (unhide l1)).c1, (x2.below h (unhide l1)).c2, (x3.below h (unhide l2)).c0, (x3.below h (unhide l2)).c1, (x3.below h (unhide l2)).c2⟩))
  have HKS := hide (fun wn u u' u'' (h1 : Below g3 W0 wn) => unhide HK (((wn.setCell ⟨g3, 0, none⟩ u).setCell ⟨g3, 1, none⟩ u').setCell ⟨g3, 2, none⟩ u'') (below_put3 h1 (Nat.le_refl _) u u' u''))
  have BW := hide (fun w' (h : Below g3 W0 w') => b0.trans (h.mono (Nat.le_of_lt (unhide l0))))
  have HG := hide (Nat.le_of_lt x4.lt)
  have X4 := hide x4.drew
  clear x1 x2 x3 x4 b0
  go_region_held3 (fun w' => Below g3 W0 w' ∧ w'.cell? ⟨w.heap.size, 0, none⟩ = some (.int .i64 r) ∧ w'.cell? ⟨w.heap.size, 1, none⟩ = some (.int .i64 c) ∧ w'.cell? ⟨w.heap.size, 2, none⟩ = some (.slice ao na ca) ∧ w'.cell? ⟨g1, 0, none⟩ = some (.int .i64 r) ∧ w'.cell? ⟨g1, 1, none⟩ = some (.int .i64 n) ∧ w'.cell? ⟨g1, 2, none⟩ = some (.slice bo nb cb) ∧ w'.cell? ⟨g2, 0, none⟩ = some (.int .i64 n) ∧ w'.cell? ⟨g2, 1, none⟩ = some (.int .i64 c) ∧ w'.cell? ⟨g2, 2, none⟩ = some (.slice co nc cc))
    (first | exact unhide HK _ (Below.refl _ _).drew | exact unhide HK _ (by assumption) | exact unhide HKS _ _ _ _ hB8 | fail "KK")
    (first
      | (go_at_call_of 34 ao; refine (unhide H1 _ (unhide BW _ (And.left (by assumption)))).mono ?_; rintro e w9 ⟨o1, d1, rfl, qn, hb1⟩; have hB9 : Below g3 W0 w9 := Below.trans (And.left (by assumption)) (hb1.mono (Nat.le_trans (unhide HG) (Below.size (And.left (by assumption))))); (first | (replace QB := hide ((unhide QB).below hb1)) | skip); (first | (replace QC := hide ((unhide QC).below hb1)) | skip); (first | (replace QT := hide ((unhide QT).below hb1)) | skip); (first | (replace QL := hide ((unhide QL).below hb1)) | skip); replace X4 := hide ((unhide X4).all hb1); have QA := hide qn; clear qn hb1)
      | (go_at_call_of 34 bo; refine (unhide H2 _ (unhide BW _ (And.left (by assumption)))).mono ?_; rintro e w9 ⟨o2, d2, rfl, qn, hb1⟩; have hB9 : Below g3 W0 w9 := Below.trans (And.left (by assumption)) (hb1.mono (Nat.le_trans (unhide HG) (Below.size (And.left (by assumption))))); (first | (replace QA := hide ((unhide QA).below hb1)) | skip); (first | (replace QC := hide ((unhide QC).below hb1)) | skip); (first | (replace QT := hide ((unhide QT).below hb1)) | skip); (first | (replace QL := hide ((unhide QL).below hb1)) | skip); replace X4 := hide ((unhide X4).all hb1); have QB := hide qn; clear qn hb1)
      | (go_at_call_of 34 co; refine (unhide H3 _ (unhide BW _ (And.left (by assumption)))).mono ?_; rintro e w9 ⟨o3, d3, rfl, qn, hb1⟩; have hB9 : Below g3 W0 w9 := Below.trans (And.left (by assumption)) (hb1.mono (Nat.le_trans (unhide HG) (Below.size (And.left (by assumption))))); (first | (replace QA := hide ((unhide QA).below hb1)) | skip); (first | (replace QB := hide ((unhide QB).below hb1)) | skip); (first | (replace QT := hide ((unhide QT).below hb1)) | skip); (first | (replace QL := hide ((unhide QL).below hb1)) | skip); replace X4 := hide ((unhide X4).all hb1); have QC := hide qn; clear qn hb1)
      | (go_at_call 37; refine (unhide H4 _ _ _ _ _ (unhide BW _ (And.left (by assumption))) (unhide QB) (unhide QC)).mono ?_; rintro e w9 ⟨o4, d4, rfl, qn, hb1⟩; have hB9 : Below g3 W0 w9 := Below.trans (And.left (by assumption)) (hb1.mono (Nat.le_trans (unhide HG) (Below.size (And.left (by assumption))))); (first | (replace QA := hide ((unhide QA).below hb1)) | skip); (first | (replace QB := hide ((unhide QB).below hb1)) | skip); (first | (replace QC := hide ((unhide QC).below hb1)) | skip); (first | (replace QL := hide ((unhide QL).below hb1)) | skip); replace X4 := hide ((unhide X4).all hb1); have QT := hide qn; clear qn hb1)
      | (go_at_call 36; refine (unhide H5 _ _ _ _ _ (unhide BW _ (And.left (by assumption))) (unhide QA) (unhide QT)).mono ?_; rintro e w9 ⟨o5, d5, rfl, qn, hb1⟩; have hB9 : Below g3 W0 w9 := Below.trans (And.left (by assumption)) (hb1.mono (Nat.le_trans (unhide HG) (Below.size (And.left (by assumption))))); (first | (replace QA := hide ((unhide QA).below hb1)) | skip); (first | (replace QB := hide ((unhide QB).below hb1)) | skip); (first | (replace QC := hide ((unhide QC).below hb1)) | skip); (first | (replace QT := hide ((unhide QT).below hb1)) | skip); replace X4 := hide ((unhide X4).all hb1); have QL := hide qn; clear qn hb1)
      | (go_at_call 33; refine (unhide H6 _ _ _ (unhide BW _ (And.left (by assumption))) (unhide QL)).mono ?_; rintro e w8 ⟨v, rfl, ⟨n5, a5, c5, L5, rfl, i5⟩, hb1⟩; have hB8 : Below g3 W0 w8 := Below.trans (And.left (by assumption)) (hb1.mono (Nat.le_trans (unhide HG) (Below.size (And.left (by assumption))))); replace X4 := hide ((unhide X4).all hb1); have IP := hide (show IsLv w8 (.agg #[.bool n5, .slice a5 L5.length c5, .int .i64 (oE z lo2)]) lo2 z from ⟨n5, a5, c5, L5, rfl, i5⟩); have y0 := (unhide X4).c0; have y1 := (unhide X4).c1; have y2 := (unhide X4).c2; have f0 := (unhide X4).free 0; have f1 := (unhide X4).free 1; have f2 := (unhide X4).free 2; clear i5 hb1)
      | fail "NO ARM")
  all_goals
    have xp := (unhide X4).put (.bool n5) (.slice a5 L5.length c5) (.int .i64 (oE z lo2))
    have z0 := xp.c0; have z1 := xp.c1; have z2 := xp.c2
    have QP := hide (IsDy.put3 (unhide IP) (unhide X4) (.bool n5) (.slice a5 L5.length c5) (.int .i64 (oE z lo2)))
    have PB := hide (below_put3 (unhide BW _ hB8) (Nat.le_of_lt (unhide l0)) (.bool n5) (.slice a5 L5.length c5) (.int .i64 (oE z lo2)))
    clear xp y0 y1 y2 f0 f1 f2
    go_wp2
    exact bodyPost_ret (v := .tuple #[.agg #[.bool n5, .slice a5 L5.length c5, .int .i64 (oE z lo2)], .int .i64 0]) (by simp [results, Tryz.results17, go_sem, z0, z1, z2]) rfl ⟨_, rfl, unhide QP, unhide PB⟩

end Go.Proofs.YtfnnbkclnflpfaaGreatDoor

/- Package certify: Orthogonal by letters. -/
namespace Go.Proofs.YtfnnbkclnflpfaaGreatDoor
open Go.RowKit
attribute [local go_sem ↓] Go.wp_at_zero Go.wp_at_succ

theorem BoxT.oth3 {T : Nat} {w : World} {b : Nat} {x y z : Value} (h : BoxT T w b x y z) {g : Nat} (hg : b ≠ g) (u u' u'' : Value) : BoxT T (((w.setCell ⟨g, 0, none⟩ u).setCell ⟨g, 1, none⟩ u').setCell ⟨g, 2, none⟩ u'') b x y z :=
  ((h.other (p := ⟨g, 0, none⟩) hg u).other (p := ⟨g, 1, none⟩) hg u').other (p := ⟨g, 2, none⟩) hg u''
theorem BoxM.oth3 {w : World} {b : Nat} {x y z : Value} (h : BoxM w b x y z) {g : Nat} (hg : b ≠ g) (u u' u'' : Value) : BoxM (((w.setCell ⟨g, 0, none⟩ u).setCell ⟨g, 1, none⟩ u').setCell ⟨g, 2, none⟩ u'') b x y z :=
  ((h.other (p := ⟨g, 0, none⟩) hg u).other (p := ⟨g, 1, none⟩) hg u').other (p := ⟨g, 2, none⟩) hg u''

end Go.Proofs.YtfnnbkclnflpfaaGreatDoor

/- Package certify: Square, Residual, Orthogonal, Gradient of matrices of finite numbers. -/
namespace Go.Proofs.YtfnnbkclnflpfaaGreatDoor
open Go.RowKit

theorem fZ_lvl (b : Nat) (hf : fFin b = true) : Lvl (-1074) 2098 (fZ b) := ⟨fZ_lt b hf, by decide, by decide, by decide⟩
theorem up_lvl (b : Nat) (hf : fFin b = true) : Lvl (-2148) 4200 (fZ b * 2 ^ 1074) := ⟨up_ltV (j := 2098) (k := 1074) (V := 4200) (by decide) (fZ_lt b hf), by decide, by decide, by decide⟩
theorem dt_lvl (n : Nat) (hn : n ≤ 8) (x y : Nat → Nat) (hx : ∀ j, j < n → fFin (x j) = true) (hy : ∀ j, j < n → fFin (y j) = true) : Lvl (-2148) 4200 (smI (fun j => fZ (x j) * fZ (y j)) n) :=
  (dtZ_lvl n hn x y hx hy).more (by decide) (by decide) (by decide)
theorem pr_lvl (a b : Nat) (ha : fFin a = true) (hb : fFin b = true) : Lvl (-2148) 4200 (fZ a * fZ b) :=
  (show Lvl (-2148) 4196 (fZ a * fZ b) from ⟨mul_ltV (j := 2098) (k := 2098) (V := 4196) (by decide) (fZ_lt a ha) (fZ_lt b hb), by decide, by decide, by decide⟩).more (by decide) (by decide) (by decide)

/-- What Check says of such a matrix. -/
theorem ckE_ok {w : World} {ao : Option Addr} {cap r c : Nat} {S : List Nat} (h : Mx w ao cap r c S) (hf : ∀ x ∈ S, fFin x = true) : ckE (r : Int) (c : Int) (mxL S) = 0 := by
  unfold ckE
  rw [mxL_len, if_pos (mx_ok h), if_pos]
  have : ∀ k, k ≤ S.length → fnK (mxL S) k = true := by
    intro k
    induction k with
    | zero => intro _; rfl
    | succ k ih =>
      intro hk
      show (fnK (mxL S) k && fFin (atB (mxL S) k)) = true
      rw [ih (by omega), mxL_at, Bool.true_and, List.getD_eq_getElem?_getD, List.getElem?_eq_getElem (by omega)]
      exact hf _ (List.getElem_mem _)
  exact this _ (Nat.le_refl _)

theorem ccheck_ok (r c cap : Nat) (ao : Option Addr) (S : List Nat) (w : World) (h : Mx w ao cap r c S) (hf : ∀ x ∈ S, fFin x = true) :
    Calls Tryz.prog 12 #[.agg #[.int .i64 r, .int .i64 c, .slice ao S.length cap]] w fun e w' => e = .returned (.int .i64 0) ∧ Below w.heap.size w w' := by
  have := ccheck_any r c ao cap (mxL S) w h.1 (by rw [mxL_len]; have := h.small; omega)
  rwa [ckE_ok h hf, mxL_len] at this

/-- Sums over a grid's places. -/
theorem grid_sum (G : Nat → Nat → Int) (r c : Nat) : smI (fun p => G (p / c) (p % c)) (r * c) = smI (fun i => smI (fun k => G i k) c) r := by
  rw [smI_grid]
  refine smI_congr _ (fun i _ => smI_congr _ (fun k hk => ?_))
  rw [place_div hk, place_mod hk]

theorem cRes_any (r n c ca cb cc : Nat) (ao bo co : Option Addr) (A B C : List Nat) (w : World) (hA : Mx w ao ca r c A) (hB : Mx w bo cb r n B) (hC : Mx w co cc n c C) (fA : ∀ x ∈ A, fFin x = true) (fB : ∀ x ∈ B, fFin x = true) (fC : ∀ x ∈ C, fFin x = true) (hT : Tab w) :
    Calls Tryz.prog 17 #[.agg #[.int .i64 r, .int .i64 c, .slice ao A.length ca], .agg #[.int .i64 r, .int .i64 n, .slice bo B.length cb], .agg #[.int .i64 n, .int .i64 c, .slice co C.length cc]] w fun e w' => ∃ v, e = .returned (.tuple #[v, .int .i64 0]) ∧ IsLv w' v (-4296) (rsQ r n c A B C) ∧ Below w.heap.size w w' := by
  have n6 := hC.2.2.1
  refine cRes_of r n c _ _ _ ca cb cc ao bo co (-1074) (-2148) (-4296) (rsQ r n c A B C) (fun i k => fZ (elM c A i k)) (fun i k => fZ (elM n B i k)) (fun i k => fZ (elM c C i k)) (fun i k => smI (fun j => fZ (elM n B i j) * fZ (elM c C j k)) n) (fun i k => rsZ n c A B C i k) w
    (fun w' hb => ?_) (fun w' hb => values_any r c ca ao A w' (hA.below hb) fA (hT.all hb)) (fun w' hb => values_any r n cb bo B w' (hB.below hb) fB (hT.all hb)) (fun w' hb => values_any n c cc co C w' (hC.below hb) fC (hT.all hb)) (fun w' xo xd yo yd hb hx hy => ?_) (fun w' xo xd yo yd hb hx hy => ?_) (fun w' xo xd hb hx => ?_)
  · have := checkProduct_of r c r n n c ao bo co A.length B.length C.length ca cb cc 0 0 0 w' (.inl rfl) (.inl rfl) (.inl rfl) (fun w'' hb2 => ccheck_ok r c ca ao A w'' ((hA.below hb).below hb2) fA) (fun w'' hb2 => ccheck_ok r n cb bo B w'' ((hB.below hb).below hb2) fB) (fun w'' hb2 => ccheck_ok n c cc co C w'' ((hC.below hb).below hb2) fC)
    simpa [fst3] using this
  · exact gtimes_any r n c xd yd xo yo (-1074) (-1074) (-2148) 2098 2098 4200 _ _ w' (by decide) hx hy (fun i k _ _ => fZ_lvl _ (el_fin n B i k fB)) (fun i k _ _ => fZ_lvl _ (el_fin c C i k fC)) (fun i j k _ _ _ => pr_lvl _ _ (el_fin n B i j fB) (el_fin c C j k fC)) (fun i k j _ _ hj => dt_lvl j (by omega) _ _ (fun l _ => el_fin n B i l fB) (fun l _ => el_fin c C l k fC)) (hT.all hb)
  · have hx' := hx.lower 1074
    rw [show (-1074 : Int) - (1074 : Nat) = -2148 by decide] at hx'
    exact less_any11 r c xd yd xo yo (-2148) 4200 _ _ w' hx' hy (fun i k _ _ => up_lvl _ (el_fin c A i k fA)) (fun i k _ _ => dt_lvl n (by omega) _ _ (fun l _ => el_fin n B i l fB) (fun l _ => el_fin c C l k fC)) (fun i k _ _ => ⟨rsZ_lt n c A B C i k (by omega) fA fB fC, by decide, by decide, by decide⟩) (hT.all hb)
  · have C1 := square_any r c (r * c) xd xo (-2148) 4200 (fun p => rsZ n c A B C (p / c) (p % c)) w' hx.1 (Nat.mul_le_mul hx.2.1 hx.2.2) (fun k _ => ⟨rsZ_lt n c A B C _ _ (by omega) fA fB fC, by decide, by decide, by decide⟩) (by decide) (by decide) (by decide) (hT.all hb)
    rw [grid_sum (fun i k => rsZ n c A B C i k * rsZ n c A B C i k) r c] at C1
    exact C1

end Go.Proofs.YtfnnbkclnflpfaaGreatDoor

/- Package certify: is a number at most another one times a power of two, and 2^-4000 more? -/
namespace Go.Proofs.YtfnnbkclnflpfaaGreatDoor
open Go.RowKit
attribute [local go_sem ↓] Go.wp_at_zero Go.wp_at_succ
/-- What holds in atMost: the numbers' boxes. -/
def AmSt (w wr : World) (na nb : Bool) (ao bo : Option Addr) (ka kb ca cb : Nat) (x y : Int) : Prop :=
  Box3 wr w.heap.size (.bool na) (.slice ao ka ca) (.int .i64 x) ∧ Box3 wr (w.heap.size + 1) (.bool nb) (.slice bo kb cb) (.int .i64 y) ∧ Below w.heap.size w wr
theorem AmSt.all {w wr w' : World} {na nb : Bool} {ao bo : Option Addr} {ka kb ca cb : Nat} {x y : Int} (h : AmSt w wr na nb ao bo ka kb ca cb x y) (hb : Below wr.heap.size wr w') : AmSt w w' na nb ao bo ka kb ca cb x y := ⟨h.1.all hb, h.2.1.all hb, h.2.2.trans (hb.mono h.2.2.size)⟩
theorem AmSt.start (w : World) (na nb : Bool) (ao bo : Option Addr) (ka kb ca cb : Nat) (x y : Int) : AmSt w ((w.alloc (.cells #[.bool na, .slice ao ka ca, .int .i64 x] 29)).alloc (.cells #[.bool nb, .slice bo kb cb, .int .i64 y] 29)) na nb ao bo ka kb ca cb x y := by
  have b0 := below_alloc9 w (.cells #[.bool na, .slice ao ka ca, .int .i64 x] 29)
  have s0 := size_alloc9 w (.cells #[.bool na, .slice ao ka ca, .int .i64 x] 29)
  have x0 := Box3.new w (.bool na) (.slice ao ka ca) (.int .i64 x)
  generalize w.alloc (.cells #[.bool na, .slice ao ka ca, .int .i64 x] 29) = w0 at *
  have b1 := below_alloc9 w0 (.cells #[.bool nb, .slice bo kb cb, .int .i64 y] 29)
  have k1 := Box3.new w0 (.bool nb) (.slice bo kb cb) (.int .i64 y)
  rw [s0] at k1
  exact ⟨x0.all b1, k1, b0.trans (b1.mono b0.size)⟩

/-- In the loop: the boxes, the number 1's. -/
def AlSt (w wr : World) (g : Nat) (na nb : Bool) (ao bo : Option Addr) (ka kb ca cb : Nat) (x y : Int) : Prop :=
  AmSt w wr na nb ao bo ka kb ca cb x y ∧ LimbsAt wr (some ⟨g, 0, none⟩) 1 [1] ∧ Box2 wr (g + 1) (.bool false) (.slice (some ⟨g, 0, none⟩) 1 1)
theorem AlSt.all {w wr w' : World} {g : Nat} {na nb : Bool} {ao bo : Option Addr} {ka kb ca cb : Nat} {x y : Int} (h : AlSt w wr g na nb ao bo ka kb ca cb x y) (hb : Below wr.heap.size wr w') : AlSt w w' g na nb ao bo ka kb ca cb x y := ⟨h.1.all hb, h.2.1.below hb, h.2.2.below hb h.2.2.lt⟩
theorem AlSt.start {w wc : World} {na nb : Bool} {ao bo : Option Addr} {ka kb ca cb : Nat} {x y : Int} (h : AmSt w wc na nb ao bo ka kb ca cb x y) :
    AlSt w ((wc.alloc (.cells #[.int .u32 1] 70)).alloc (.cells #[.bool false, .slice (some ⟨wc.heap.size, 0, none⟩) 1 1] 27)) wc.heap.size na nb ao bo ka kb ca cb x y := by
  have b0 := below_alloc9 wc (.cells #[.int .u32 1] 70)
  have s0 := size_alloc9 wc (.cells #[.int .u32 1] 70)
  have h0 := heap_alloc_new wc (.cells #[.int .u32 1] 70)
  generalize wc.alloc (.cells #[.int .u32 1] 70) = w0 at *
  have b1 := below_alloc9 w0 (.cells #[.bool false, .slice (some ⟨wc.heap.size, 0, none⟩) 1 1] 27)
  have k1 := Box2.new w0 (.bool false) (.slice (some ⟨wc.heap.size, 0, none⟩) 1 1)
  rw [s0] at k1
  have hl : LimbsAt w0 (some ⟨wc.heap.size, 0, none⟩) 1 [1] := ⟨by decide, by simp, .inr ⟨wc.heap.size, 0, rfl, by omega, fun i hi => by
    obtain rfl : i = 0 := by simpa using hi
    rw [cell_of_row w0 wc.heap.size _ _ _ _ h0]; rfl⟩⟩
  exact ⟨(h.all b0).all b1, hl.below b1, k1⟩

end Go.Proofs.YtfnnbkclnflpfaaGreatDoor

/- The reference of layer 11: Dot. -/
namespace Go.Proofs.YtfnnbkclnflpfaaGreatDoor
open Go.RowKit
attribute [local go_sem ↓] Go.wp_at_zero Go.wp_at_succ

/-- What holds in a sum's loop: the answer's box, the sum. -/
def DtSt (w wr : World) (lo s : Int) : Prop := Box3 wr w.heap.size (.bool false) (.slice none 0 0) (.int .i64 0) ∧ Kept wr (w.heap.size + 1) lo s ∧ Below w.heap.size w wr
theorem DtSt.all {w wr w' : World} {lo s : Int} (h : DtSt w wr lo s) (hb : Below wr.heap.size wr w') : DtSt w w' lo s := ⟨h.1.all hb, h.2.1.all hb, h.2.2.trans (hb.mono h.2.2.size)⟩
theorem DtSt.start (w : World) (lo : Int) : DtSt w ((w.alloc (.cells #[.bool false, .slice none 0 0, .int .i64 0] 29)).alloc (.cells #[.bool false, .slice none 0 0, .int .i64 0] 29)) lo 0 := by
  have b0 := below_alloc9 w (.cells #[.bool false, .slice none 0 0, .int .i64 0] 29)
  have s0 := size_alloc9 w (.cells #[.bool false, .slice none 0 0, .int .i64 0] 29)
  have x0 := Box3.new w (.bool false) (.slice none 0 0) (.int .i64 0)
  generalize w.alloc (.cells #[.bool false, .slice none 0 0, .int .i64 0] 29) = w0 at *
  have b1 := below_alloc9 w0 (.cells #[.bool false, .slice none 0 0, .int .i64 0] 29)
  have k1 := Kept.new w0 lo
  rw [s0] at k1
  exact ⟨x0.all b1, k1, b0.trans (b1.mono b0.size)⟩
/-- The sum's box is written. -/
theorem DtSt.put {w wr : World} {lo s t : Int} (h : DtSt w wr lo s) {n : Bool} {a : Option Addr} {l c : Nat} {X : Int} (hv : IsLv wr (.agg #[.bool n, .slice a l c, .int .i64 X]) lo t) :
    DtSt w (((wr.setCell ⟨w.heap.size + 1, 0, none⟩ (.bool n)).setCell ⟨w.heap.size + 1, 1, none⟩ (.slice a l c)).setCell ⟨w.heap.size + 1, 2, none⟩ (.int .i64 X)) lo t := by
  obtain ⟨h1, ⟨n', a', l', c', X', h2, _⟩, h3⟩ := h
  have ne : w.heap.size ≠ w.heap.size + 1 := by omega
  exact ⟨((h1.other (p := ⟨w.heap.size + 1, 0, none⟩) ne _).other (p := ⟨w.heap.size + 1, 1, none⟩) ne _).other (p := ⟨w.heap.size + 1, 2, none⟩) ne _, ⟨n, a, l, c, X, h2.put _ _ _, IsDy.put3 hv h2 _ _ _⟩, below_put3 h3 (by omega) _ _ _⟩

end Go.Proofs.YtfnnbkclnflpfaaGreatDoor

