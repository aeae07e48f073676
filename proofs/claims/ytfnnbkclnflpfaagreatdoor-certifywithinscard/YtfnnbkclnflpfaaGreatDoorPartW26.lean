/- Part 26 of the texts. -/
import Derived.Test.YtfnnbkclnflpfaaGreatDoorPartW25
import Derived.Test.YtfnnbkclnflpfaaGreatDoorPartW23
import Derived.Test.YtfnnbkclnflpfaaGreatDoorPartW03
/- Package certify: Square, Residual by letters. -/
namespace Go.Proofs.YtfnnbkclnflpfaaGreatDoor
open Go.RowKit
attribute [local go_sem ↓] Go.wp_at_zero Go.wp_at_succ

/-- One matrix's box and the answer's. -/
theorem boxes1D (w : World) (r c : Int) (ao : Option Addr) (n cap : Nat) : BoxM ((w.alloc (.cells #[.int .i64 r, .int .i64 c, .slice ao n cap] 24)).alloc (.cells #[.bool false, .slice none 0 0, .int .i64 0] 29)) w.heap.size (.int .i64 r) (.int .i64 c) (.slice ao n cap) ∧ Box3 ((w.alloc (.cells #[.int .i64 r, .int .i64 c, .slice ao n cap] 24)).alloc (.cells #[.bool false, .slice none 0 0, .int .i64 0] 29)) (w.heap.size + 1) (.bool false) (.slice none 0 0) (.int .i64 0) ∧ Below w.heap.size w ((w.alloc (.cells #[.int .i64 r, .int .i64 c, .slice ao n cap] 24)).alloc (.cells #[.bool false, .slice none 0 0, .int .i64 0] 29)) := by
  have b0 := below_alloc9 w (.cells #[.int .i64 r, .int .i64 c, .slice ao n cap] 24)
  have s0 := size_alloc9 w (.cells #[.int .i64 r, .int .i64 c, .slice ao n cap] 24)
  have x0 := BoxM.new w (.int .i64 r) (.int .i64 c) (.slice ao n cap)
  generalize w.alloc (.cells #[.int .i64 r, .int .i64 c, .slice ao n cap] 24) = w0 at *
  have b1 := below_alloc9 w0 (.cells #[.bool false, .slice none 0 0, .int .i64 0] 29)
  have x1 := Box3.new w0 (.bool false) (.slice none 0 0) (.int .i64 0)
  rw [s0] at x1
  exact ⟨x0.all b1, x1, b0.trans (b1.mono b0.size)⟩

/-- Three matrices' boxes and the answer's. -/
def Bx3D (w W : World) (r c p q s d : Int) (ao bo co : Option Addr) (na nb nc ca cb cc : Nat) : Prop :=
  BoxM W w.heap.size (.int .i64 r) (.int .i64 c) (.slice ao na ca) ∧ BoxM W (w.heap.size + 1) (.int .i64 p) (.int .i64 q) (.slice bo nb cb) ∧ BoxM W (w.heap.size + 1 + 1) (.int .i64 s) (.int .i64 d) (.slice co nc cc) ∧ Box3 W (w.heap.size + 1 + 1 + 1) (.bool false) (.slice none 0 0) (.int .i64 0) ∧ Below w.heap.size w W
theorem Bx3D.all {w W W' : World} {r c p q s d : Int} {ao bo co : Option Addr} {na nb nc ca cb cc : Nat} (h : Bx3D w W r c p q s d ao bo co na nb nc ca cb cc) (hb : Below W.heap.size W W') : Bx3D w W' r c p q s d ao bo co na nb nc ca cb cc :=
  ⟨h.1.all hb, h.2.1.all hb, h.2.2.1.all hb, h.2.2.2.1.all hb, h.2.2.2.2.trans (hb.mono h.2.2.2.2.size)⟩
theorem Bx3D.start (w : World) (r c p q s d : Int) (ao bo co : Option Addr) (na nb nc ca cb cc : Nat) : Bx3D w ((((w.alloc (.cells #[.int .i64 r, .int .i64 c, .slice ao na ca] 24)).alloc (.cells #[.int .i64 p, .int .i64 q, .slice bo nb cb] 24)).alloc (.cells #[.int .i64 s, .int .i64 d, .slice co nc cc] 24)).alloc (.cells #[.bool false, .slice none 0 0, .int .i64 0] 29)) r c p q s d ao bo co na nb nc ca cb cc := by
  have b0 := below_alloc9 w (.cells #[.int .i64 r, .int .i64 c, .slice ao na ca] 24)
  have s0 := size_alloc9 w (.cells #[.int .i64 r, .int .i64 c, .slice ao na ca] 24)
  have x0 := BoxM.new w (.int .i64 r) (.int .i64 c) (.slice ao na ca)
  generalize w.alloc (.cells #[.int .i64 r, .int .i64 c, .slice ao na ca] 24) = w0 at *
  have b1 := below_alloc9 w0 (.cells #[.int .i64 p, .int .i64 q, .slice bo nb cb] 24)
  have s1 := size_alloc9 w0 (.cells #[.int .i64 p, .int .i64 q, .slice bo nb cb] 24)
  have x1 := BoxM.new w0 (.int .i64 p) (.int .i64 q) (.slice bo nb cb)
  generalize w0.alloc (.cells #[.int .i64 p, .int .i64 q, .slice bo nb cb] 24) = w1 at *
  have b2 := below_alloc9 w1 (.cells #[.int .i64 s, .int .i64 d, .slice co nc cc] 24)
  have s2 := size_alloc9 w1 (.cells #[.int .i64 s, .int .i64 d, .slice co nc cc] 24)
  have x2 := BoxM.new w1 (.int .i64 s) (.int .i64 d) (.slice co nc cc)
  generalize w1.alloc (.cells #[.int .i64 s, .int .i64 d, .slice co nc cc] 24) = w2 at *
  have b3 := below_alloc9 w2 (.cells #[.bool false, .slice none 0 0, .int .i64 0] 29)
  have x3 := Box3.new w2 (.bool false) (.slice none 0 0) (.int .i64 0)
  rw [s2, s1, s0] at x3
  rw [s1, s0] at x2
  rw [s0] at x1
  have bb := (b0.trans (b1.mono b0.size)).trans (b2.mono (Nat.le_trans b0.size b1.size))
  exact ⟨((x0.all b1).all b2).all b3, (x1.all b2).all b3, x2.all b3, x3, bb.trans (b3.mono bb.size)⟩

end Go.Proofs.YtfnnbkclnflpfaaGreatDoor

/- Package certify: Residual by letters. -/
namespace Go.Proofs.YtfnnbkclnflpfaaGreatDoor
open Go.RowKit
attribute [local go_sem ↓] Go.wp_at_zero Go.wp_at_succ

set_option maxRecDepth 20000 in
set_option maxHeartbeats 16000000 in
theorem cRes_of (r n c na nb nc ca cb cc : Nat) (ao bo co : Option Addr) (lo lo1 lo2 z : Int) (FA FB FC FT FL : Nat → Nat → Int) (w : World)
    (C0 : ∀ w', Below w.heap.size w w' → Calls Tryz.prog 52 #[.agg #[.int .i64 r, .int .i64 c, .slice ao na ca], .agg #[.int .i64 r, .int .i64 n, .slice bo nb cb], .agg #[.int .i64 n, .int .i64 c, .slice co nc cc]] w' fun e w'' => e = .returned (.int .i64 0) ∧ Below w'.heap.size w' w'')
    (C1 : ∀ w', Below w.heap.size w w' → Calls Tryz.prog 34 #[.agg #[.int .i64 r, .int .i64 c, .slice ao na ca]] w' fun e w'' => ∃ go q, e = .returned (.agg #[.int .i64 r, .int .i64 c, .slice go (r * c) q]) ∧ Gr w'' go q r c lo FA ∧ Below w'.heap.size w' w'')
    (C2 : ∀ w', Below w.heap.size w w' → Calls Tryz.prog 34 #[.agg #[.int .i64 r, .int .i64 n, .slice bo nb cb]] w' fun e w'' => ∃ go q, e = .returned (.agg #[.int .i64 r, .int .i64 n, .slice go (r * n) q]) ∧ Gr w'' go q r n lo FB ∧ Below w'.heap.size w' w'')
    (C3 : ∀ w', Below w.heap.size w w' → Calls Tryz.prog 34 #[.agg #[.int .i64 n, .int .i64 c, .slice co nc cc]] w' fun e w'' => ∃ go q, e = .returned (.agg #[.int .i64 n, .int .i64 c, .slice go (n * c) q]) ∧ Gr w'' go q n c lo FC ∧ Below w'.heap.size w' w'')
    (C4 : ∀ w' xo xd yo yd, Below w.heap.size w w' → Gr w' xo xd r n lo FB → Gr w' yo yd n c lo FC → Calls Tryz.prog 37 #[.agg #[.int .i64 r, .int .i64 n, .slice xo (r * n) xd], .agg #[.int .i64 n, .int .i64 c, .slice yo (n * c) yd]] w' fun e w'' => ∃ go q, e = .returned (.agg #[.int .i64 r, .int .i64 c, .slice go (r * c) q]) ∧ Gr w'' go q r c lo1 FT ∧ Below w'.heap.size w' w'')
    (C5 : ∀ w' xo xd yo yd, Below w.heap.size w w' → Gr w' xo xd r c lo FA → Gr w' yo yd r c lo1 FT → Calls Tryz.prog 36 #[.agg #[.int .i64 r, .int .i64 c, .slice xo (r * c) xd], .agg #[.int .i64 r, .int .i64 c, .slice yo (r * c) yd]] w' fun e w'' => ∃ go q, e = .returned (.agg #[.int .i64 r, .int .i64 c, .slice go (r * c) q]) ∧ Gr w'' go q r c lo1 FL ∧ Below w'.heap.size w' w'')
    (C6 : ∀ w' xo xd, Below w.heap.size w w' → Gr w' xo xd r c lo1 FL → Calls Tryz.prog 33 #[.agg #[.int .i64 r, .int .i64 c, .slice xo (r * c) xd]] w' fun e w'' => ∃ v, e = .returned v ∧ IsLv w'' v lo2 z ∧ Below w'.heap.size w' w'') :
    Calls Tryz.prog 17 #[.agg #[.int .i64 r, .int .i64 c, .slice ao na ca], .agg #[.int .i64 r, .int .i64 n, .slice bo nb cb], .agg #[.int .i64 n, .int .i64 c, .slice co nc cc]] w fun e w' => ∃ v, e = .returned (.tuple #[v, .int .i64 0]) ∧ IsLv w' v lo2 z ∧ Below w.heap.size w w' := by
  have K0 := hide C0; have ST := hide (Bx3D.start w r c r n n c ao bo co na nb nc ca cb cc)
  have H1 := hide C1; have H2 := hide C2; have H3 := hide C3; have H4 := hide C4; have H5 := hide C5; have H6 := hide C6
  have y0 := (unhide ST).1.c0; have y1 := (unhide ST).1.c1; have y2 := (unhide ST).1.c2
  have u0 := (unhide ST).2.1.c0; have u1 := (unhide ST).2.1.c1; have u2 := (unhide ST).2.1.c2
  have v0 := (unhide ST).2.2.1.c0; have v1 := (unhide ST).2.2.1.c1; have v2 := (unhide ST).2.2.1.c2
  clear C0 C1 C2 C3 C4 C5 C6
  generalize r * c = rc at *
  generalize r * n = rn at *
  generalize n * c = nn at *
  go_enter Tryz.func17, Tryz.ntmps17
  go_wp2_with fail
  refine (unhide K0 _ (unhide ST).2.2.2.2).mono ?_
  rintro e w1 ⟨rfl, hb1⟩
  replace ST := hide ((unhide ST).all hb1)
  clear y0 y1 y2 u0 u1 u2 v0 v1 v2 K0 hb1
  go_wp2_with fail
  refine at_world (fun W => Bx3D w W r c r n n c ao bo co na nb nc ca cb cc) (unhide ST) ?_
  clear ST
  rintro W0 st
  obtain ⟨x1, x2, x3, x4, b0⟩ := st
  obtain ⟨g1, e1⟩ : ∃ g1, g1 = w.heap.size + 1 := ⟨_, rfl⟩
  obtain ⟨g2, e2⟩ : ∃ g2, g2 = w.heap.size + 1 + 1 := ⟨_, rfl⟩
  obtain ⟨g3, e3⟩ : ∃ g3, g3 = w.heap.size + 1 + 1 + 1 := ⟨_, rfl⟩
  rw [← e3] at x4 ⊢
  rw [← e2] at x3 ⊢
  rw [← e1] at x2 ⊢
  have l0 := hide (show w.heap.size < g3 by omega); have l1 := hide (show g1 < g3 by omega); have l2 := hide (show g2 < g3 by omega)
  clear e1 e2 e3
  have HK := hide (fun w' (h : Below g3 W0 w') => (show Below g3 W0 w' ∧ w'.cell? ⟨w.heap.size, 0, none⟩ = some (.int .i64 r) ∧ w'.cell? ⟨w.heap.size, 1, none⟩ = some (.int .i64 c) ∧ w'.cell? ⟨w.heap.size, 2, none⟩ = some (.slice ao na ca) ∧ w'.cell? ⟨g1, 0, none⟩ = some (.int .i64 r) ∧ w'.cell? ⟨g1, 1, none⟩ = some (.int .i64 n) ∧ w'.cell? ⟨g1, 2, none⟩ = some (.slice bo nb cb) ∧ w'.cell? ⟨g2, 0, none⟩ = some (.int .i64 n) ∧ w'.cell? ⟨g2, 1, none⟩ = some (.int .i64 c) ∧ w'.cell? ⟨g2, 2, none⟩ = some (.slice co nc cc) from
    ⟨h, (x1.below h (unhide l0)).c0, (x1.below h (unhide l0)).c1, (x1.below h (unhide l0)).c2, (x2.below h (unhide l1)).c0, (x2.below h (unhide l1)).c1, (x2.below h (unhide l1)).c2, (x3.below h (unhide l2)).c0, (x3.below h (unhide l2)).c1, (x3.below h (unhide l2)).c2⟩))
  have HKS := hide (fun wn u u' u'' (h1 : Below g3 W0 wn) => unhide HK (((wn.setCell ⟨g3, 0, none⟩ u).setCell ⟨g3, 1, none⟩ u').setCell ⟨g3, 2, none⟩ u'') (below_put3 h1 (Nat.le_refl _) u u' u''))
  have BW := hide (fun w' (h : Below g3 W0 w') => b0.trans (h.mono (Nat.le_of_lt (unhide l0))))
  have HG := hide (Nat.le_of_lt x4.lt)
  have X4 := hide x4.drew
  clear x1 x2 x3 x4 b0
  go_region_held3 (fun w' => Below g3 W0 w' ∧ w'.cell? ⟨w.heap.size, 0, none⟩ = some (.int .i64 r) ∧ w'.cell? ⟨w.heap.size, 1, none⟩ = some (.int .i64 c) ∧ w'.cell? ⟨w.heap.size, 2, none⟩ = some (.slice ao na ca) ∧ w'.cell? ⟨g1, 0, none⟩ = some (.int .i64 r) ∧ w'.cell? ⟨g1, 1, none⟩ = some (.int .i64 n) ∧ w'.cell? ⟨g1, 2, none⟩ = some (.slice bo nb cb) ∧ w'.cell? ⟨g2, 0, none⟩ = some (.int .i64 n) ∧ w'.cell? ⟨g2, 1, none⟩ = some (.int .i64 c) ∧ w'.cell? ⟨g2, 2, none⟩ = some (.slice co nc cc))
    (first | exact unhide HK _ (Below.refl _ _).drew | exact unhide HK _ (by assumption) | exact unhide HKS _ _ _ _ hB8 | fail "KK")
    (first
      | (go_at_call_of 34 ao; refine (unhide H1 _ (unhide BW _ (And.left (by assumption)))).mono ?_; rintro e w9 ⟨o1, d1, rfl, qn, hb1⟩; have hB9 : Below g3 W0 w9 := Below.trans (And.left (by assumption)) (hb1.mono (Nat.le_trans (unhide HG) (Below.size (And.left (by assumption))))); (first | (replace QB := hide ((unhide QB).below hb1)) | skip); (first | (replace QC := hide ((unhide QC).below hb1)) | skip); (first | (replace QT := hide ((unhide QT).below hb1)) | skip); (first | (replace QL := hide ((unhide QL).below hb1)) | skip); replace X4 := hide ((unhide X4).all hb1); have QA := hide qn; clear qn hb1)
      | (go_at_call_of 34 bo; refine (unhide H2 _ (unhide BW _ (And.left (by assumption)))).mono ?_; rintro e w9 ⟨o2, d2, rfl, qn, hb1⟩; have hB9 : Below g3 W0 w9 := Below.trans (And.left (by assumption)) (hb1.mono (Nat.le_trans (unhide HG) (Below.size (And.left (by assumption))))); (first | (replace QA := hide ((unhide QA).below hb1)) | skip); (first | (replace QC := hide ((unhide QC).below hb1)) | skip); (first | (replace QT := hide ((unhide QT).below hb1)) | skip); (first | (replace QL := hide ((unhide QL).below hb1)) | skip); replace X4 := hide ((unhide X4).all hb1); have QB := hide qn; clear qn hb1)
      | (go_at_call_of 34 co; refine (unhide H3 _ (unhide BW _ (And.left (by assumption)))).mono ?_; rintro e w9 ⟨o3, d3, rfl, qn, hb1⟩; have hB9 : Below g3 W0 w9 := Below.trans (And.left (by assumption)) (hb1.mono (Nat.le_trans (unhide HG) (Below.size (And.left (by assumption))))); (first | (replace QA := hide ((unhide QA).below hb1)) | skip); (first | (replace QB := hide ((unhide QB).below hb1)) | skip); (first | (replace QT := hide ((unhide QT).below hb1)) | skip); (first | (replace QL := hide ((unhide QL).below hb1)) | skip); replace X4 := hide ((unhide X4).all hb1); have QC := hide qn; clear qn hb1)
      | (go_at_call 37; refine (unhide H4 _ _ _ _ _ (unhide BW _ (And.left (by assumption))) (unhide QB) (unhide QC)).mono ?_; rintro e w9 ⟨o4, d4, rfl, qn, hb1⟩; have hB9 : Below g3 W0 w9 := Below.trans (And.left (by assumption)) (hb1.mono (Nat.le_trans (unhide HG) (Below.size (And.left (by assumption))))); (first | (replace QA := hide ((unhide QA).below hb1)) | skip); (first | (replace QB := hide ((unhide QB).below hb1)) | skip); (first | (replace QC := hide ((unhide QC).below hb1)) | skip); (first | (replace QL := hide ((unhide QL).below hb1)) | skip); replace X4 := hide ((unhide X4).all hb1); have QT := hide qn; clear qn hb1)
      | (go_at_call 36; refine (unhide H5 _ _ _ _ _ (unhide BW _ (And.left (by assumption))) (unhide QA) (unhide QT)).mono ?_; rintro e w9 ⟨o5, d5, rfl, qn, hb1⟩; have hB9 : Below g3 W0 w9 := Below.trans (And.left (by assumption)) (hb1.mono (Nat.le_trans (unhide HG) (Below.size (And.left (by assumption))))); (first | (replace QA := hide ((unhide QA).below hb1)) | skip); (first | (replace QB := hide ((unhide QB).below hb1)) | skip); (first | (replace QC := hide ((unhide QC).below hb1)) | skip); (first | (replace QT := hide ((unhide QT).below hb1)) | skip); replace X4 := hide ((unhide X4).all hb1); have QL := hide qn; clear qn hb1)
      | (go_at_call 33; refine (unhide H6 _ _ _ (unhide BW _ (And.left (by assumption))) (unhide QL)).mono ?_; rintro e w8 ⟨v, rfl, ⟨n5, a5, c5, L5, rfl, i5⟩, hb1⟩; have hB8 : Below g3 W0 w8 := Below.trans (And.left (by assumption)) (hb1.mono (Nat.le_trans (unhide HG) (Below.size (And.left (by assumption))))); replace X4 := hide ((unhide X4).all hb1); have IP := hide (show IsLv w8 (.agg #[.bool n5, .slice a5 L5.length c5, .int .i64 (oE z lo2)]) lo2 z from ⟨n5, a5, c5, L5, rfl, i5⟩); have y0 := (unhide X4).c0; have y1 := (unhide X4).c1; have y2 := (unhide X4).c2; have f0 := (unhide X4).free 0; have f1 := (unhide X4).free 1; have f2 := (unhide X4).free 2; clear i5 hb1)
      | fail "NO ARM")
  all_goals
    have xp := (unhide X4).put (.bool n5) (.slice a5 L5.length c5) (.int .i64 (oE z lo2))
    have z0 := xp.c0; have z1 := xp.c1; have z2 := xp.c2
    have QP := hide (IsDy.put3 (unhide IP) (unhide X4) (.bool n5) (.slice a5 L5.length c5) (.int .i64 (oE z lo2)))
    have PB := hide (below_put3 (unhide BW _ hB8) (Nat.le_of_lt (unhide l0)) (.bool n5) (.slice a5 L5.length c5) (.int .i64 (oE z lo2)))
    clear xp y0 y1 y2 f0 f1 f2
    go_wp2
    exact bodyPost_ret (v := .tuple #[.agg #[.bool n5, .slice a5 L5.length c5, .int .i64 (oE z lo2)], .int .i64 0]) (by simp [results, Tryz.results17, go_sem, z0, z1, z2]) rfl ⟨_, rfl, unhide QP, unhide PB⟩

end Go.Proofs.YtfnnbkclnflpfaaGreatDoor

/- Package certify: Orthogonal by letters. -/
namespace Go.Proofs.YtfnnbkclnflpfaaGreatDoor
open Go.RowKit
attribute [local go_sem ↓] Go.wp_at_zero Go.wp_at_succ

theorem BoxT.oth3 {T : Nat} {w : World} {b : Nat} {x y z : Value} (h : BoxT T w b x y z) {g : Nat} (hg : b ≠ g) (u u' u'' : Value) : BoxT T (((w.setCell ⟨g, 0, none⟩ u).setCell ⟨g, 1, none⟩ u').setCell ⟨g, 2, none⟩ u'') b x y z :=
  ((h.other (p := ⟨g, 0, none⟩) hg u).other (p := ⟨g, 1, none⟩) hg u').other (p := ⟨g, 2, none⟩) hg u''
theorem BoxM.oth3 {w : World} {b : Nat} {x y z : Value} (h : BoxM w b x y z) {g : Nat} (hg : b ≠ g) (u u' u'' : Value) : BoxM (((w.setCell ⟨g, 0, none⟩ u).setCell ⟨g, 1, none⟩ u').setCell ⟨g, 2, none⟩ u'') b x y z :=
  ((h.other (p := ⟨g, 0, none⟩) hg u).other (p := ⟨g, 1, none⟩) hg u').other (p := ⟨g, 2, none⟩) hg u''

end Go.Proofs.YtfnnbkclnflpfaaGreatDoor

/- Package certify: Square, Residual, Orthogonal, Gradient of matrices of finite numbers. -/
namespace Go.Proofs.YtfnnbkclnflpfaaGreatDoor
open Go.RowKit

theorem fZ_lvl (b : Nat) (hf : fFin b = true) : Lvl (-1074) 2098 (fZ b) := ⟨fZ_lt b hf, by decide, by decide, by decide⟩
theorem up_lvl (b : Nat) (hf : fFin b = true) : Lvl (-2148) 4200 (fZ b * 2 ^ 1074) := ⟨up_ltV (j := 2098) (k := 1074) (V := 4200) (by decide) (fZ_lt b hf), by decide, by decide, by decide⟩
theorem dt_lvl (n : Nat) (hn : n ≤ 8) (x y : Nat → Nat) (hx : ∀ j, j < n → fFin (x j) = true) (hy : ∀ j, j < n → fFin (y j) = true) : Lvl (-2148) 4200 (smI (fun j => fZ (x j) * fZ (y j)) n) :=
  (dtZ_lvl n hn x y hx hy).more (by decide) (by decide) (by decide)
theorem pr_lvl (a b : Nat) (ha : fFin a = true) (hb : fFin b = true) : Lvl (-2148) 4200 (fZ a * fZ b) :=
  (show Lvl (-2148) 4196 (fZ a * fZ b) from ⟨mul_ltV (j := 2098) (k := 2098) (V := 4196) (by decide) (fZ_lt a ha) (fZ_lt b hb), by decide, by decide, by decide⟩).more (by decide) (by decide) (by decide)

/-- What Check says of such a matrix. -/
theorem ckE_ok {w : World} {ao : Option Addr} {cap r c : Nat} {S : List Nat} (h : Mx w ao cap r c S) (hf : ∀ x ∈ S, fFin x = true) : ckE (r : Int) (c : Int) (mxL S) = 0 := by
  unfold ckE
  rw [mxL_len, if_pos (mx_ok h), if_pos]
  have : ∀ k, k ≤ S.length → fnK (mxL S) k = true := by
    intro k
    induction k with
    | zero => intro _; rfl
    | succ k ih =>
      intro hk
      show (fnK (mxL S) k && fFin (atB (mxL S) k)) = true
      rw [ih (by omega), mxL_at, Bool.true_and, List.getD_eq_getElem?_getD, List.getElem?_eq_getElem (by omega)]
      exact hf _ (List.getElem_mem _)
  exact this _ (Nat.le_refl _)

theorem ccheck_ok (r c cap : Nat) (ao : Option Addr) (S : List Nat) (w : World) (h : Mx w ao cap r c S) (hf : ∀ x ∈ S, fFin x = true) :
    Calls Tryz.prog 12 #[.agg #[.int .i64 r, .int .i64 c, .slice ao S.length cap]] w fun e w' => e = .returned (.int .i64 0) ∧ Below w.heap.size w w' := by
  have := ccheck_any r c ao cap (mxL S) w h.1 (by rw [mxL_len]; have := h.small; omega)
  rwa [ckE_ok h hf, mxL_len] at this

/-- Sums over a grid's places. -/
theorem grid_sum (G : Nat → Nat → Int) (r c : Nat) : smI (fun p => G (p / c) (p % c)) (r * c) = smI (fun i => smI (fun k => G i k) c) r := by
  rw [smI_grid]
  refine smI_congr _ (fun i _ => smI_congr _ (fun k hk => ?_))
  rw [place_div hk, place_mod hk]

theorem cRes_any (r n c ca cb cc : Nat) (ao bo co : Option Addr) (A B C : List Nat) (w : World) (hA : Mx w ao ca r c A) (hB : Mx w bo cb r n B) (hC : Mx w co cc n c C) (fA : ∀ x ∈ A, fFin x = true) (fB : ∀ x ∈ B, fFin x = true) (fC : ∀ x ∈ C, fFin x = true) (hT : Tab w) :
    Calls Tryz.prog 17 #[.agg #[.int .i64 r, .int .i64 c, .slice ao A.length ca], .agg #[.int .i64 r, .int .i64 n, .slice bo B.length cb], .agg #[.int .i64 n, .int .i64 c, .slice co C.length cc]] w fun e w' => ∃ v, e = .returned (.tuple #[v, .int .i64 0]) ∧ IsLv w' v (-4296) (rsQ r n c A B C) ∧ Below w.heap.size w w' := by
  have n6 := hC.2.2.1
  refine cRes_of r n c _ _ _ ca cb cc ao bo co (-1074) (-2148) (-4296) (rsQ r n c A B C) (fun i k => fZ (elM c A i k)) (fun i k => fZ (elM n B i k)) (fun i k => fZ (elM c C i k)) (fun i k => smI (fun j => fZ (elM n B i j) * fZ (elM c C j k)) n) (fun i k => rsZ n c A B C i k) w
    (fun w' hb => ?_) (fun w' hb => values_any r c ca ao A w' (hA.below hb) fA (hT.all hb)) (fun w' hb => values_any r n cb bo B w' (hB.below hb) fB (hT.all hb)) (fun w' hb => values_any n c cc co C w' (hC.below hb) fC (hT.all hb)) (fun w' xo xd yo yd hb hx hy => ?_) (fun w' xo xd yo yd hb hx hy => ?_) (fun w' xo xd hb hx => ?_)
  · have := checkProduct_of r c r n n c ao bo co A.length B.length C.length ca cb cc 0 0 0 w' (.inl rfl) (.inl rfl) (.inl rfl) (fun w'' hb2 => ccheck_ok r c ca ao A w'' ((hA.below hb).below hb2) fA) (fun w'' hb2 => ccheck_ok r n cb bo B w'' ((hB.below hb).below hb2) fB) (fun w'' hb2 => ccheck_ok n c cc co C w'' ((hC.below hb).below hb2) fC)
    simpa [fst3] using this
  · exact gtimes_any r n c xd yd xo yo (-1074) (-1074) (-2148) 2098 2098 4200 _ _ w' (by decide) hx hy (fun i k _ _ => fZ_lvl _ (el_fin n B i k fB)) (fun i k _ _ => fZ_lvl _ (el_fin c C i k fC)) (fun i j k _ _ _ => pr_lvl _ _ (el_fin n B i j fB) (el_fin c C j k fC)) (fun i k j _ _ hj => dt_lvl j (by omega) _ _ (fun l _ => el_fin n B i l fB) (fun l _ => el_fin c C l k fC)) (hT.all hb)
  · have hx' := hx.lower 1074
    rw [show (-1074 : Int) - (1074 : Nat) = -2148 by decide] at hx'
    exact less_any11 r c xd yd xo yo (-2148) 4200 _ _ w' hx' hy (fun i k _ _ => up_lvl _ (el_fin c A i k fA)) (fun i k _ _ => dt_lvl n (by omega) _ _ (fun l _ => el_fin n B i l fB) (fun l _ => el_fin c C l k fC)) (fun i k _ _ => ⟨rsZ_lt n c A B C i k (by omega) fA fB fC, by decide, by decide, by decide⟩) (hT.all hb)
  · have C1 := square_any r c (r * c) xd xo (-2148) 4200 (fun p => rsZ n c A B C (p / c) (p % c)) w' hx.1 (Nat.mul_le_mul hx.2.1 hx.2.2) (fun k _ => ⟨rsZ_lt n c A B C _ _ (by omega) fA fB fC, by decide, by decide, by decide⟩) (by decide) (by decide) (by decide) (hT.all hb)
    rw [grid_sum (fun i k => rsZ n c A B C i k * rsZ n c A B C i k) r c] at C1
    exact C1

end Go.Proofs.YtfnnbkclnflpfaaGreatDoor

/- Package certify: a number's limb, and its 32 digits from a place on. -/
namespace Go.Proofs.YtfnnbkclnflpfaaGreatDoor
open Go.RowKit
attribute [local go_sem ↓] Go.wp_at_zero Go.wp_at_succ

theorem and_31 (p : Int) : bits .and .i64 p 31 = p % 32 := by
  show IntKind.i64.wrap ((BitVec.ofInt 64 p &&& BitVec.ofInt 64 31).toNat : Int) = _
  have e : (BitVec.ofInt 64 31).toNat = 2 ^ 5 - 1 := by decide
  rw [BitVec.toNat_and, e, Nat.and_two_pow_sub_one_eq_mod, BitVec.toNat_ofInt]
  have h : (((p % ((2 ^ 64 : Nat) : Int)).toNat % 2 ^ 5 : Nat) : Int) = p % 32 := by
    have : (0 : Int) ≤ p % ((2 ^ 64 : Nat) : Int) := Int.emod_nonneg _ (by decide)
    omega
  rw [h]
  have h1 : 0 ≤ p % 32 := by omega
  have h2 : p % 32 < 32 := by omega
  rw [IntKind.wrap_i64]
  omega

theorem lbA_neg (L : List Nat) {i : Int} (h : i < 0) : lbA L i = 0 := by unfold lbA; rw [if_neg (by omega)]
theorem lbA_far (L : List Nat) {i : Int} (h : (L.length : Int) ≤ i) : lbA L i = 0 := by
  unfold lbA
  split
  · rw [List.getElem?_eq_none (by omega)]; rfl
  · rfl
theorem lbA_in (L : List Nat) (n : Nat) : lbA L (n : Int) = L[n]?.getD 0 := by unfold lbA; rw [if_pos (by omega), Int.toNat_natCast]

set_option maxRecDepth 20000 in
set_option maxHeartbeats 4000000 in
theorem climbAt_any (neg : Bool) (ao : Option Addr) (cap : Nat) (L : List Nat) (i : Int) (w : World) (h : LimbsAt w ao cap L) (hl : L.length ≤ 1000) (hi : -1000000 ≤ i ∧ i ≤ 1000000) :
    Calls Tryz.prog 143 #[.agg #[.bool neg, .slice ao L.length cap], .int .i64 i] w fun e w' => e = .returned (.int .u64 (lbA L i : Nat)) ∧ Below w.heap.size w w' := by
  have BB := hide (below_alloc9 w (.cells #[.bool neg, .slice ao L.length cap] 27))
  by_cases h0 : i < 0
  · rw [lbA_neg L h0]
    go_enter Tryz.func143, Tryz.ntmps143
    go_wp2
    go_ret
    exact ⟨rfl, unhide BB⟩
  · by_cases h1 : (L.length : Int) ≤ i
    · rw [lbA_far L h1]
      go_enter Tryz.func143, Tryz.ntmps143
      go_wp2
      go_ret
      exact ⟨rfl, unhide BB⟩
    · obtain ⟨n, rfl⟩ := Int.eq_ofNat_of_zero_le (show 0 ≤ i by omega)
      rw [lbA_in]
      obtain ⟨b1, o1, rfl, hb1, hc1⟩ := h.ne (show 0 < L.length by omega)
      have c1 := hc1 n (by omega)
      have hlt := h.lt n
      generalize L[n]?.getD 0 = d at *
      have c2 := cell_keep c1 (unhide BB)
      generalize L.length = l at *
      clear c1 hc1
      go_enter Tryz.func143, Tryz.ntmps143
      go_wp2
      go_ret
      exact ⟨rfl, unhide BB⟩

set_option maxRecDepth 20000 in
set_option maxHeartbeats 4000000 in
theorem limbFrom_of (neg : Bool) (ao : Option Addr) (cap n q d0 d1 : Nat) (p l m : Int) (w : World) (hm : IntKind.i64.wrap (l + 1) = m) (hp : -1000000 ≤ p ∧ p ≤ 1000000) (hd : p / 32 = l) (hq : p % 32 = (q : Int)) (q31 : q ≤ 31) (b0 : d0 < 4294967296) (b1 : d1 < 4294967296)
    (C0 : ∀ w', Below w.heap.size w w' → Calls Tryz.prog 143 #[.agg #[.bool neg, .slice ao n cap], .int .i64 l] w' fun e w'' => e = .returned (.int .u64 (d0 : Nat)) ∧ Below w'.heap.size w' w'')
    (C1 : ∀ w', Below w.heap.size w w' → Calls Tryz.prog 143 #[.agg #[.bool neg, .slice ao n cap], .int .i64 m] w' fun e w'' => e = .returned (.int .u64 (d1 : Nat)) ∧ Below w'.heap.size w' w'') :
    Calls Tryz.prog 101 #[.agg #[.bool neg, .slice ao n cap], .int .i64 p] w fun e w' => e = .returned (.int .i64 ((d0 + 4294967296 * d1) / 2 ^ q % 4294967296 : Nat)) ∧ Below w.heap.size w w' := by
  have BB := hide (below_alloc9 w (.cells #[.bool neg, .slice ao n cap] 27))
  have X0 := hide (Box2.new w (.bool neg) (.slice ao n cap))
  have K0 := hide C0; have K1 := hide C1
  have e31 := and_31 p
  rw [hq] at e31
  have dv := down_val d0 d1 q b0 b1
  generalize (d0 + 4294967296 * d1) / 2 ^ q % 4294967296 = z at *
  have DV := hide dv
  clear dv
  have hl1 : -100000 ≤ l := by omega
  have hl2 : l ≤ 100000 := by omega
  clear C0 C1 hq
  go_enter Tryz.func101, Tryz.ntmps101
  go_wp2_with fail
  clear hd hp e31
  refine at_world (fun W => Below w.heap.size w W ∧ Box2 W w.heap.size (.bool neg) (.slice ao n cap)) ⟨unhide BB, unhide X0⟩ ?_
  clear BB X0
  rintro W0 ⟨b9, x0⟩
  have hK : ∀ w', Below W0.heap.size W0 w' → Below W0.heap.size W0 w' ∧ w'.cell? ⟨w.heap.size, 0, none⟩ = some (.bool neg) ∧ w'.cell? ⟨w.heap.size, 1, none⟩ = some (.slice ao n cap) := fun w' h => ⟨h, (x0.below h x0.lt).c0, (x0.below h x0.lt).c1⟩
  have HK := hide hK
  have HW := hide (fun w' (h : Below W0.heap.size W0 w') => b9.trans (h.mono b9.size))
  clear hK x0 b9
  obtain ⟨_, y0, y1⟩ := unhide HK _ (Below.refl W0.heap.size W0).drew
  have HB := hide ((Below.refl W0.heap.size W0).drew)
  go_region_with (first | (go_at_call_of 143 m; refine (unhide K1 _ (unhide HW _ (unhide HB))).mono ?_; rintro e wn ⟨rfl, hb1⟩; clear y0 y1; replace HB := hide ((unhide HB).trans (hb1.mono (unhide HB).size)); obtain ⟨_, y0, y1⟩ := unhide HK _ (unhide HB); clear hb1) | (go_at_call_of 143 l; refine (unhide K0 _ (unhide HW _ (unhide HB))).mono ?_; rintro e wn ⟨rfl, hb1⟩; clear y0 y1; replace HB := hide ((unhide HB).trans (hb1.mono (unhide HB).size)); obtain ⟨_, y0, y1⟩ := unhide HK _ (unhide HB); clear hb1) | fail "NO ARM")
  all_goals
    go_wp2
    go_ret
    exact ⟨congrArg (fun x => Ending.returned (Value.int .i64 x)) (unhide DV), unhide HW _ (unhide HB)⟩

theorem limbFrom_any (neg : Bool) (ao : Option Addr) (cap : Nat) (L : List Nat) (p : Int) (w : World) (h : LimbsAt w ao cap L) (hl : L.length ≤ 1000) (hp : -1000000 ≤ p ∧ p ≤ 1000000) :
    Calls Tryz.prog 101 #[.agg #[.bool neg, .slice ao L.length cap], .int .i64 p] w fun e w' => e = .returned (.int .i64 (dg (val L) p : Nat)) ∧ Below w.heap.size w w' := by
  have hf := h.2.1
  obtain ⟨q, hq⟩ : ∃ q : Nat, p % 32 = (q : Int) := Int.eq_ofNat_of_zero_le (by omega)
  have C := limbFrom_of neg ao cap L.length q (lbA L (p / 32)) (lbA L (p / 32 + 1)) p (p / 32) (p / 32 + 1) w (wrap_in _ (by omega)) hp rfl hq (by omega) (lbA_lt hf _) (lbA_lt hf _)
    (fun w' hb => climbAt_any neg ao cap L _ w' (h.below hb) hl (by omega)) (fun w' hb => climbAt_any neg ao cap L _ w' (h.below hb) hl (by omega))
  rwa [show (lbA L (p / 32) + 4294967296 * lbA L (p / 32 + 1)) / 2 ^ q % 4294967296 = dg (val L) p by rw [← dg_limbs L hf p, hq]; rfl] at C

end Go.Proofs.YtfnnbkclnflpfaaGreatDoor

