/- Part 13 of the texts. -/
import Derived.Test.YtfnnbkclnflpfaaGreatDoorPartR12
import Derived.Test.YtfnnbkclnflpfaaGreatDoorPartR05
/- The law DyadicChecks, walked. -/
namespace Go.Proofs.YtfnnbkclnflpfaaGreatDoor
open Go.RowKit
attribute [local go_sem ↓] Go.wp_at_zero Go.wp_at_succ

theorem drB_bounds {neg : Bool} {L : List Nat} {e : Int} (h : drB neg L e = true) : rightB neg L = true ∧ L.length ≤ 512 ∧ -16384 ≤ e ∧ e ≤ 16384 ∧ (L.length = 0 → e = 0) := by
  unfold drB at h
  rw [Bool.and_eq_true] at h
  obtain ⟨h1, h2⟩ := h
  refine ⟨h1, (right_canon h1).1, ?_⟩
  by_cases h0 : L.length = 0
  · rw [if_pos h0] at h2
    have := of_decide_eq_true h2
    omega
  · rw [if_neg h0, Bool.and_eq_true] at h2
    have := of_decide_eq_true h2.2
    omega

end Go.Proofs.YtfnnbkclnflpfaaGreatDoor

/- Contracts of dyadic's Add, Sub, Mul, Scale. -/
namespace Go.Proofs.YtfnnbkclnflpfaaGreatDoor
open Go.RowKit
attribute [local go_sem ↓] Go.wp_at_zero Go.wp_at_succ
set_option maxHeartbeats 2000000 in
theorem dadd_right (na nb : Bool) (ao bo : Option Addr) (ca cb : Nat) (A B : List Nat) (x y : Int) (w : World) (hA : LimbsAt w ao ca A) (hB : LimbsAt w bo cb B) (hra : drB na A x = true) (hrb : drB nb B y = true) (hT : Tab w) :
    Calls Tryz.prog 125 #[.agg #[.bool na, .slice ao A.length ca, .int .i64 x], .agg #[.bool nb, .slice bo B.length cb, .int .i64 y]] w fun r w' => DyR w' r (adE (sval na A) x (sval nb B) y) (adM (sval na A) x (sval nb B) y) (adX (sval na A) x (sval nb B) y) ∧ Below w.heap.size w w' := by
  obtain ⟨ra, la, bx1, bx2, zx⟩ := drB_bounds hra
  obtain ⟨rb, lb, by1, by2, zy⟩ := drB_bounds hrb
  have CC := hide (fun w' h h' t => dcheckBoth_any na nb ao bo ca cb A B x y w' h h' (by omega) (by omega) t)
  have he : drE2 na A x nb B y = 0 := by unfold drE2; rw [hra, hrb]; rfl
  rw [he] at CC
  have CA := hide (fun w' h h' t => addRight_any na nb ao bo ca cb A B x y w' h h' ra rb ⟨bx1, bx2⟩ ⟨by1, by2⟩ zx zy t)
  generalize adE (sval na A) x (sval nb B) y = er at *
  generalize adM (sval na A) x (sval nb B) y = am at *
  generalize adX (sval na A) x (sval nb B) y = ax at *
  clear he hra hrb zx zy ra rb
  have hb0 : Below w.heap.size w (((w.alloc (.cells #[.bool na, .slice ao A.length ca, .int .i64 x] 29)).alloc (.cells #[.bool nb, .slice bo B.length cb, .int .i64 y] 29)).alloc (.cells #[.bool false, .slice none 0 0, .int .i64 0] 29)) :=
    (((Below.refl _ _).alloc (Nat.le_refl _) _).alloc (by simp) _).alloc (by simp; omega) _
  have x0 : Box3 (((w.alloc (.cells #[.bool na, .slice ao A.length ca, .int .i64 x] 29)).alloc (.cells #[.bool nb, .slice bo B.length cb, .int .i64 y] 29)).alloc (.cells #[.bool false, .slice none 0 0, .int .i64 0] 29)) w.heap.size (.bool na) (.slice ao A.length ca) (.int .i64 x) := ((Box3.new _ _ _ _).old _).old _
  have x1 : Box3 (((w.alloc (.cells #[.bool na, .slice ao A.length ca, .int .i64 x] 29)).alloc (.cells #[.bool nb, .slice bo B.length cb, .int .i64 y] 29)).alloc (.cells #[.bool false, .slice none 0 0, .int .i64 0] 29)) (w.heap.size + 1) (.bool nb) (.slice bo B.length cb) (.int .i64 y) := by
    have := (Box3.new (w.alloc (.cells #[.bool na, .slice ao A.length ca, .int .i64 x] 29)) (.bool nb) (.slice bo B.length cb) (.int .i64 y)).old (.cells #[.bool false, .slice none 0 0, .int .i64 0] 29)
    simpa using this
  have x2 : Box3 (((w.alloc (.cells #[.bool na, .slice ao A.length ca, .int .i64 x] 29)).alloc (.cells #[.bool nb, .slice bo B.length cb, .int .i64 y] 29)).alloc (.cells #[.bool false, .slice none 0 0, .int .i64 0] 29)) (w.heap.size + 1 + 1) (.bool false) (.slice none 0 0) (.int .i64 0) := by
    have := Box3.new ((w.alloc (.cells #[.bool na, .slice ao A.length ca, .int .i64 x] 29)).alloc (.cells #[.bool nb, .slice bo B.length cb, .int .i64 y] 29)) (.bool false) (.slice none 0 0) (.int .i64 0)
    simpa using this
  have B0 := hide hb0; have X0 := hide x0; have X1 := hide x1; have X2 := hide x2
  clear hb0 x0 x1 x2
  go_enter Tryz.func125, Tryz.ntmps125
  go_wp2_with fail
  refine (unhide CC _ (hA.below (unhide B0)) (hB.below (unhide B0)) (hT.all (unhide B0))).mono ?_
  rintro r w1 ⟨rfl, hb1⟩
  have x0 := (unhide X0).all hb1; have x1 := (unhide X1).all hb1; have x2 := (unhide X2).all hb1
  have b1 := (unhide B0).trans (hb1.mono (unhide B0).size)
  have p0 := x0.c0; have p1 := x0.c1; have p2 := x0.c2
  have q0 := x1.c0; have q1 := x1.c1; have q2 := x1.c2
  have X0' := hide x0; have X1' := hide x1; have X2' := hide x2; have B1 := hide b1
  clear hb1 x0 x1 x2 b1 X0 X1 X2 B0 CC
  go_wp2_with fail
  refine (unhide CA _ (hA.below (unhide B1)) (hB.below (unhide B1)) (hT.all (unhide B1))).mono ?_
  rintro r w4 ⟨⟨v, rfl, iv⟩, hb1⟩
  obtain ⟨n3, a3, c3, L3, rfl, i3⟩ := iv.num
  have x2 := (unhide X2').all hb1
  have b2 := (unhide B1).trans (hb1.mono (unhide B1).size)
  have y0 := x2.c0; have y1 := x2.c1; have y2 := x2.c2; have f0 := x2.free 0; have f1 := x2.free 1; have f2 := x2.free 2
  have X3 := hide x2; have B2 := hide b2; have IV := hide iv
  clear x2 b2 hb1 iv i3
  go_wp2
  refine bodyPost_ret (v := .tuple #[.agg #[.bool n3, .slice a3 L3.length c3, .int .i64 (ax)], .int .i64 (er)]) (by simp [results, Tryz.results125, go_sem, y0, y1, y2]) rfl ⟨⟨_, rfl, (unhide IV).put3 (unhide X3) _ _ _⟩, below_put3 (unhide B2) (by omega) _ _ _⟩

theorem neg_right {n : Bool} {L : List Nat} (h : rightB n L = true) : rightB (!n && !decide (L.length = 0)) L = true ∧ sval (!n && !decide (L.length = 0)) L = - sval n L := by
  by_cases h0 : L.length = 0
  · have : L = [] := List.length_eq_zero_iff.1 h0
    subst this
    have hn : n = false := by cases n with
      | false => rfl
      | true => exact absurd rfl ((right_canon h).2.2 rfl)
    subst hn
    simp [rightB, sval_nil]
  · rw [decide_eq_false h0]
    simp only [Bool.not_false, Bool.and_true]
    refine ⟨?_, sval_not n L⟩
    unfold rightB at h ⊢
    rw [decide_eq_false h0] at h ⊢
    simpa using h

set_option maxHeartbeats 2000000 in
theorem dsub_right (na nb : Bool) (ao bo : Option Addr) (ca cb : Nat) (A B : List Nat) (x y : Int) (w : World) (hA : LimbsAt w ao ca A) (hB : LimbsAt w bo cb B) (hra : drB na A x = true) (hrb : drB nb B y = true) (hT : Tab w) :
    Calls Tryz.prog 85 #[.agg #[.bool na, .slice ao A.length ca, .int .i64 x], .agg #[.bool nb, .slice bo B.length cb, .int .i64 y]] w fun r w' => DyR w' r (adE (sval na A) x (- sval nb B) y) (adM (sval na A) x (- sval nb B) y) (adX (sval na A) x (- sval nb B) y) ∧ Below w.heap.size w w' := by
  obtain ⟨ra, la, bx1, bx2, zx⟩ := drB_bounds hra
  obtain ⟨rb, lb, by1, by2, zy⟩ := drB_bounds hrb
  have CC := hide (fun w' h h' t => dcheckBoth_any na nb ao bo ca cb A B x y w' h h' (by omega) (by omega) t)
  have he : drE2 na A x nb B y = 0 := by unfold drE2; rw [hra, hrb]; rfl
  rw [he] at CC
  have CA := hide (fun w' h h' t => addRight_any na (!nb && !decide (B.length = 0)) ao bo ca cb A B x y w' h h' ra (neg_right rb).1 ⟨bx1, bx2⟩ ⟨by1, by2⟩ zx zy t)
  rw [(neg_right rb).2] at CA
  generalize adE (sval na A) x (- sval nb B) y = er at *
  generalize adM (sval na A) x (- sval nb B) y = am at *
  generalize adX (sval na A) x (- sval nb B) y = ax at *
  clear he hra hrb zx zy ra rb
  have hb0 : Below w.heap.size w (((w.alloc (.cells #[.bool na, .slice ao A.length ca, .int .i64 x] 29)).alloc (.cells #[.bool nb, .slice bo B.length cb, .int .i64 y] 29)).alloc (.cells #[.bool false, .slice none 0 0, .int .i64 0] 29)) :=
    (((Below.refl _ _).alloc (Nat.le_refl _) _).alloc (by simp) _).alloc (by simp; omega) _
  have x0 : Box3 (((w.alloc (.cells #[.bool na, .slice ao A.length ca, .int .i64 x] 29)).alloc (.cells #[.bool nb, .slice bo B.length cb, .int .i64 y] 29)).alloc (.cells #[.bool false, .slice none 0 0, .int .i64 0] 29)) w.heap.size (.bool na) (.slice ao A.length ca) (.int .i64 x) := ((Box3.new _ _ _ _).old _).old _
  have x1 : Box3 (((w.alloc (.cells #[.bool na, .slice ao A.length ca, .int .i64 x] 29)).alloc (.cells #[.bool nb, .slice bo B.length cb, .int .i64 y] 29)).alloc (.cells #[.bool false, .slice none 0 0, .int .i64 0] 29)) (w.heap.size + 1) (.bool nb) (.slice bo B.length cb) (.int .i64 y) := by
    have := (Box3.new (w.alloc (.cells #[.bool na, .slice ao A.length ca, .int .i64 x] 29)) (.bool nb) (.slice bo B.length cb) (.int .i64 y)).old (.cells #[.bool false, .slice none 0 0, .int .i64 0] 29)
    simpa using this
  have x2 : Box3 (((w.alloc (.cells #[.bool na, .slice ao A.length ca, .int .i64 x] 29)).alloc (.cells #[.bool nb, .slice bo B.length cb, .int .i64 y] 29)).alloc (.cells #[.bool false, .slice none 0 0, .int .i64 0] 29)) (w.heap.size + 1 + 1) (.bool false) (.slice none 0 0) (.int .i64 0) := by
    have := Box3.new ((w.alloc (.cells #[.bool na, .slice ao A.length ca, .int .i64 x] 29)).alloc (.cells #[.bool nb, .slice bo B.length cb, .int .i64 y] 29)) (.bool false) (.slice none 0 0) (.int .i64 0)
    simpa using this
  have B0 := hide hb0; have X0 := hide x0; have X1 := hide x1; have X2 := hide x2
  clear hb0 x0 x1 x2
  cases nb
  · go_enter Tryz.func85, Tryz.ntmps85
    go_wp2_with fail
    refine (unhide CC _ (hA.below (unhide B0)) (hB.below (unhide B0)) (hT.all (unhide B0))).mono ?_
    rintro r w1 ⟨rfl, hb1⟩
    have x0 := (unhide X0).all hb1; have x1 := (unhide X1).all hb1; have x2 := (unhide X2).all hb1
    have b1 := (unhide B0).trans (hb1.mono (unhide B0).size)
    have p0 := x0.c0; have p1 := x0.c1; have p2 := x0.c2
    have q0 := x1.c0; have q1 := x1.c1; have q2 := x1.c2
    have X0' := hide x0; have X1' := hide x1; have X2' := hide x2; have B1 := hide b1
    clear hb1 x0 x1 x2 b1 X0 X1 X2 B0 CC
    go_wp2_with fail
    refine (isZero_any false bo cb B.length _).mono ?_
    have CA' := hide (fun h0 : decide (B.length = 0) = true => (show ∀ w', LimbsAt w' ao ca A → LimbsAt w' bo cb B → Tab w' → Calls Tryz.prog 133 #[.agg #[.bool na, .slice ao A.length ca, .int .i64 x], .agg #[.bool false, .slice bo B.length cb, .int .i64 y]] w' fun r w'' => DyR w'' r er am ax ∧ Below w'.heap.size w' w'' from fun w' h h' t => by
      have := unhide CA w' h h' t
      rw [h0] at this
      exact this))
    have CA2 := hide (fun h0 : decide (B.length = 0) = false => (show ∀ w', LimbsAt w' ao ca A → LimbsAt w' bo cb B → Tab w' → Calls Tryz.prog 133 #[.agg #[.bool na, .slice ao A.length ca, .int .i64 x], .agg #[.bool true, .slice bo B.length cb, .int .i64 y]] w' fun r w'' => DyR w'' r er am ax ∧ Below w'.heap.size w' w'' from fun w' h h' t => by
      have := unhide CA w' h h' t
      rw [h0] at this
      exact this))
    clear CA
    generalize decide (B.length = 0) = zb at *
    rintro r w2 ⟨rfl, hb1⟩
    have x0 := (unhide X0').all hb1; have x1 := (unhide X1').all hb1; have x2 := (unhide X2').all hb1
    have b1 := (unhide B1).trans (hb1.mono (unhide B1).size)
    clear p0 p1 p2 q0 q1 q2 X0' X1' X2' B1 hb1
    cases zb
    · have p0 := x0.c0; have p1 := x0.c1; have p2 := x0.c2
      have q0 := x1.c0; have q1 := x1.c1; have q2 := x1.c2; have g0 := x1.free 0
      have X2' := hide ((x2.other (p := ⟨w.heap.size + 1, 0, none⟩) (by simp) (.bool true))); have B1 := hide (b1.setCell (p := ⟨w.heap.size + 1, 0, none⟩) (by simp) (.bool true))
      have CA := hide (unhide CA2 rfl)
      clear x0 x1 x2 b1 CA' CA2
      go_wp2_with fail
      refine (unhide CA _ (hA.below (unhide B1)) (hB.below (unhide B1)) (hT.all (unhide B1))).mono ?_
      rintro r w4 ⟨⟨v, rfl, iv⟩, hb1⟩
      obtain ⟨n3, a3, c3, L3, rfl, i3⟩ := iv.num
      have x2 := (unhide X2').all hb1
      have b2 := (unhide B1).trans (hb1.mono (unhide B1).size)
      have y0 := x2.c0; have y1 := x2.c1; have y2 := x2.c2; have f0 := x2.free 0; have f1 := x2.free 1; have f2 := x2.free 2
      have X3 := hide x2; have B2 := hide b2; have IV := hide iv
      clear x2 b2 hb1 iv i3
      go_wp2
      refine bodyPost_ret (v := .tuple #[.agg #[.bool n3, .slice a3 L3.length c3, .int .i64 (ax)], .int .i64 (er)]) (by simp [results, Tryz.results85, go_sem, y0, y1, y2]) rfl ⟨⟨_, rfl, (unhide IV).put3 (unhide X3) _ _ _⟩, below_put3 (unhide B2) (by omega) _ _ _⟩
    · have p0 := x0.c0; have p1 := x0.c1; have p2 := x0.c2
      have q0 := x1.c0; have q1 := x1.c1; have q2 := x1.c2; have g0 := x1.free 0
      have X2' := hide ((x2.other (p := ⟨w.heap.size + 1, 0, none⟩) (by simp) (.bool false))); have B1 := hide (b1.setCell (p := ⟨w.heap.size + 1, 0, none⟩) (by simp) (.bool false))
      have CA := hide (unhide CA' rfl)
      clear x0 x1 x2 b1 CA' CA2
      go_wp2_with fail
      refine (unhide CA _ (hA.below (unhide B1)) (hB.below (unhide B1)) (hT.all (unhide B1))).mono ?_
      rintro r w4 ⟨⟨v, rfl, iv⟩, hb1⟩
      obtain ⟨n3, a3, c3, L3, rfl, i3⟩ := iv.num
      have x2 := (unhide X2').all hb1
      have b2 := (unhide B1).trans (hb1.mono (unhide B1).size)
      have y0 := x2.c0; have y1 := x2.c1; have y2 := x2.c2; have f0 := x2.free 0; have f1 := x2.free 1; have f2 := x2.free 2
      have X3 := hide x2; have B2 := hide b2; have IV := hide iv
      clear x2 b2 hb1 iv i3
      go_wp2
      refine bodyPost_ret (v := .tuple #[.agg #[.bool n3, .slice a3 L3.length c3, .int .i64 (ax)], .int .i64 (er)]) (by simp [results, Tryz.results85, go_sem, y0, y1, y2]) rfl ⟨⟨_, rfl, (unhide IV).put3 (unhide X3) _ _ _⟩, below_put3 (unhide B2) (by omega) _ _ _⟩

  · have g0 : ∀ W, Box3 W (w.heap.size + 1) (.bool true) (.slice bo B.length cb) (.int .i64 y) → W.frozen? ⟨w.heap.size + 1, 0, none⟩ = false := fun W h => h.free 0
    have G0 := hide g0
    clear g0
    go_enter Tryz.func85, Tryz.ntmps85
    go_wp2_with fail
    refine (unhide CC _ (hA.below (unhide B0)) (hB.below (unhide B0)) (hT.all (unhide B0))).mono ?_
    rintro r w1 ⟨rfl, hb1⟩
    have x0 := (unhide X0).all hb1; have x1 := (unhide X1).all hb1; have x2 := (unhide X2).all hb1
    have b1 := (unhide B0).trans (hb1.mono (unhide B0).size)
    have p0 := x0.c0; have p1 := x0.c1; have p2 := x0.c2
    have q0 := x1.c0; have q1 := x1.c1; have q2 := x1.c2
    have h0 := unhide G0 _ x1
    have X0' := hide x0; have X1' := hide x1; have X2' := hide x2; have B1 := hide b1
    clear hb1 x0 x1 x2 b1 X0 X1 X2 B0 CC
    go_wp2_with fail
    have x2 := ((unhide X2').other (p := ⟨w.heap.size + 1, 0, none⟩) (by simp) (.bool false)); have b1 := (unhide B1).setCell (p := ⟨w.heap.size + 1, 0, none⟩) (by simp) (.bool false)
    clear X2' B1
    have X2' := hide x2; have B1 := hide b1
    clear x2 b1
    refine (unhide CA _ (hA.below (unhide B1)) (hB.below (unhide B1)) (hT.all (unhide B1))).mono ?_
    rintro r w4 ⟨⟨v, rfl, iv⟩, hb1⟩
    obtain ⟨n3, a3, c3, L3, rfl, i3⟩ := iv.num
    have x2 := (unhide X2').all hb1
    have b2 := (unhide B1).trans (hb1.mono (unhide B1).size)
    have y0 := x2.c0; have y1 := x2.c1; have y2 := x2.c2; have f0 := x2.free 0; have f1 := x2.free 1; have f2 := x2.free 2
    have X3 := hide x2; have B2 := hide b2; have IV := hide iv
    clear x2 b2 hb1 iv i3
    go_wp2
    refine bodyPost_ret (v := .tuple #[.agg #[.bool n3, .slice a3 L3.length c3, .int .i64 (ax)], .int .i64 (er)]) (by simp [results, Tryz.results85, go_sem, y0, y1, y2]) rfl ⟨⟨_, rfl, (unhide IV).put3 (unhide X3) _ _ _⟩, below_put3 (unhide B2) (by omega) _ _ _⟩

end Go.Proofs.YtfnnbkclnflpfaaGreatDoor

/- Contracts of dyadic's Mul, Scale. -/
namespace Go.Proofs.YtfnnbkclnflpfaaGreatDoor
open Go.RowKit
attribute [local go_sem ↓] Go.wp_at_zero Go.wp_at_succ

set_option maxHeartbeats 2000000 in
theorem dmul_right (na nb : Bool) (ao bo : Option Addr) (ca cb : Nat) (A B : List Nat) (x y : Int) (w : World) (hA : LimbsAt w ao ca A) (hB : LimbsAt w bo cb B) (hra : drB na A x = true) (hrb : drB nb B y = true) (hz : (sval na A * sval nb B).natAbs < TOP) (hT : Tab w) :
    Calls Tryz.prog 124 #[.agg #[.bool na, .slice ao A.length ca, .int .i64 x], .agg #[.bool nb, .slice bo B.length cb, .int .i64 y]] w fun r w' => DyR w' r (dErr (sval na A * sval nb B) (x + y)) (dM (sval na A * sval nb B) (x + y)) (dX (sval na A * sval nb B) (x + y)) ∧ Below w.heap.size w w' := by
  obtain ⟨ra, la, bx1, bx2, zx⟩ := drB_bounds hra
  obtain ⟨rb, lb, by1, by2, zy⟩ := drB_bounds hrb
  have CC := hide (fun w' h h' t => dcheckBoth_any na nb ao bo ca cb A B x y w' h h' (by omega) (by omega) t)
  have he : drE2 na A x nb B y = 0 := by unfold drE2; rw [hra, hrb]; rfl
  rw [he] at CC
  have CM := hide (fun w' h h' => mul_any na nb ao bo ca cb A B w' h h' (by omega) (by omega))
  rw [ra, rb, Bool.and_self, opErr_true, opNum_true, errOf_small _ hz, numOf_small _ hz] at CM
  have CK := hide (fun w' u B' (iu : IsNum B' w' u (sval na A * sval nb B)) t => make_num (x + y) iu hz (by omega) t)
  generalize dErr (sval na A * sval nb B) (x + y) = er at *
  generalize dM (sval na A * sval nb B) (x + y) = am at *
  generalize dX (sval na A * sval nb B) (x + y) = ax at *
  clear he hra hrb zx zy ra rb hz
  generalize sval na A * sval nb B = z at *
  have hb0 : Below w.heap.size w (((w.alloc (.cells #[.bool na, .slice ao A.length ca, .int .i64 x] 29)).alloc (.cells #[.bool nb, .slice bo B.length cb, .int .i64 y] 29)).alloc (.cells #[.bool false, .slice none 0 0, .int .i64 0] 29)) :=
    (((Below.refl _ _).alloc (Nat.le_refl _) _).alloc (by simp) _).alloc (by simp; omega) _
  have x0 : Box3 (((w.alloc (.cells #[.bool na, .slice ao A.length ca, .int .i64 x] 29)).alloc (.cells #[.bool nb, .slice bo B.length cb, .int .i64 y] 29)).alloc (.cells #[.bool false, .slice none 0 0, .int .i64 0] 29)) w.heap.size (.bool na) (.slice ao A.length ca) (.int .i64 x) := ((Box3.new _ _ _ _).old _).old _
  have x1 : Box3 (((w.alloc (.cells #[.bool na, .slice ao A.length ca, .int .i64 x] 29)).alloc (.cells #[.bool nb, .slice bo B.length cb, .int .i64 y] 29)).alloc (.cells #[.bool false, .slice none 0 0, .int .i64 0] 29)) (w.heap.size + 1) (.bool nb) (.slice bo B.length cb) (.int .i64 y) := by
    have := (Box3.new (w.alloc (.cells #[.bool na, .slice ao A.length ca, .int .i64 x] 29)) (.bool nb) (.slice bo B.length cb) (.int .i64 y)).old (.cells #[.bool false, .slice none 0 0, .int .i64 0] 29)
    simpa using this
  have x2 : Box3 (((w.alloc (.cells #[.bool na, .slice ao A.length ca, .int .i64 x] 29)).alloc (.cells #[.bool nb, .slice bo B.length cb, .int .i64 y] 29)).alloc (.cells #[.bool false, .slice none 0 0, .int .i64 0] 29)) (w.heap.size + 1 + 1) (.bool false) (.slice none 0 0) (.int .i64 0) := by
    have := Box3.new ((w.alloc (.cells #[.bool na, .slice ao A.length ca, .int .i64 x] 29)).alloc (.cells #[.bool nb, .slice bo B.length cb, .int .i64 y] 29)) (.bool false) (.slice none 0 0) (.int .i64 0)
    simpa using this
  have B0 := hide hb0; have X0 := hide x0; have X1 := hide x1; have X2 := hide x2
  clear hb0 x0 x1 x2
  go_enter Tryz.func124, Tryz.ntmps124
  go_wp2_with fail
  refine (unhide CC _ (hA.below (unhide B0)) (hB.below (unhide B0)) (hT.all (unhide B0))).mono ?_
  rintro r w1 ⟨rfl, hb1⟩
  have x0 := (unhide X0).all hb1; have x1 := (unhide X1).all hb1; have x2 := (unhide X2).all hb1
  have b1 := (unhide B0).trans (hb1.mono (unhide B0).size)
  have p0 := x0.c0; have p1 := x0.c1; have p2 := x0.c2
  have q0 := x1.c0; have q1 := x1.c1; have q2 := x1.c2
  have X0' := hide x0; have X1' := hide x1; have X2' := hide x2; have B1 := hide b1
  clear hb1 x0 x1 x2 b1 X0 X1 X2 B0 CC
  go_wp2_with fail
  refine (unhide CM _ (hA.below (unhide B1)) (hB.below (unhide B1))).mono ?_
  rintro r w5 ⟨u, rfl, ⟨n4, a4, c4, L4, rfl, i4⟩, hb1⟩
  have x0 := ((unhide X0').all hb1).old (.cells #[.bool n4, .slice a4 L4.length c4] 27)
  have x1 := ((unhide X1').all hb1).old (.cells #[.bool n4, .slice a4 L4.length c4] 27)
  have x2 := ((unhide X2').all hb1).old (.cells #[.bool n4, .slice a4 L4.length c4] 27)
  have b1 := ((unhide B1).trans (hb1.mono (unhide B1).size)).alloc ((unhide B1).trans (hb1.mono (unhide B1).size)).size (.cells #[.bool n4, .slice a4 L4.length c4] 27)
  have iz : IsNum 0 (w5.alloc (.cells #[.bool n4, .slice a4 L4.length c4] 27)) (.agg #[.bool n4, .slice a4 L4.length c4]) z := IsNum.mono (IsNum.below ⟨n4, a4, c4, L4, rfl, i4⟩ ((Below.refl _ _).alloc (Nat.le_refl _) _)) (Nat.zero_le _)
  clear X0' X1' X2' B1 hb1 i4 CM p0 p1 p2 q0 q1 q2
  have p2 := x0.c2; have q2 := x1.c2
  have X2' := hide x2; have B1 := hide b1; have IZ := hide iz
  clear x0 x1 x2 b1 iz
  go_wp2_with fail
  refine (unhide CK _ _ _ (unhide IZ) (hT.all (unhide B1))).mono ?_
  rintro r w4 ⟨v, rfl, iv, hb1⟩
  obtain ⟨n3, a3, c3, L3, rfl, i3⟩ := iv.num
  have x2 := (unhide X2').all hb1
  have b2 := (unhide B1).trans (hb1.mono (unhide B1).size)
  have y0 := x2.c0; have y1 := x2.c1; have y2 := x2.c2; have f0 := x2.free 0; have f1 := x2.free 1; have f2 := x2.free 2
  have X3 := hide x2; have B2 := hide b2; have IV := hide iv
  clear x2 b2 hb1 iv i3
  go_wp2
  refine bodyPost_ret (v := .tuple #[.agg #[.bool n3, .slice a3 L3.length c3, .int .i64 (ax)], .int .i64 (er)]) (by simp [results, Tryz.results124, go_sem, y0, y1, y2]) rfl ⟨⟨_, rfl, (unhide IV).put3 (unhide X3) _ _ _⟩, below_put3 (unhide B2) (by omega) _ _ _⟩

end Go.Proofs.YtfnnbkclnflpfaaGreatDoor

/- Contracts of the reference's Mul, Scale. -/
namespace Go.Proofs.YtfnnbkclnflpfaaGreatDoor
open Go.RowKit
attribute [local go_sem ↓] Go.wp_at_zero Go.wp_at_succ

theorem IsNum.toM {B : Nat} {w : World} {v : Value} {z : Int} (h : IsNum B w v z) (hz : z.natAbs < TOP) : IsNumM 512 B w v z := by
  obtain ⟨n, a, c, L, rfl, h1, h2, h3, h4, h5, h6⟩ := h
  exact ⟨n, a, c, L, rfl, h1, h2, h3, h4, h5, (val_lt_TOP L h1.2.1 h3).1 (by omega)⟩

theorem wrap_range (x : Int) : -9223372036854775808 ≤ IntKind.i64.wrap x ∧ IntKind.i64.wrap x ≤ 9223372036854775807 := by
  simp only [IntKind.wrap, IntKind.signed, IntKind.bits]
  simp
  split <;> omega

theorem val_lt_pow (L : List Nat) (hf : Fits L) (k : Nat) (h : L.length ≤ k) : val L < 2 ^ (32 * k) := by
  have h1 := val_lt L hf
  rw [show (4294967296 : Nat) = 2 ^ 32 by decide, ← Nat.pow_mul] at h1
  exact Nat.lt_of_lt_of_le h1 (Nat.pow_le_pow_right (by decide) (by omega))

theorem TOP_eq : TOP = 2 ^ (32 * TOPN) := by
  unfold TOP
  rw [show (4294967296 : Nat) = 2 ^ 32 by decide, ← Nat.pow_mul]

theorem lt_TOP {v k : Nat} (h : v < 2 ^ k) (hk : k ≤ 16384) : v < TOP := by
  rw [TOP_eq]
  exact Nat.lt_of_lt_of_le h (Nat.pow_le_pow_right (by decide) hk)

theorem mul_lt_pow {a b j k : Nat} (h1 : a < 2 ^ j) (h2 : b < 2 ^ k) : a * b < 2 ^ (j + k) := by
  rw [Nat.pow_add]
  exact Nat.mul_lt_mul_of_lt_of_le h1 (Nat.le_of_lt h2) (Nat.pow_pos (by decide))

theorem mul_TOP (na nb : Bool) (A B : List Nat) (fA : Fits A) (fB : Fits B) (la : A.length ≤ 30) (lb : B.length ≤ 30) : (sval na A * sval nb B).natAbs < TOP := by
  rw [Int.natAbs_mul, natAbs_sval, natAbs_sval]
  exact lt_TOP (mul_lt_pow (val_lt_pow A fA 30 la) (val_lt_pow B fB 30 lb)) (by decide)

set_option maxHeartbeats 2000000 in
theorem rmul_any (na nb : Bool) (ao bo : Option Addr) (ca cb : Nat) (A B : List Nat) (x y : Int) (w : World) (hA : LimbsAt w ao ca A) (hB : LimbsAt w bo cb B) (la : A.length ≤ 30) (lb : B.length ≤ 30) :
    Calls Tryz.prog 51 #[.agg #[.bool na, .slice ao A.length ca, .int .i64 x], .agg #[.bool nb, .slice bo B.length cb, .int .i64 y]] w fun r w' => ∃ v, r = .returned v ∧ IsDy w' v (oM (sval na A * sval nb B)) (if sval na A * sval nb B = 0 then 0 else IntKind.i64.wrap (IntKind.i64.wrap (x + y) + tz (sval na A * sval nb B).natAbs)) ∧ Below w.heap.size w w' := by
  have hz := mul_TOP na nb A B hA.2.1 hB.2.1 la lb
  have CM := hide (fun w' h h' => refMul_any na nb ao bo ca cb A B w' h h' (by omega) (by omega))
  have CO := hide (fun e' w' u B' (iu : IsNum B' w' u (sval na A * sval nb B)) (he : e' = IntKind.i64.wrap (x + y)) => show Calls Tryz.prog 48 #[u, .int .i64 e'] w' fun r w'' => ∃ u, r = .returned u ∧ IsDy w'' u (oM (sval na A * sval nb B)) (if sval na A * sval nb B = 0 then 0 else IntKind.i64.wrap (IntKind.i64.wrap (x + y) + tz (sval na A * sval nb B).natAbs)) ∧ Below w'.heap.size w' w'' by
    subst he
    exact rof_num _ (iu.toM hz) (by decide) (wrap_range _))
  clear hz
  generalize sval na A * sval nb B = z at *
  generalize (if z = 0 then 0 else IntKind.i64.wrap (IntKind.i64.wrap (x + y) + tz z.natAbs)) = ox at *
  generalize oM z = om at *
  have hb0 : Below w.heap.size w (((w.alloc (.cells #[.bool na, .slice ao A.length ca, .int .i64 x] 29)).alloc (.cells #[.bool nb, .slice bo B.length cb, .int .i64 y] 29)).alloc (.cells #[.bool false, .slice none 0 0, .int .i64 0] 29)) :=
    (((Below.refl _ _).alloc (Nat.le_refl _) _).alloc (by simp) _).alloc (by simp; omega) _
  have x0 : Box3 (((w.alloc (.cells #[.bool na, .slice ao A.length ca, .int .i64 x] 29)).alloc (.cells #[.bool nb, .slice bo B.length cb, .int .i64 y] 29)).alloc (.cells #[.bool false, .slice none 0 0, .int .i64 0] 29)) w.heap.size (.bool na) (.slice ao A.length ca) (.int .i64 x) := ((Box3.new _ _ _ _).old _).old _
  have x1 : Box3 (((w.alloc (.cells #[.bool na, .slice ao A.length ca, .int .i64 x] 29)).alloc (.cells #[.bool nb, .slice bo B.length cb, .int .i64 y] 29)).alloc (.cells #[.bool false, .slice none 0 0, .int .i64 0] 29)) (w.heap.size + 1) (.bool nb) (.slice bo B.length cb) (.int .i64 y) := by
    have := (Box3.new (w.alloc (.cells #[.bool na, .slice ao A.length ca, .int .i64 x] 29)) (.bool nb) (.slice bo B.length cb) (.int .i64 y)).old (.cells #[.bool false, .slice none 0 0, .int .i64 0] 29)
    simpa using this
  have x2 : Box3 (((w.alloc (.cells #[.bool na, .slice ao A.length ca, .int .i64 x] 29)).alloc (.cells #[.bool nb, .slice bo B.length cb, .int .i64 y] 29)).alloc (.cells #[.bool false, .slice none 0 0, .int .i64 0] 29)) (w.heap.size + 1 + 1) (.bool false) (.slice none 0 0) (.int .i64 0) := by
    have := Box3.new ((w.alloc (.cells #[.bool na, .slice ao A.length ca, .int .i64 x] 29)).alloc (.cells #[.bool nb, .slice bo B.length cb, .int .i64 y] 29)) (.bool false) (.slice none 0 0) (.int .i64 0)
    simpa using this
  have B0 := hide hb0; have X0 := hide x0; have X1 := hide x1; have X2 := hide x2
  clear hb0 x0 x1 x2
  go_enter Tryz.func51, Tryz.ntmps51
  go_wp2_with fail
  refine at_world (fun W => Below w.heap.size w W ∧ Box3 W w.heap.size (.bool na) (.slice ao A.length ca) (.int .i64 x) ∧ Box3 W (w.heap.size + 1) (.bool nb) (.slice bo B.length cb) (.int .i64 y) ∧ Box3 W (w.heap.size + 1 + 1) (.bool false) (.slice none 0 0) (.int .i64 0)) ⟨unhide B0, unhide X0, unhide X1, unhide X2⟩ ?_
  clear B0 X0 X1 X2
  rintro W0 ⟨b0, x0, x1, x2⟩
  have s0 : w.heap.size + 1 + 1 < W0.heap.size := x2.lt
  have hK : ∀ w', Below (w.heap.size + 1 + 1) W0 w' → Below (w.heap.size + 1 + 1) W0 w' ∧ w'.cell? ⟨w.heap.size, 0, none⟩ = some (.bool na) ∧ w'.cell? ⟨w.heap.size, 1, none⟩ = some (.slice ao A.length ca) ∧ w'.cell? ⟨w.heap.size, 2, none⟩ = some (.int .i64 x) ∧ w'.cell? ⟨w.heap.size + 1, 0, none⟩ = some (.bool nb) ∧ w'.cell? ⟨w.heap.size + 1, 1, none⟩ = some (.slice bo B.length cb) ∧ w'.cell? ⟨w.heap.size + 1, 2, none⟩ = some (.int .i64 y) := fun w' h =>
    ⟨h, (x0.below h (by omega)).c0, (x0.below h (by omega)).c1, (x0.below h (by omega)).c2, (x1.below h (by omega)).c0, (x1.below h (by omega)).c1, (x1.below h (by omega)).c2⟩
  have HK := hide hK; have BB := hide b0; have X2 := hide x2
  clear hK b0 x0 x1 x2
  go_region_held3 (fun w' => Below (w.heap.size + 1 + 1) W0 w' ∧ w'.cell? ⟨w.heap.size, 0, none⟩ = some (.bool na) ∧ w'.cell? ⟨w.heap.size, 1, none⟩ = some (.slice ao A.length ca) ∧ w'.cell? ⟨w.heap.size, 2, none⟩ = some (.int .i64 x) ∧ w'.cell? ⟨w.heap.size + 1, 0, none⟩ = some (.bool nb) ∧ w'.cell? ⟨w.heap.size + 1, 1, none⟩ = some (.slice bo B.length cb) ∧ w'.cell? ⟨w.heap.size + 1, 2, none⟩ = some (.int .i64 y))
    (first | exact unhide HK _ (Below.refl _ _).drew | exact unhide HK _ (by assumption) | exact unhide HK _ (below_put3 hB2 (by omega) _ _ _))
    (first | (go_at_call 96; refine (unhide CM _ (hA.below ((unhide BB).trans ((Below.refl _ _).drew))) (hB.below ((unhide BB).trans ((Below.refl _ _).drew)))).mono ?_; rintro e w3 ⟨v, rfl, ⟨n4, a4, c4, L4, rfl, i4⟩, hb1⟩; have hB1 : Below (w.heap.size + 1 + 1) W0 w3 := ((Below.refl _ _).drew).trans (hb1.mono (by simp; omega)); have X3 := hide ((unhide X2).drew.below hb1 (by simp; omega)); have IZ := hide (show IsNum 0 w3 (.agg #[.bool n4, .slice a4 L4.length c4]) z from ⟨n4, a4, c4, L4, rfl, i4⟩); have s1 := hb1.size; have BB1 := hide ((unhide BB).trans (hB1.mono (by omega))); clear hb1 i4) | (go_at_call 48; refine (unhide CO _ _ _ _ (unhide IZ) (by first | rfl | exact (wrap64_is _))).mono ?_; rintro e w4 ⟨u, rfl, iu, hb2⟩; obtain ⟨n5, a5, c5, L5, rfl, i5⟩ := iu.num; have hB2 : Below (w.heap.size + 1 + 1) W0 w4 := hB1.trans (hb2.mono (by simp at s1; omega)); have X4 := (unhide X3).below hb2 (by simp at s1; omega); have y0 := X4.c0; have y1 := X4.c1; have y2 := X4.c2; have f0 := X4.free 0; have f1 := X4.free 1; have f2 := X4.free 2; have IU := hide iu; have X5 := hide X4; have BB2 := hide ((unhide BB1).trans (hb2.mono (by simp at s1; omega))); clear hb2 iu i5 X4))
  go_wp2
  refine bodyPost_ret (v := .agg #[.bool n5, .slice a5 L5.length c5, .int .i64 ox]) (by simp [results, Tryz.results51, go_sem, y0, y1, y2]) rfl ⟨_, rfl, (unhide IU).put3 (unhide X5) _ _ _, below_put3 (unhide BB2) (by omega) _ _ _⟩

end Go.Proofs.YtfnnbkclnflpfaaGreatDoor

/- Contracts of soft's parts, Value. -/
namespace Go.Proofs.YtfnnbkclnflpfaaGreatDoor
open Go.RowKit

/-- The whole number without its sign; with it; its power. -/
def fA (b : Nat) : Nat := if fP b = 0 then fF b else fF b + 4503599627370496
def fM (b : Nat) : Int := sg (fS b) (fA b)
def fE (b : Nat) : Int := if fP b = 0 then -1074 else (fP b : Int) - 1075

theorem fA_lt (b : Nat) : fA b < 9007199254740992 := by unfold fA; have := fF_lt b; split <;> omega
theorem fM_lt (b : Nat) : (fM b).natAbs < 9007199254740992 := by
  have := fA_lt b
  unfold fM sg
  split <;> omega
theorem fE_in (b : Nat) : -1074 ≤ fE b ∧ fE b ≤ 972 := by
  have := fP_lt b
  unfold fE
  split <;> omega

set_option maxHeartbeats 2000000 in
theorem parts_any (b : Nat) (w : World) :
    Calls Tryz.prog 128 #[fV b] w fun e w' => e = .returned (.tuple #[.int .i64 (fM b), .int .i64 (fE b)]) ∧ Below w.heap.size w w' := by
  unfold fV fM fE fA
  have hp := fP_lt b
  have hf := fF_lt b
  generalize fF b = f at *
  generalize fP b = p at *
  generalize fS b = s at *
  have hf0 : (0 : Int) ≤ f := by omega
  have hf1 : (f : Int) < 4503599627370496 := by omega
  have hp1 : (p : Int) < 2048 := by omega
  by_cases h0 : p = 0
  · subst h0
    rw [if_pos rfl, if_pos rfl]
    cases s
    · go_enter Tryz.func128, Tryz.ntmps128
      go_wp2
      exact bodyPost_ret (v := .tuple #[.int .i64 f, .int .i64 (-1074)]) (by simp [results, Tryz.results128, go_sem]) rfl ⟨rfl, (Below.refl _ _).alloc (Nat.le_refl _) _⟩
    · go_enter Tryz.func128, Tryz.ntmps128
      go_wp2
      exact bodyPost_ret (v := .tuple #[.int .i64 (-f), .int .i64 (-1074)]) (by simp [results, Tryz.results128, go_sem]) rfl ⟨rfl, (Below.refl _ _).alloc (Nat.le_refl _) _⟩
  · rw [if_neg h0, if_neg h0]
    have h1 : 0 < p := by omega
    have h1' : decide (0 < p) = true := decide_eq_true h1
    have w0 : IntKind.i64.wrap (f : Int) = (f : Int) := by simp only [IntKind.wrap_i64]; omega
    have w2 : IntKind.i64.wrap (p : Int) = (p : Int) := by simp only [IntKind.wrap_i64]; omega
    obtain ⟨a, ha⟩ : ∃ a : Nat, a = f + 4503599627370496 := ⟨_, rfl⟩
    have w1 : IntKind.i64.wrap ((f : Int) + 4503599627370496) = (a : Int) := by simp only [IntKind.wrap_i64]; omega
    have w4 : IntKind.i64.wrap (-(a : Int)) = -(a : Int) := by simp only [IntKind.wrap_i64]; omega
    have w5 : IntKind.i64.wrap ((p : Int) - 1) = (p : Int) - 1 := by simp only [IntKind.wrap_i64]; omega
    have w6 : IntKind.i64.wrap (-1074 + ((p : Int) - 1)) = (p : Int) - 1075 := by simp only [IntKind.wrap_i64]; omega
    rw [← ha]
    clear h0 hf hp hf1 hp1 hf0 ha
    cases s
    · go_enter Tryz.func128, Tryz.ntmps128
      go_wp2
      exact bodyPost_ret (v := .tuple #[.int .i64 a, .int .i64 (p - 1075)]) (by simp [results, Tryz.results128, go_sem]) rfl ⟨rfl, (Below.refl _ _).alloc (Nat.le_refl _) _⟩
    · go_enter Tryz.func128, Tryz.ntmps128
      go_wp2
      exact bodyPost_ret (v := .tuple #[.int .i64 (-a), .int .i64 (p - 1075)]) (by simp [results, Tryz.results128, go_sem]) rfl ⟨rfl, (Below.refl _ _).alloc (Nat.le_refl _) _⟩

end Go.Proofs.YtfnnbkclnflpfaaGreatDoor

