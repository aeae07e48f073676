/- The law WholeProducts, walked. -/
import Derived.Test.YtiebegjgaflfiaaU2
import Derived.Test.YtiebegjgaflfiaaT5
import Derived.Test.YtiebegjgaflfiaaM2
namespace Go.Proofs.Ytiebegjgaflfiaa
open Go.RowKit
attribute [local go_sem ↓] Go.wp_at_zero Go.wp_at_succ

theorem guard_cases (a b : Nat) (l : Bool) : (l = false ∧ (600 : Int) < a) ∨ (l = false ∧ ¬ (600 : Int) < a ∧ (600 : Int) < b) ∨ (l = false ∧ ¬ (600 : Int) < a ∧ ¬ (600 : Int) < b ∧ (80000 : Int) < (a : Int) * b ∧ (0 : Int) ≤ (a : Int) * b ∧ (a : Int) * b ≤ 360000) ∨ (l = false ∧ ¬ (600 : Int) < a ∧ ¬ (600 : Int) < b ∧ ¬ (80000 : Int) < (a : Int) * b ∧ (0 : Int) ≤ (a : Int) * b ∧ (a : Int) * b ≤ 360000) ∨ (l = true) := by
  cases l
  · by_cases h1 : 600 < a
    · left; exact ⟨rfl, by omega⟩
    · by_cases h2 : 600 < b
      · right; left; exact ⟨rfl, by omega, by omega⟩
      · have h3 : a * b ≤ 600 * 600 := Nat.mul_le_mul (by omega) (by omega)
        have h4 : (a : Int) * b = ((a * b : Nat) : Int) := by simp
        rw [h4]
        by_cases h5 : 80000 < a * b
        · right; right; left; refine ⟨rfl, by omega, by omega, by omega, by omega, by omega⟩
        · right; right; right; left; refine ⟨rfl, by omega, by omega, by omega, by omega, by omega⟩
  · right; right; right; right; rfl

set_option maxHeartbeats 4000000 in
theorem products_walk (na nb : Bool) (ao bo : Option Addr) (ca cb : Nat) (A B : List Nat) (w : World) (hA : LimbsAt w ao ca A) (hB : LimbsAt w bo cb B) (la : A.length ≤ 1048576) (lb : B.length ≤ 1048576) :
    Calls Try.prog 5 #[.agg #[.bool na, .slice ao A.length ca], .agg #[.bool nb, .slice bo B.length cb]] w fun e w' => e = .returned (.bool true) ∧ Below w.heap.size w w' := by
  have T1 := hide (told_op na A nb B (sval na A * sval nb B))
  have fA := hide hA.2.1
  have fB := hide hB.2.1
  have CL := hide (fun w' h1 h2 => light_any na nb ao bo ca cb A B w' h1 h2 (by omega) (by omega))
  have CA := hide (fun w' h => copied_any na ao ca A w' h (by omega))
  have CB := hide (fun w' h => copied_any nb bo cb B w' h (by omega))
  have CMul := hide (fun a' b' c' d' w' h1 h2 => mul_any na nb a' b' c' d' A B w' h1 h2 (by omega) (by omega))
  have CRM := hide (fun w' h1 h2 => refMul_any na nb ao bo ca cb A B w' h1 h2 (by omega) (by omega))
  have CF := hide (fun w' h1 h2 => form_any na nb ao bo ca cb A B w' h1 h2 (by omega) (by omega))
  generalize (lt1 na A && lt1 nb B) = lgt at *
  generalize opErr (rightB na A && rightB nb B) (sval na A * sval nb B) = es at *
  generalize opNum (rightB na A && rightB nb B) (sval na A * sval nb B) = xs at *
  generalize chk2 na A nb B = f at *
  generalize sval na A * sval nb B = zs at *
  go_enter Try.func5, Try.ntmps5
  go_wp2_with fail
  -- light(a, b)
  have hb0 : Below w.heap.size w ((w.alloc (.cells #[.bool na, .slice ao A.length ca] 24)).alloc (.cells #[.bool nb, .slice bo B.length cb] 24)) := ((Below.refl _ _).alloc (Nat.le_refl _) _).alloc (by simp) _
  refine (unhide CL _ (hA.below hb0) (hB.below hb0)).mono ?_
  rintro e w1 ⟨rfl, hb1⟩
  have x0 : Box2 w1 w.heap.size (.bool na) (.slice ao A.length ca) := (((Box2.new _ _ _).old _)).below hb1 (by simp; omega)
  have x1 : Box2 w1 (w.heap.size + 1) (.bool nb) (.slice bo B.length cb) := by
    have := Box2.new (w.alloc (.cells #[.bool na, .slice ao A.length ca] 24)) (.bool nb) (.slice bo B.length cb)
    exact Box2.below (by simpa using this) hb1 (by simp)
  have b1' : Below w.heap.size w w1 := hb0.trans (hb1.mono (by simp; omega))
  have a0 := x0.c0; have a1 := x0.c1; have q0 := x1.c0; have q1 := x1.c1
  have iA : (0 : Int) ≤ A.length := by omega
  have iB : (0 : Int) ≤ B.length := by omega
  clear hb0 hb1 CL
  rcases guard_cases A.length B.length lgt with ⟨rfl, g1⟩ | ⟨rfl, g1, g2⟩ | ⟨rfl, g1, g2, g3, g4, g5⟩ | ⟨rfl, g1, g2, g3, g4, g5⟩ | rfl
  iterate 3
    · clear CA CB CMul CRM CF x0 x1
      go_wp2_with (go_at_call 11; refine (awake_any _).mono ?_; rintro e w3 ⟨rfl, hb5⟩)
      go_ret
      exact ⟨rfl, b1'.trans (hb5.mono b1'.size)⟩
  all_goals
    have X0 := hide x0; have X1 := hide x1; have B1 := hide b1'
    clear x0 x1 b1'
    go_wp2_with fail
    -- p := copied(a)
    refine (unhide CA _ (hA.below (unhide B1))).mono ?_
    rintro e w2 ⟨gp, cp, rfl, op, hb1⟩
    have hgp := op.lt gp rfl
    obtain ⟨hg1, hg2⟩ := hgp
    have hl0 := (unhide X0).lt
    have hl1 := (unhide X1).lt
    have x0 := (unhide X0).below hb1 (unhide X0).lt
    have x1 := (unhide X1).below hb1 (unhide X1).lt
    have hz2 : w.heap.size + 1 < w2.heap.size := x1.lt
    have b2 : Below w.heap.size w w2 := (unhide B1).trans (hb1.mono (unhide B1).size)
    clear a0 a1 q0 q1 X0 X1 B1 hb1 CA
    have q0 := x1.c0; have q1 := x1.c1
    have X0 := hide x0; have X1 := hide x1; have OP := hide op; have B2 := hide b2
    clear x0 x1 op b2
    go_wp2_with fail
    -- q := copied(b)
    have b2 := unhide B2
    have hbx : Below w2.heap.size w2 (w2.alloc (.cells #[.bool na, .slice (some ⟨gp, 0, none⟩) A.length cp] 24)) := (Below.refl _ _).alloc (Nat.le_refl _) _
    refine (unhide CB _ (hB.below (b2.trans (hbx.mono b2.size)))).mono ?_
    rintro e w3 ⟨gq, cq, rfl, oq, hb1⟩
    have hgq := oq.lt gq rfl
    simp only [World.size_alloc] at hgq
    obtain ⟨hg3, hg4⟩ := hgq
    have hb2 : Below w2.heap.size w2 w3 := hbx.trans (hb1.mono (by simp))
    have x0 := (unhide X0).below hb2 (unhide X0).lt
    have x1 := (unhide X1).below hb2 (unhide X1).lt
    have xp : Box2 w3 w2.heap.size (.bool na) (.slice (some ⟨gp, 0, none⟩) A.length cp) := (Box2.new _ _ _).below hb1 (by simp)
    have op := own_below (unhide OP) hb2
    have b3 : Below w.heap.size w w3 := b2.trans (hb2.mono b2.size)
    have hz3 : w2.heap.size < w3.heap.size := xp.lt
    have hz31 : w.heap.size + 1 < w3.heap.size := by omega
    have hz30 : w.heap.size < w3.heap.size := by omega
    have p0 := xp.c0; have p1 := xp.c1
    clear q0 q1 X0 X1 OP B2 CB hbx hb1 hb2 b2
    have X0 := hide x0; have X1 := hide x1; have XP := hide xp; have OP := hide op; have OQ := hide oq; have B3 := hide b3
    clear x0 x1 xp op oq b3
    go_wp2_with fail
    -- s, e := Mul(p, q)
    have b3 := unhide B3
    have hbx : Below w3.heap.size w3 (w3.alloc (.cells #[.bool nb, .slice (some ⟨gq, 0, none⟩) B.length cq] 24)) := (Below.refl _ _).alloc (Nat.le_refl _) _
    refine (unhide CMul _ _ _ _ _ ((own_at (own_below (unhide OP) hbx) (unhide fA)).1) ((own_at (own_below (unhide OQ) hbx) (unhide fB)).1)).mono ?_
    rintro e w4 ⟨v, rfl, ⟨n4, a4, c4, L4, rfl, i4⟩, hb1⟩
    have hb2 : Below w3.heap.size w3 w4 := hbx.trans (hb1.mono (by simp))
    have x0 := (unhide X0).below hb2 (unhide X0).lt
    have x1 := (unhide X1).below hb2 (unhide X1).lt
    have xp := (unhide XP).below hb2 (unhide XP).lt
    have xq : Box2 w4 w3.heap.size (.bool nb) (.slice (some ⟨gq, 0, none⟩) B.length cq) := (Box2.new _ _ _).below hb1 (by simp)
    have op := own_below (unhide OP) hb2
    have oq := own_below (unhide OQ) hb2
    have b4 : Below w.heap.size w w4 := b3.trans (hb2.mono b3.size)
    have hz4 : w3.heap.size < w4.heap.size := xq.lt
    have hz42 : w2.heap.size < w4.heap.size := by omega
    have hz41 : w.heap.size + 1 < w4.heap.size := by omega
    have hz40 : w.heap.size < w4.heap.size := by omega
    have is : IsNum (w3.heap.size + 1) w4 (.agg #[.bool n4, .slice a4 L4.length c4]) xs := ⟨n4, a4, c4, L4, rfl, by simpa using i4⟩
    clear X0 X1 XP OP OQ B3 CMul hbx hb1 hb2 b3 p0 p1 i4
    have p0 := xp.c0; have p1 := xp.c1; have q0 := xq.c0; have q1 := xq.c1; have a0 := x0.c0; have a1 := x0.c1; have b0 := x1.c0; have b1 := x1.c1
    have X0 := hide x0; have X1 := hide x1; have XP := hide xp; have XQ := hide xq; have OP := hide op; have OQ := hide oq; have B4 := hide b4; have IS := hide is
    clear x0 x1 xp xq op oq b4 is
    go_wp2_with fail
    -- Same(p, a)
    have b5 := unhide B4
    have hbx : Below w4.heap.size w4 (w4.alloc (.cells #[.bool n4, .slice a4 L4.length c4] 24)) := (Below.refl _ _).alloc (Nat.le_refl _) _
    refine (same_any na na (some ⟨gp, 0, none⟩) ao cp ca A A _ ((own_at (own_below (unhide OP) hbx) (unhide fA)).1) (hA.below (b5.trans (hbx.mono b5.size))) (by omega) (by omega)).mono ?_
    rw [show sameB na A na A = true by simp [sameB]]
    rintro e w6 ⟨rfl, hb1⟩
    have hb2 : Below w4.heap.size w4 w6 := hbx.trans (hb1.mono (by simp))
    have x0 := (unhide X0).below hb2 (unhide X0).lt
    have x1 := (unhide X1).below hb2 (unhide X1).lt
    have xp := (unhide XP).below hb2 (unhide XP).lt
    have xq := (unhide XQ).below hb2 (unhide XQ).lt
    have xs' : Box2 w6 w4.heap.size (.bool n4) (.slice a4 L4.length c4) := (Box2.new _ _ _).below hb1 (by simp)
    have op := own_below (unhide OP) hb2
    have oq := own_below (unhide OQ) hb2
    have b6 : Below w.heap.size w w6 := b5.trans (hb2.mono b5.size)
    have hz6 : w4.heap.size < w6.heap.size := xs'.lt
    have is := (unhide IS).below hb2
    clear X0 X1 XP XQ OP OQ B4 hbx hb1 hb2 b5 p0 p1 q0 q1 a0 a1 b0 b1 IS
    have p0 := xp.c0; have p1 := xp.c1; have q0 := xq.c0; have q1 := xq.c1; have a0 := x0.c0; have a1 := x0.c1; have b0 := x1.c0; have b1 := x1.c1
    have X0 := hide x0; have X1 := hide x1; have XP := hide xp; have XQ := hide xq; have XS := hide xs'; have OP := hide op; have OQ := hide oq; have B6 := hide b6; have IS := hide is
    clear x0 x1 xp xq xs' op oq b6 is
    go_wp2_with fail
    -- Same(q, b)
    have b6 := unhide B6
    refine (same_any nb nb (some ⟨gq, 0, none⟩) bo cq cb B B _ ((own_at (unhide OQ) (unhide fB)).1) (hB.below b6) (by omega) (by omega)).mono ?_
    rw [show sameB nb B nb B = true by simp [sameB]]
    rintro e w7 ⟨rfl, hb2⟩
    have x0 := (unhide X0).below hb2 (unhide X0).lt
    have x1 := (unhide X1).below hb2 (unhide X1).lt
    have xp := (unhide XP).below hb2 (unhide XP).lt
    have xq := (unhide XQ).below hb2 (unhide XQ).lt
    have xs' := (unhide XS).below hb2 (unhide XS).lt
    have op := own_below (unhide OP) hb2
    have oq := own_below (unhide OQ) hb2
    have b7 : Below w.heap.size w w7 := b6.trans (hb2.mono b6.size)
    have hz7 : w4.heap.size < w7.heap.size := xs'.lt
    have is := (unhide IS).below hb2
    clear X0 X1 XP XQ XS OP OQ B6 hb2 b6 p0 p1 q0 q1 a0 a1 b0 b1 IS
    have p0 := xp.c0; have p1 := xp.c1
    have X0 := hide x0; have X1 := hide x1; have XQ := hide xq; have XS := hide xs'; have OP := hide op; have OQ := hide oq; have B7 := hide b7; have IS := hide is
    clear x0 x1 xp xq xs' op oq b7 is
    go_wp2_with fail
    -- spoil(p)
    have b7 := unhide B7
    refine (spoil_any na gp A.length cp _ A _ (unhide OP) (unhide fA) (by omega)).mono ?_
    rintro e w8 ⟨rfl, hgr⟩
    have x0 := (unhide X0).grown hgr (by omega)
    have x1 := (unhide X1).grown hgr (by omega)
    have xq := (unhide XQ).grown hgr (by omega)
    have xs' := (unhide XS).grown hgr (by omega)
    have oq := own_grown (unhide OQ) hgr (by simp [Value.ownBlock]; omega)
    have is := (unhide IS).grown hgr (by omega)
    have b8 : Below w.heap.size w w8 := b7.trans (below_grown hgr (by omega) b7.size)
    clear X0 X1 XQ XS OP OQ B7 hgr b7 p0 p1 IS
    have q0 := xq.c0; have q1 := xq.c1
    have X0 := hide x0; have X1 := hide x1; have XS := hide xs'; have OQ := hide oq; have B8 := hide b8; have IS := hide is
    clear x0 x1 xq xs' oq b8 is
    go_wp2_with fail
    -- spoil(q)
    have b8 := unhide B8
    refine (spoil_any nb gq B.length cq _ B _ (unhide OQ) (unhide fB) (by omega)).mono ?_
    rintro e w9 ⟨rfl, hgr⟩
    have x0 := (unhide X0).grown hgr (by omega)
    have x1 := (unhide X1).grown hgr (by omega)
    have xs' := (unhide XS).grown hgr (by omega)
    have is := (unhide IS).grown hgr (by omega)
    have b9 : Below w.heap.size w w9 := b8.trans (below_grown hgr (by omega) b8.size)
    clear X0 X1 XS OQ B8 hgr b8 q0 q1 IS fA fB
    have HA := hide (hA.below b9)
    have HB := hide (hB.below b9)
    have IS := hide is; have B9 := hide b9
    clear hA hB is b9
    go_wp2
    refine at_world (fun W => W = w9) rfl ?_
    rintro W0 e0
    subst e0
    have hK : ∀ w', Below W0.heap.size W0 w' → Below W0.heap.size W0 w' ∧ w'.cell? ⟨w.heap.size, 0, none⟩ = some (.bool na) ∧ w'.cell? ⟨w.heap.size, 1, none⟩ = some (.slice ao A.length ca) ∧ w'.cell? ⟨w.heap.size + 1, 0, none⟩ = some (.bool nb) ∧ w'.cell? ⟨w.heap.size + 1, 1, none⟩ = some (.slice bo B.length cb) ∧ w'.cell? ⟨w4.heap.size, 0, none⟩ = some (.bool n4) ∧ w'.cell? ⟨w4.heap.size, 1, none⟩ = some (.slice a4 L4.length c4) := fun w' h =>
      ⟨h, (x0.below h x0.lt).c0, (x0.below h x0.lt).c1, (x1.below h x1.lt).c0, (x1.below h x1.lt).c1, (xs'.below h xs'.lt).c0, (xs'.below h xs'.lt).c1⟩
    have HK := hide hK
    clear hK x0 x1 xs'
    go_region_held3 (fun w' => Below W0.heap.size W0 w' ∧ w'.cell? ⟨w.heap.size, 0, none⟩ = some (.bool na) ∧ w'.cell? ⟨w.heap.size, 1, none⟩ = some (.slice ao A.length ca) ∧ w'.cell? ⟨w.heap.size + 1, 0, none⟩ = some (.bool nb) ∧ w'.cell? ⟨w.heap.size + 1, 1, none⟩ = some (.slice bo B.length cb) ∧ w'.cell? ⟨w4.heap.size, 0, none⟩ = some (.bool n4) ∧ w'.cell? ⟨w4.heap.size, 1, none⟩ = some (.slice a4 L4.length c4))
      (first | exact unhide HK _ (Below.refl _ _).drew | exact unhide HK _ (by assumption))
      (first | (go_at_call 23; refine (unhide CRM _ ((unhide HA).below (And.left (by assumption))) ((unhide HB).below (And.left (by assumption)))).mono ?_; rintro e w1 ⟨v1, rfl, i1, hb1⟩; have hB1 : Below W0.heap.size W0 w1 := Below.trans (And.left (by assumption)) (hb1.mono (Below.size (And.left (by assumption)))); have I := hide i1; clear hb1 i1) | (go_at_call 19; refine (unhide CF _ ((unhide HA).below (And.left (by assumption))) ((unhide HB).below (And.left (by assumption)))).mono ?_; rintro e w1 ⟨rfl, hb1⟩; have hB1 : Below W0.heap.size W0 w1 := Below.trans (And.left (by assumption)) (hb1.mono (Below.size (And.left (by assumption)))); have J := hide ((unhide I).below hb1); clear hb1) | (go_at_call 17; refine (told_any ((unhide IS).below (And.left (by assumption))) (unhide J) (unhide T1).1 (unhide T1).2).mono ?_; rintro e w1 ⟨rfl, hb1⟩; have hB1 : Below W0.heap.size W0 w1 := Below.trans (And.left (by assumption)) (hb1.mono (Below.size (And.left (by assumption)))); clear hb1) | (go_at_call 11; refine (awake_any _).mono ?_; rintro e w1 ⟨rfl, hb1⟩; have hB1 : Below W0.heap.size W0 w1 := Below.trans (And.left (by assumption)) (hb1.mono (Below.size (And.left (by assumption)))); clear hb1))
    go_wp2
    go_ret
    exact ⟨rfl, (unhide B9).trans (Below.mono (And.left (by assumption)) (unhide B9).size)⟩

end Go.Proofs.Ytiebegjgaflfiaa
