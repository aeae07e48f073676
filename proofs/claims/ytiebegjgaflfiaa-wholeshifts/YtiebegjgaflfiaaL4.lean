/- The law WholeShifts, walked. -/
import Derived.Test.YtiebegjgaflfiaaT5
namespace Go.Proofs.Ytiebegjgaflfiaa
open Go.RowKit
attribute [local go_sem ↓] Go.wp_at_zero Go.wp_at_succ

theorem shift_cases (na : Bool) (A : List Nat) (n : Int) :
    (chk2 na A na A = 1 ∧ shE na A n = 1 ∧ shN na A n = 0) ∨ (chk2 na A na A = 0 ∧ ¬ (-16384 ≤ n ∧ n ≤ 16384) ∧ shE na A n = 2 ∧ shN na A n = 0) ∨ (chk2 na A na A = 0 ∧ (-16384 ≤ n ∧ n ≤ 16384) ∧ rightB na A = true ∧ shE na A n = errOf (shV na A n) ∧ shN na A n = numOf (shV na A n)) := by
  cases h : rightB na A
  · left; simp [chk2, shE, shN, shOk, h]
  · right
    by_cases h' : -16384 ≤ n ∧ n ≤ 16384
    · right
      refine ⟨by simp [chk2, h], h', rfl, ?_, ?_⟩
      · unfold shE shOk; rw [h, decide_eq_true h', Bool.and_self, if_pos rfl]
      · unfold shN shOk; rw [h, decide_eq_true h', Bool.and_self, if_pos rfl]
    · left
      refine ⟨by simp [chk2, h], h', ?_, ?_⟩
      · simp only [shE, shOk, h, decide_eq_false h']; simp
      · simp only [shN, shOk, decide_eq_false h']; simp

set_option maxHeartbeats 2000000 in
theorem shifts_walk (na : Bool) (ao : Option Addr) (ca : Nat) (A : List Nat) (n : Int) (w : World) (hA : LimbsAt w ao ca A) (la : A.length ≤ 35184372087808) (bn : -9223372036854775808 ≤ n ∧ n ≤ 9223372036854775807) :
    Calls Try.prog 6 #[.agg #[.bool na, .slice ao A.length ca], .int .i64 n] w fun e w' => e = .returned (.bool true) ∧ Below w.heap.size w w' := by
  have HC := hide (shift_cases na A n)
  have fA := hide hA.2.1
  have CL := hide (fun w' h => light_any na na ao ao ca ca A A w' h h (by omega) (by omega))
  have CA := hide (fun w' h => copied_any na ao ca A w' h (by omega))
  have CSh := hide (fun a' c' w' h => shift_any na a' c' A n w' h (by omega) bn)
  have CRS := hide (fun w' h hr hn => refShift_any na ao ca A n w' h hr hn)
  have CF := hide (fun w' h => form_any na na ao ao ca ca A A w' h h (by omega) (by omega))
  generalize (lt1 na A && lt1 na A) = lb at *
  generalize shV na A n = z at *
  generalize shE na A n = er at *
  generalize shN na A n = nu at *
  generalize chk2 na A na A = f at *
  generalize rightB na A = rb at *
  go_enter Try.func6, Try.ntmps6
  go_wp2_with fail
  -- light(a, a)
  have hb0 : Below w.heap.size w (w.alloc (.cells #[.bool na, .slice ao A.length ca] 24)) := (Below.refl _ _).alloc (Nat.le_refl _) _
  refine (unhide CL _ (hA.below hb0)).mono ?_
  rintro e w1 ⟨rfl, hb1⟩
  have x0 : Box2 w1 w.heap.size (.bool na) (.slice ao A.length ca) := (Box2.new _ _ _).below hb1 (by simp)
  have b1 : Below w.heap.size w w1 := hb0.trans (hb1.mono (by simp))
  have q0 := x0.c0; have q1 := x0.c1
  clear hb0 hb1 CL
  cases lb
  · clear HC CA CSh CRS CF x0
    go_wp2_with (go_at_call 11; refine (awake_any _).mono ?_; rintro e w3 ⟨rfl, hb5⟩)
    go_ret
    exact ⟨rfl, b1.trans (hb5.mono b1.size)⟩
  have X0 := hide x0; have B1 := hide b1
  clear x0 b1
  go_wp2_with fail
  -- p := copied(a)
  refine (unhide CA _ (hA.below (unhide B1))).mono ?_
  rintro e w2 ⟨gp, cp, rfl, op, hb1⟩
  have hgp := op.lt gp rfl
  obtain ⟨hg1, hg2⟩ := hgp
  have x0 := (unhide X0).below hb1 (unhide X0).lt
  have hlt1 := (unhide X0).lt
  have b2 : Below w.heap.size w w2 := (unhide B1).trans (hb1.mono (unhide B1).size)
  clear q0 q1 X0 B1 CA hb1
  have hz20 : w.heap.size < w2.heap.size := x0.lt
  have X0 := hide x0; have OP := hide op; have B2 := hide b2
  clear x0 op b2
  go_wp2_with fail
  -- s, e := Shift(p, n)
  have b2 := unhide B2
  have hbx : Below w2.heap.size w2 (w2.alloc (.cells #[.bool na, .slice (some ⟨gp, 0, none⟩) A.length cp] 24)) := (Below.refl _ _).alloc (Nat.le_refl _) _
  refine (unhide CSh _ _ _ ((own_at (own_below (unhide OP) hbx) (unhide fA)).1)).mono ?_
  rintro e w4 ⟨v, rfl, ⟨n4, a4, c4, L4, rfl, i4⟩, hb1⟩
  have hb2 : Below w2.heap.size w2 w4 := hbx.trans (hb1.mono (by simp))
  have x0 := (unhide X0).below hb2 (unhide X0).lt
  have xp : Box2 w4 w2.heap.size (.bool na) (.slice (some ⟨gp, 0, none⟩) A.length cp) := (Box2.new _ _ _).below hb1 (by simp)
  have op := own_below (unhide OP) hb2
  have b4 : Below w.heap.size w w4 := b2.trans (hb2.mono b2.size)
  have hz4 : w2.heap.size < w4.heap.size := xp.lt
  have hz40 : w.heap.size < w4.heap.size := by omega
  have is : IsNum (w2.heap.size + 1) w4 (.agg #[.bool n4, .slice a4 L4.length c4]) nu := ⟨n4, a4, c4, L4, rfl, by simpa using i4⟩
  clear X0 OP B2 CSh hbx hb1 hb2 b2 i4
  have p0 := xp.c0; have p1 := xp.c1; have a0 := x0.c0; have a1 := x0.c1
  have X0 := hide x0; have XP := hide xp; have OP := hide op; have B4 := hide b4; have IS := hide is
  clear x0 xp op b4 is
  go_wp2_with fail
  -- Same(p, a)
  have b5 := unhide B4
  have hbx : Below w4.heap.size w4 (w4.alloc (.cells #[.bool n4, .slice a4 L4.length c4] 24)) := (Below.refl _ _).alloc (Nat.le_refl _) _
  refine (same_any na na (some ⟨gp, 0, none⟩) ao cp ca A A _ ((own_at (own_below (unhide OP) hbx) (unhide fA)).1) (hA.below (b5.trans (hbx.mono b5.size))) (by omega) (by omega)).mono ?_
  rw [show sameB na A na A = true by simp [sameB]]
  rintro e w6 ⟨rfl, hb1⟩
  have hb2 : Below w4.heap.size w4 w6 := hbx.trans (hb1.mono (by simp))
  have x0 := (unhide X0).below hb2 (unhide X0).lt
  have xp := (unhide XP).below hb2 (unhide XP).lt
  have xs' : Box2 w6 w4.heap.size (.bool n4) (.slice a4 L4.length c4) := (Box2.new _ _ _).below hb1 (by simp)
  have op := own_below (unhide OP) hb2
  have b6 : Below w.heap.size w w6 := b5.trans (hb2.mono b5.size)
  have hz6 : w4.heap.size < w6.heap.size := xs'.lt
  have is := (unhide IS).below hb2
  clear X0 XP OP B4 hbx hb1 hb2 b5 p0 p1 a0 a1 IS
  have p0 := xp.c0; have p1 := xp.c1
  have X0 := hide x0; have XS := hide xs'; have OP := hide op; have B6 := hide b6; have IS := hide is
  clear x0 xp xs' op b6 is
  go_wp2_with fail
  -- spoil(p)
  have b7 := unhide B6
  refine (spoil_any na gp A.length cp _ A _ (unhide OP) (unhide fA) (by omega)).mono ?_
  rintro e w8 ⟨rfl, hgr⟩
  have x0 := (unhide X0).grown hgr (by omega)
  have xs' := (unhide XS).grown hgr (by omega)
  have is := (unhide IS).grown hgr (by omega)
  have b8 : Below w.heap.size w w8 := b7.trans (below_grown hgr (by omega) b7.size)
  clear X0 XS OP B6 hgr b7 p0 p1 IS fA
  have a0 := x0.c0; have a1 := x0.c1
  have X0 := hide x0; have XS := hide xs'; have B8 := hide b8; have IS := hide is
  clear x0 xs' b8 is
  go_wp2_with fail
  -- f := form(a, a)
  refine (unhide CF _ (hA.below (unhide B8))).mono ?_
  rintro e w9 ⟨rfl, hb1⟩
  have x0 := (unhide X0).below hb1 (unhide X0).lt
  have xs' := (unhide XS).below hb1 (unhide XS).lt
  have is := (unhide IS).below hb1
  have b9 : Below w.heap.size w w9 := (unhide B8).trans (hb1.mono (unhide B8).size)
  clear X0 XS B8 IS hb1 CF a0 a1
  have s0 := xs'.c0; have s1 := xs'.c1
  have HA := hide (hA.below b9); have B9 := hide b9; have IS := hide is
  clear hA b9 is
  rcases unhide HC with ⟨rfl, rfl, rfl⟩ | ⟨rfl, hr, rfl, rfl⟩ | ⟨rfl, hr, rfl, he, hu⟩
  · clear HC x0 xs' CRS
    go_wp2_with (first | (go_at_call 17; refine (told_any (unhide IS) (IsNum.zero 0 _ none 0) (fun _ => ⟨rfl, rfl⟩) (fun h => absurd h (by decide))).mono ?_; rintro e w10 ⟨rfl, hb1⟩) | (go_at_call 11; refine (awake_any _).mono ?_; rintro e w11 ⟨rfl, hb2⟩))
    go_ret
    exact ⟨rfl, ((unhide B9).trans (hb1.mono (unhide B9).size)).trans (hb2.mono ((unhide B9).trans (hb1.mono (unhide B9).size)).size)⟩
  · clear HC x0 xs' CRS
    rcases (show n < -16384 ∨ (¬ n < -16384 ∧ 16384 < n) by omega) with hx | ⟨hx, hx'⟩
    all_goals
      clear hr
      go_wp2_with (first | (go_at_call 17; refine (told_any (unhide IS) (IsNum.zero 0 _ none 0) (fun _ => ⟨rfl, rfl⟩) (fun h => absurd h (by decide))).mono ?_; rintro e w10 ⟨rfl, hb1⟩) | (go_at_call 11; refine (awake_any _).mono ?_; rintro e w11 ⟨rfl, hb2⟩))
      go_ret
      exact ⟨rfl, ((unhide B9).trans (hb1.mono (unhide B9).size)).trans (hb2.mono ((unhide B9).trans (hb1.mono (unhide B9).size)).size)⟩
  have hx1 : ¬ n < -16384 := by omega
  have hx2 : ¬ 16384 < n := by omega
  have CR := hide (fun w' h => unhide CRS w' h rfl hr)
  have HE := hide he; have HU := hide hu
  clear HC CRS hr he hu
  go_wp2
  refine at_world (fun W => W = w9) rfl ?_
  rintro W0 e0
  subst e0
  have hK : ∀ w', Below W0.heap.size W0 w' → Below W0.heap.size W0 w' ∧ w'.cell? ⟨w.heap.size, 0, none⟩ = some (.bool na) ∧ w'.cell? ⟨w.heap.size, 1, none⟩ = some (.slice ao A.length ca) ∧ w'.cell? ⟨w4.heap.size, 0, none⟩ = some (.bool n4) ∧ w'.cell? ⟨w4.heap.size, 1, none⟩ = some (.slice a4 L4.length c4) := fun w' h =>
    ⟨h, (x0.below h x0.lt).c0, (x0.below h x0.lt).c1, (xs'.below h xs'.lt).c0, (xs'.below h xs'.lt).c1⟩
  have HK := hide hK
  clear hK x0 xs' s0 s1
  go_region_held3 (fun w' => Below W0.heap.size W0 w' ∧ w'.cell? ⟨w.heap.size, 0, none⟩ = some (.bool na) ∧ w'.cell? ⟨w.heap.size, 1, none⟩ = some (.slice ao A.length ca) ∧ w'.cell? ⟨w4.heap.size, 0, none⟩ = some (.bool n4) ∧ w'.cell? ⟨w4.heap.size, 1, none⟩ = some (.slice a4 L4.length c4))
    (first | exact unhide HK _ (Below.refl _ _).drew | exact unhide HK _ (by assumption))
    (first | (go_at_call 25; refine (unhide CR _ ((unhide HA).below (And.left (by assumption)))).mono ?_; rintro e w1 ⟨v1, rfl, i1, hb1⟩; have hB1 : Below W0.heap.size W0 w1 := Below.trans (And.left (by assumption)) (hb1.mono (Below.size (And.left (by assumption)))); have J := hide i1; clear hb1 i1) | (go_at_call 17; refine (told_any ((unhide IS).below (And.left (by assumption))) (unhide J) (fun h => absurd rfl h) (fun _ => ⟨unhide HE, unhide HU⟩)).mono ?_; rintro e w1 ⟨rfl, hb1⟩; have hB1 : Below W0.heap.size W0 w1 := Below.trans (And.left (by assumption)) (hb1.mono (Below.size (And.left (by assumption)))); clear hb1) | (go_at_call 11; refine (awake_any _).mono ?_; rintro e w1 ⟨rfl, hb1⟩; have hB1 : Below W0.heap.size W0 w1 := Below.trans (And.left (by assumption)) (hb1.mono (Below.size (And.left (by assumption)))); clear hb1))
  go_wp2
  go_ret
  exact ⟨rfl, (unhide B9).trans (Below.mono (And.left (by assumption)) (unhide B9).size)⟩

end Go.Proofs.Ytiebegjgaflfiaa
