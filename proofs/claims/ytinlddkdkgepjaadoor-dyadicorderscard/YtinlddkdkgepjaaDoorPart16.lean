/- Part 16 of the texts. -/
import Derived.Test.YtinlddkdkgepjaaDoorPart15
import Derived.Test.YtinlddkdkgepjaaDoorChecked
import Derived.Test.YtinlddkdkgepjaaDoorPart01
import Derived.ProofKit
import Derived.SizedLaws
import Derived.Lib.SmallJoins
import Derived.Test.YtinlddkdkgepjaaDoorRows
import Derived.Test.YtinlddkdkgepjaaDoorPart11
import Derived.Lib.LaidTab
import Derived.OpenShut
import Derived.Deep.DeepHandedRow
/- Contract of the reference's Compare. -/
namespace Go.Proofs.YtinlddkdkgepjaaDoor
open Go.RowKit
attribute [local go_sem ↓] Go.wp_at_zero Go.wp_at_succ

theorem rsgn_dy {neg : Bool} {L : List Nat} {m : Int} (hc : Canon L) (hn : neg = decide (m < 0)) (hv : val L = m.natAbs) : rsgn neg L.length = sgnI m := by
  unfold rsgn
  rcases Int.lt_trichotomy m 0 with h | h | h
  · rw [hn, decide_eq_true h, if_pos rfl, sgnI_neg h]
  · subst h
    have : L = [] := (val_zero_of_canon L hc).1 (by rw [hv]; rfl)
    rw [hn, this]
    rfl
  · have h0 : L.length ≠ 0 := fun e => by
      have : L = [] := List.length_eq_zero_iff.1 e
      rw [this] at hv; simp [val] at hv; omega
    rw [hn, decide_eq_false (by omega), if_neg (by decide), if_neg h0, sgnI_pos h]

theorem sgnI_oM (z : Int) : sgnI (oM z) = sgnI z := by
  by_cases h : z = 0
  · subst h; rw [oM_zero]
  · have := (oddOf z h).1
    conv => rhs; rw [this]
    rw [sgnI_mul_pow]

theorem sgnB_three (n : Bool) (k : Nat) : sgnB n k = -1 ∨ sgnB n k = 0 ∨ sgnB n k = 1 := by
  unfold sgnB
  split
  · exact .inr (.inl rfl)
  · cases n
    · exact .inr (.inr rfl)
    · exact .inl rfl

set_option maxHeartbeats 4000000 in
theorem rcompare_any (na nb : Bool) (ao bo : Option Addr) (ca cb : Nat) (A B : List Nat) (x y : Int) (w : World) (hA : LimbsAt w ao ca A) (hB : LimbsAt w bo cb B) (hra : drB na A x = true) (hrb : drB nb B y = true) :
    Calls Tryd.prog 31 #[.agg #[.bool na, .slice ao A.length ca, .int .i64 x], .agg #[.bool nb, .slice bo B.length cb, .int .i64 y]] w fun r w' => r = .returned (.int .i64 (cmpV (sval na A) x (sval nb B) y)) ∧ Below w.heap.size w w' := by
  have WAYS := hide (cmp_ways hA.2.1 hB.2.1 hra hrb)
  obtain ⟨ra, la, bx1, bx2, zx⟩ := drB_bounds hra
  obtain ⟨rb, lb, by1, by2, zy⟩ := drB_bounds hrb
  have CSA := hide (fun w' => rsign_any na ao ca A.length x w')
  have CSB := hide (fun w' => rsign_any nb bo cb B.length y w')
  rw [rsgn_I ra, ← sgnB_I ra] at CSA
  rw [rsgn_I rb, ← sgnB_I rb] at CSB
  have CTA := hide (fun w' h => rtop_any na ao ca A x w' h (by omega) (by omega))
  have CTB := hide (fun w' h => rtop_any nb bo cb B y w' h (by omega) (by omega))
  have CSUB := hide (fun (hlow : lowE (sval na A) x (sval nb B) y = min x y) (h1 : upE (sval na A) x (min x y) = 0) (h2 : upE (sval nb B) y (min x y) = 0) w' h h' => rsub_any na nb ao bo ca cb A B x y w' h h' ra rb ⟨bx1, bx2⟩ ⟨by1, by2⟩ (by rw [lowE_neg, hlow]; exact h1) (by rw [lowE_neg, upE_neg, hlow]; exact h2))
  have HZ := hide (fun (hlow : lowE (sval na A) x (sval nb B) y = min x y) => show sgnI (oM (sumZ (sval na A) x (- sval nb B) y)) = cmpI (up (sval na A) x (min x y)) (up (sval nb B) y (min x y)) by
    rw [sgnI_oM, cmpI_sgn]
    unfold sumZ
    rw [lowE_neg, hlow, up_neg, Int.sub_eq_add_neg])
  have H3A := hide (sgnB_three na A.length); have H3B := hide (sgnB_three nb B.length)
  clear hra hrb zx zy ra rb
  generalize oE (sumZ (sval na A) x (- sval nb B) y) (lowE (sval na A) x (- sval nb B) y) = oe at *
  generalize oM (sumZ (sval na A) x (- sval nb B) y) = om at *
  generalize cmpV (sval na A) x (sval nb B) y = cv at *
  generalize upE (sval na A) x (min x y) = ea at *
  generalize upE (sval nb B) y (min x y) = eb at *
  generalize up (sval na A) x (min x y) = za at *
  generalize up (sval nb B) y (min x y) = zb at *
  generalize topR A x = ta at *
  generalize topR B y = tb at *
  generalize sgnB na A.length = sga at *
  generalize sgnB nb B.length = sgb at *
  generalize lowE (sval na A) x (sval nb B) y = l at *
  have hb0 : Below w.heap.size w ((w.alloc (.cells #[.bool na, .slice ao A.length ca, .int .i64 x] 26)).alloc (.cells #[.bool nb, .slice bo B.length cb, .int .i64 y] 26)) := ((Below.refl _ _).alloc (Nat.le_refl _) _).alloc (by simp) _
  have x0 : Box3 ((w.alloc (.cells #[.bool na, .slice ao A.length ca, .int .i64 x] 26)).alloc (.cells #[.bool nb, .slice bo B.length cb, .int .i64 y] 26)) w.heap.size (.bool na) (.slice ao A.length ca) (.int .i64 x) := (Box3.new _ _ _ _).old _
  have x1 : Box3 ((w.alloc (.cells #[.bool na, .slice ao A.length ca, .int .i64 x] 26)).alloc (.cells #[.bool nb, .slice bo B.length cb, .int .i64 y] 26)) (w.heap.size + 1) (.bool nb) (.slice bo B.length cb) (.int .i64 y) := by
    have := Box3.new (w.alloc (.cells #[.bool na, .slice ao A.length ca, .int .i64 x] 26)) (.bool nb) (.slice bo B.length cb) (.int .i64 y)
    simpa using this
  have B0 := hide hb0; have X0 := hide x0; have X1 := hide x1
  clear hb0 x0 x1
  rcases unhide WAYS with ⟨hne, _, hc⟩ | ⟨hsame, s, c, hs, hc, rfl, hcc, hcv⟩ | ⟨hsame, htt, h1, h2, hcv, hlow⟩
  · clear WAYS CTA CTB CSUB HZ
    rcases unhide H3A with rfl | rfl | rfl <;> rcases unhide H3B with rfl | rfl | rfl
    all_goals first | exact absurd rfl hne | skip
    all_goals
      have hcv : cv = _ := hc.symm
      clear hne hc H3A H3B
      simp only [show min (1 : Int) (max (-1) (-1 - 0)) = -1 by decide, show min (1 : Int) (max (-1) (-1 - 1)) = -1 by decide, show min (1 : Int) (max (-1) (0 - -1)) = 1 by decide, show min (1 : Int) (max (-1) (0 - 1)) = -1 by decide, show min (1 : Int) (max (-1) (1 - -1)) = 1 by decide, show min (1 : Int) (max (-1) (1 - 0)) = 1 by decide] at hcv
      subst hcv
      go_enter Tryd.func31, Tryd.ntmps31
      go_wp2_with fail
      refine at_world (fun W => Below w.heap.size w W ∧ Box3 W w.heap.size (.bool na) (.slice ao A.length ca) (.int .i64 x) ∧ Box3 W (w.heap.size + 1) (.bool nb) (.slice bo B.length cb) (.int .i64 y)) ⟨unhide B0, unhide X0, unhide X1⟩ ?_
      clear B0 X0 X1
      rintro W0 ⟨b0, x0, x1⟩
      have hK : ∀ w', Below W0.heap.size W0 w' → Below W0.heap.size W0 w' ∧ w'.cell? ⟨w.heap.size, 0, none⟩ = some (.bool na) ∧ w'.cell? ⟨w.heap.size, 1, none⟩ = some (.slice ao A.length ca) ∧ w'.cell? ⟨w.heap.size, 2, none⟩ = some (.int .i64 x) ∧ w'.cell? ⟨w.heap.size + 1, 0, none⟩ = some (.bool nb) ∧ w'.cell? ⟨w.heap.size + 1, 1, none⟩ = some (.slice bo B.length cb) ∧ w'.cell? ⟨w.heap.size + 1, 2, none⟩ = some (.int .i64 y) := fun w' h =>
        ⟨h, (x0.all h).c0, (x0.all h).c1, (x0.all h).c2, (x1.all h).c0, (x1.all h).c1, (x1.all h).c2⟩
      have HK := hide hK
      have HA := hide (hA.below b0); have HB := hide (hB.below b0); have BB := hide b0; have X0 := hide x0; have X1 := hide x1
      clear hK b0 x0 x1
      go_region_held3 (fun w' => Below W0.heap.size W0 w' ∧ w'.cell? ⟨w.heap.size, 0, none⟩ = some (.bool na) ∧ w'.cell? ⟨w.heap.size, 1, none⟩ = some (.slice ao A.length ca) ∧ w'.cell? ⟨w.heap.size, 2, none⟩ = some (.int .i64 x) ∧ w'.cell? ⟨w.heap.size + 1, 0, none⟩ = some (.bool nb) ∧ w'.cell? ⟨w.heap.size + 1, 1, none⟩ = some (.slice bo B.length cb) ∧ w'.cell? ⟨w.heap.size + 1, 2, none⟩ = some (.int .i64 y))
        (first | exact unhide HK _ (Below.refl _ _).drew | exact unhide HK _ (by assumption))
        (first | (go_at_call_of 30 (Value.agg #[.bool na, .slice ao A.length ca, .int .i64 x]); refine (unhide CSA _).mono ?_; rintro e wn ⟨rfl, hb1⟩; have hBn : Below W0.heap.size W0 wn := Below.trans (And.left (by assumption)) (hb1.mono (Below.size (And.left (by assumption)))); clear hb1) | (go_at_call_of 30 (Value.agg #[.bool nb, .slice bo B.length cb, .int .i64 y]); refine (unhide CSB _).mono ?_; rintro e wn ⟨rfl, hb1⟩; have hBn : Below W0.heap.size W0 wn := Below.trans (And.left (by assumption)) (hb1.mono (Below.size (And.left (by assumption)))); clear hb1))
      go_wp2_with fail
      have hn : Below W0.heap.size W0 wn := And.left (by assumption)
      have b9 := (unhide BB).trans (hn.mono (unhide BB).size); have x9 := (unhide X0).all hn; have y9 := (unhide X1).all hn
      clear HK HA HB BB X0 X1 hn
      have B0 := hide b9; have X0 := hide x9; have X1 := hide y9
      clear b9 x9 y9
      refine at_world (fun W => Below w.heap.size w W ∧ Box3 W w.heap.size (.bool na) (.slice ao A.length ca) (.int .i64 x) ∧ Box3 W (w.heap.size + 1) (.bool nb) (.slice bo B.length cb) (.int .i64 y)) ⟨unhide B0, unhide X0, unhide X1⟩ ?_
      clear B0 X0 X1
      rintro W0 ⟨b0, x0, x1⟩
      have hK : ∀ w', Below W0.heap.size W0 w' → Below W0.heap.size W0 w' ∧ w'.cell? ⟨w.heap.size, 0, none⟩ = some (.bool na) ∧ w'.cell? ⟨w.heap.size, 1, none⟩ = some (.slice ao A.length ca) ∧ w'.cell? ⟨w.heap.size, 2, none⟩ = some (.int .i64 x) ∧ w'.cell? ⟨w.heap.size + 1, 0, none⟩ = some (.bool nb) ∧ w'.cell? ⟨w.heap.size + 1, 1, none⟩ = some (.slice bo B.length cb) ∧ w'.cell? ⟨w.heap.size + 1, 2, none⟩ = some (.int .i64 y) := fun w' h =>
        ⟨h, (x0.all h).c0, (x0.all h).c1, (x0.all h).c2, (x1.all h).c0, (x1.all h).c1, (x1.all h).c2⟩
      have HK := hide hK
      have HA := hide (hA.below b0); have HB := hide (hB.below b0); have BB := hide b0; have X0 := hide x0; have X1 := hide x1
      clear hK b0 x0 x1
      go_region_held3 (fun w' => Below W0.heap.size W0 w' ∧ w'.cell? ⟨w.heap.size, 0, none⟩ = some (.bool na) ∧ w'.cell? ⟨w.heap.size, 1, none⟩ = some (.slice ao A.length ca) ∧ w'.cell? ⟨w.heap.size, 2, none⟩ = some (.int .i64 x) ∧ w'.cell? ⟨w.heap.size + 1, 0, none⟩ = some (.bool nb) ∧ w'.cell? ⟨w.heap.size + 1, 1, none⟩ = some (.slice bo B.length cb) ∧ w'.cell? ⟨w.heap.size + 1, 2, none⟩ = some (.int .i64 y))
        (first | exact unhide HK _ (Below.refl _ _).drew | exact unhide HK _ (by assumption))
        (first | (go_at_call_of 30 (Value.agg #[.bool na, .slice ao A.length ca, .int .i64 x]); refine (unhide CSA _).mono ?_; rintro e wn ⟨rfl, hb1⟩; have hBn : Below W0.heap.size W0 wn := Below.trans (And.left (by assumption)) (hb1.mono (Below.size (And.left (by assumption)))); clear hb1) | (go_at_call_of 30 (Value.agg #[.bool nb, .slice bo B.length cb, .int .i64 y]); refine (unhide CSB _).mono ?_; rintro e wn ⟨rfl, hb1⟩; have hBn : Below W0.heap.size W0 wn := Below.trans (And.left (by assumption)) (hb1.mono (Below.size (And.left (by assumption)))); clear hb1))
      go_wp2
      go_ret
      exact ⟨rfl, (unhide BB).trans (Below.mono (And.left (by assumption)) (unhide BB).size)⟩
  · subst hsame
    have HCV := hide hcv
    clear WAYS CSUB HZ H3A H3B hcc hcv
    rcases hs with rfl | rfl
    all_goals
      rcases hc with ⟨rfl, ht⟩ | ⟨rfl, ht⟩
    all_goals
      have hcv := unhide HCV
      simp only [show (1 : Int) * 1 = 1 by decide, show (1 : Int) * -1 = -1 by decide, show (-1 : Int) * 1 = -1 by decide, show (-1 : Int) * -1 = 1 by decide] at hcv
      subst hcv
      have hne : (ta != tb) = true := by rw [bne_iff_ne]; omega
      first | (have g : decide (tb < ta) = true := decide_eq_true (by omega)) | (have g : decide (tb < ta) = false := decide_eq_false (by omega))
      clear HCV
      go_enter Tryd.func31, Tryd.ntmps31
      go_wp2_with fail
      refine at_world (fun W => Below w.heap.size w W ∧ Box3 W w.heap.size (.bool na) (.slice ao A.length ca) (.int .i64 x) ∧ Box3 W (w.heap.size + 1) (.bool nb) (.slice bo B.length cb) (.int .i64 y)) ⟨unhide B0, unhide X0, unhide X1⟩ ?_
      clear B0 X0 X1
      rintro W0 ⟨b0, x0, x1⟩
      have hK : ∀ w', Below W0.heap.size W0 w' → Below W0.heap.size W0 w' ∧ w'.cell? ⟨w.heap.size, 0, none⟩ = some (.bool na) ∧ w'.cell? ⟨w.heap.size, 1, none⟩ = some (.slice ao A.length ca) ∧ w'.cell? ⟨w.heap.size, 2, none⟩ = some (.int .i64 x) ∧ w'.cell? ⟨w.heap.size + 1, 0, none⟩ = some (.bool nb) ∧ w'.cell? ⟨w.heap.size + 1, 1, none⟩ = some (.slice bo B.length cb) ∧ w'.cell? ⟨w.heap.size + 1, 2, none⟩ = some (.int .i64 y) := fun w' h =>
        ⟨h, (x0.all h).c0, (x0.all h).c1, (x0.all h).c2, (x1.all h).c0, (x1.all h).c1, (x1.all h).c2⟩
      have HK := hide hK
      have HA := hide (hA.below b0); have HB := hide (hB.below b0); have BB := hide b0; have X0 := hide x0; have X1 := hide x1
      clear hK b0 x0 x1
      go_region_held3 (fun w' => Below W0.heap.size W0 w' ∧ w'.cell? ⟨w.heap.size, 0, none⟩ = some (.bool na) ∧ w'.cell? ⟨w.heap.size, 1, none⟩ = some (.slice ao A.length ca) ∧ w'.cell? ⟨w.heap.size, 2, none⟩ = some (.int .i64 x) ∧ w'.cell? ⟨w.heap.size + 1, 0, none⟩ = some (.bool nb) ∧ w'.cell? ⟨w.heap.size + 1, 1, none⟩ = some (.slice bo B.length cb) ∧ w'.cell? ⟨w.heap.size + 1, 2, none⟩ = some (.int .i64 y))
        (first | exact unhide HK _ (Below.refl _ _).drew | exact unhide HK _ (by assumption))
        (first | (go_at_call_of 30 (Value.agg #[.bool na, .slice ao A.length ca, .int .i64 x]); refine (unhide CSA _).mono ?_; rintro e wn ⟨rfl, hb1⟩; have hBn : Below W0.heap.size W0 wn := Below.trans (And.left (by assumption)) (hb1.mono (Below.size (And.left (by assumption)))); clear hb1) | (go_at_call_of 30 (Value.agg #[.bool nb, .slice bo B.length cb, .int .i64 y]); refine (unhide CSB _).mono ?_; rintro e wn ⟨rfl, hb1⟩; have hBn : Below W0.heap.size W0 wn := Below.trans (And.left (by assumption)) (hb1.mono (Below.size (And.left (by assumption)))); clear hb1))
      go_wp2_with fail
      have hn : Below W0.heap.size W0 wn := And.left (by assumption)
      have b9 := (unhide BB).trans (hn.mono (unhide BB).size); have x9 := (unhide X0).all hn; have y9 := (unhide X1).all hn
      clear HK HA HB BB X0 X1 hn
      have B0 := hide b9; have X0 := hide x9; have X1 := hide y9
      clear b9 x9 y9
      refine at_world (fun W => Below w.heap.size w W ∧ Box3 W w.heap.size (.bool na) (.slice ao A.length ca) (.int .i64 x) ∧ Box3 W (w.heap.size + 1) (.bool nb) (.slice bo B.length cb) (.int .i64 y)) ⟨unhide B0, unhide X0, unhide X1⟩ ?_
      clear B0 X0 X1
      rintro W0 ⟨b0, x0, x1⟩
      have hK : ∀ w', Below W0.heap.size W0 w' → Below W0.heap.size W0 w' ∧ w'.cell? ⟨w.heap.size, 0, none⟩ = some (.bool na) ∧ w'.cell? ⟨w.heap.size, 1, none⟩ = some (.slice ao A.length ca) ∧ w'.cell? ⟨w.heap.size, 2, none⟩ = some (.int .i64 x) ∧ w'.cell? ⟨w.heap.size + 1, 0, none⟩ = some (.bool nb) ∧ w'.cell? ⟨w.heap.size + 1, 1, none⟩ = some (.slice bo B.length cb) ∧ w'.cell? ⟨w.heap.size + 1, 2, none⟩ = some (.int .i64 y) := fun w' h =>
        ⟨h, (x0.all h).c0, (x0.all h).c1, (x0.all h).c2, (x1.all h).c0, (x1.all h).c1, (x1.all h).c2⟩
      have HK := hide hK
      have HA := hide (hA.below b0); have HB := hide (hB.below b0); have BB := hide b0; have X0 := hide x0; have X1 := hide x1
      clear hK b0 x0 x1
      go_region_held3 (fun w' => Below W0.heap.size W0 w' ∧ w'.cell? ⟨w.heap.size, 0, none⟩ = some (.bool na) ∧ w'.cell? ⟨w.heap.size, 1, none⟩ = some (.slice ao A.length ca) ∧ w'.cell? ⟨w.heap.size, 2, none⟩ = some (.int .i64 x) ∧ w'.cell? ⟨w.heap.size + 1, 0, none⟩ = some (.bool nb) ∧ w'.cell? ⟨w.heap.size + 1, 1, none⟩ = some (.slice bo B.length cb) ∧ w'.cell? ⟨w.heap.size + 1, 2, none⟩ = some (.int .i64 y))
        (first | exact unhide HK _ (Below.refl _ _).drew | exact unhide HK _ (by assumption))
        (first | (go_at_call_of 12 (Value.agg #[.bool na, .slice ao A.length ca, .int .i64 x]); refine (unhide CTA _ ((unhide HA).below (And.left (by assumption)))).mono ?_; rintro e wn ⟨rfl, hb1⟩; have hBn : Below W0.heap.size W0 wn := Below.trans (And.left (by assumption)) (hb1.mono (Below.size (And.left (by assumption)))); clear hb1) | (go_at_call_of 12 (Value.agg #[.bool nb, .slice bo B.length cb, .int .i64 y]); refine (unhide CTB _ ((unhide HB).below (And.left (by assumption)))).mono ?_; rintro e wn ⟨rfl, hb1⟩; have hBn : Below W0.heap.size W0 wn := Below.trans (And.left (by assumption)) (hb1.mono (Below.size (And.left (by assumption)))); clear hb1))
      go_wp2_with fail
      have hn : Below W0.heap.size W0 wn := And.left (by assumption)
      have b9 := (unhide BB).trans (hn.mono (unhide BB).size); have x9 := (unhide X0).all hn; have y9 := (unhide X1).all hn
      clear HK HA HB BB X0 X1 hn
      have B0 := hide b9; have X0 := hide x9; have X1 := hide y9
      clear b9 x9 y9
      refine at_world (fun W => Below w.heap.size w W ∧ Box3 W w.heap.size (.bool na) (.slice ao A.length ca) (.int .i64 x) ∧ Box3 W (w.heap.size + 1) (.bool nb) (.slice bo B.length cb) (.int .i64 y)) ⟨unhide B0, unhide X0, unhide X1⟩ ?_
      clear B0 X0 X1
      rintro W0 ⟨b0, x0, x1⟩
      have hK : ∀ w', Below W0.heap.size W0 w' → Below W0.heap.size W0 w' ∧ w'.cell? ⟨w.heap.size, 0, none⟩ = some (.bool na) ∧ w'.cell? ⟨w.heap.size, 1, none⟩ = some (.slice ao A.length ca) ∧ w'.cell? ⟨w.heap.size, 2, none⟩ = some (.int .i64 x) ∧ w'.cell? ⟨w.heap.size + 1, 0, none⟩ = some (.bool nb) ∧ w'.cell? ⟨w.heap.size + 1, 1, none⟩ = some (.slice bo B.length cb) ∧ w'.cell? ⟨w.heap.size + 1, 2, none⟩ = some (.int .i64 y) := fun w' h =>
        ⟨h, (x0.all h).c0, (x0.all h).c1, (x0.all h).c2, (x1.all h).c0, (x1.all h).c1, (x1.all h).c2⟩
      have HK := hide hK
      have HA := hide (hA.below b0); have HB := hide (hB.below b0); have BB := hide b0; have X0 := hide x0; have X1 := hide x1
      clear hK b0 x0 x1
      go_region_held3 (fun w' => Below W0.heap.size W0 w' ∧ w'.cell? ⟨w.heap.size, 0, none⟩ = some (.bool na) ∧ w'.cell? ⟨w.heap.size, 1, none⟩ = some (.slice ao A.length ca) ∧ w'.cell? ⟨w.heap.size, 2, none⟩ = some (.int .i64 x) ∧ w'.cell? ⟨w.heap.size + 1, 0, none⟩ = some (.bool nb) ∧ w'.cell? ⟨w.heap.size + 1, 1, none⟩ = some (.slice bo B.length cb) ∧ w'.cell? ⟨w.heap.size + 1, 2, none⟩ = some (.int .i64 y))
        (first | exact unhide HK _ (Below.refl _ _).drew | exact unhide HK _ (by assumption))
        (first | (go_at_call_of 12 (Value.agg #[.bool na, .slice ao A.length ca, .int .i64 x]); refine (unhide CTA _ ((unhide HA).below (And.left (by assumption)))).mono ?_; rintro e wn ⟨rfl, hb1⟩; have hBn : Below W0.heap.size W0 wn := Below.trans (And.left (by assumption)) (hb1.mono (Below.size (And.left (by assumption)))); clear hb1) | (go_at_call_of 12 (Value.agg #[.bool nb, .slice bo B.length cb, .int .i64 y]); refine (unhide CTB _ ((unhide HB).below (And.left (by assumption)))).mono ?_; rintro e wn ⟨rfl, hb1⟩; have hBn : Below W0.heap.size W0 wn := Below.trans (And.left (by assumption)) (hb1.mono (Below.size (And.left (by assumption)))); clear hb1) | (go_at_call_of 30 (Value.agg #[.bool na, .slice ao A.length ca, .int .i64 x]); refine (unhide CSA _).mono ?_; rintro e wn ⟨rfl, hb1⟩; have hBn : Below W0.heap.size W0 wn := Below.trans (And.left (by assumption)) (hb1.mono (Below.size (And.left (by assumption)))); clear hb1) | (go_at_call_of 30 (Value.agg #[.bool nb, .slice bo B.length cb, .int .i64 y]); refine (unhide CSB _).mono ?_; rintro e wn ⟨rfl, hb1⟩; have hBn : Below W0.heap.size W0 wn := Below.trans (And.left (by assumption)) (hb1.mono (Below.size (And.left (by assumption)))); clear hb1))
      go_wp2
      go_ret
      exact ⟨rfl, (unhide BB).trans (Below.mono (And.left (by assumption)) (unhide BB).size)⟩
  · subst hsame
    subst htt
    have hz := unhide HZ hlow
    rw [hcv] at hz
    have HZZ := hide hz
    have CSUB' := hide (unhide CSUB hlow h1 h2)
    have CSUB := CSUB'
    clear WAYS H3A H3B HZ hlow h1 h2 hcv hz CSUB'
    go_enter Tryd.func31, Tryd.ntmps31
    go_wp2_with fail
    refine at_world (fun W => Below w.heap.size w W ∧ Box3 W w.heap.size (.bool na) (.slice ao A.length ca) (.int .i64 x) ∧ Box3 W (w.heap.size + 1) (.bool nb) (.slice bo B.length cb) (.int .i64 y)) ⟨unhide B0, unhide X0, unhide X1⟩ ?_
    clear B0 X0 X1
    rintro W0 ⟨b0, x0, x1⟩
    have hK : ∀ w', Below W0.heap.size W0 w' → Below W0.heap.size W0 w' ∧ w'.cell? ⟨w.heap.size, 0, none⟩ = some (.bool na) ∧ w'.cell? ⟨w.heap.size, 1, none⟩ = some (.slice ao A.length ca) ∧ w'.cell? ⟨w.heap.size, 2, none⟩ = some (.int .i64 x) ∧ w'.cell? ⟨w.heap.size + 1, 0, none⟩ = some (.bool nb) ∧ w'.cell? ⟨w.heap.size + 1, 1, none⟩ = some (.slice bo B.length cb) ∧ w'.cell? ⟨w.heap.size + 1, 2, none⟩ = some (.int .i64 y) := fun w' h =>
      ⟨h, (x0.all h).c0, (x0.all h).c1, (x0.all h).c2, (x1.all h).c0, (x1.all h).c1, (x1.all h).c2⟩
    have HK := hide hK
    have HA := hide (hA.below b0); have HB := hide (hB.below b0); have BB := hide b0; have X0 := hide x0; have X1 := hide x1
    clear hK b0 x0 x1
    go_region_held3 (fun w' => Below W0.heap.size W0 w' ∧ w'.cell? ⟨w.heap.size, 0, none⟩ = some (.bool na) ∧ w'.cell? ⟨w.heap.size, 1, none⟩ = some (.slice ao A.length ca) ∧ w'.cell? ⟨w.heap.size, 2, none⟩ = some (.int .i64 x) ∧ w'.cell? ⟨w.heap.size + 1, 0, none⟩ = some (.bool nb) ∧ w'.cell? ⟨w.heap.size + 1, 1, none⟩ = some (.slice bo B.length cb) ∧ w'.cell? ⟨w.heap.size + 1, 2, none⟩ = some (.int .i64 y))
      (first | exact unhide HK _ (Below.refl _ _).drew | exact unhide HK _ (by assumption))
      (first | (go_at_call_of 30 (Value.agg #[.bool na, .slice ao A.length ca, .int .i64 x]); refine (unhide CSA _).mono ?_; rintro e wn ⟨rfl, hb1⟩; have hBn : Below W0.heap.size W0 wn := Below.trans (And.left (by assumption)) (hb1.mono (Below.size (And.left (by assumption)))); clear hb1) | (go_at_call_of 30 (Value.agg #[.bool nb, .slice bo B.length cb, .int .i64 y]); refine (unhide CSB _).mono ?_; rintro e wn ⟨rfl, hb1⟩; have hBn : Below W0.heap.size W0 wn := Below.trans (And.left (by assumption)) (hb1.mono (Below.size (And.left (by assumption)))); clear hb1))
    go_wp2_with fail
    have hn : Below W0.heap.size W0 wn := And.left (by assumption)
    have b9 := (unhide BB).trans (hn.mono (unhide BB).size); have x9 := (unhide X0).all hn; have y9 := (unhide X1).all hn
    clear HK HA HB BB X0 X1 hn
    have B0 := hide b9; have X0 := hide x9; have X1 := hide y9
    clear b9 x9 y9
    refine at_world (fun W => Below w.heap.size w W ∧ Box3 W w.heap.size (.bool na) (.slice ao A.length ca) (.int .i64 x) ∧ Box3 W (w.heap.size + 1) (.bool nb) (.slice bo B.length cb) (.int .i64 y)) ⟨unhide B0, unhide X0, unhide X1⟩ ?_
    clear B0 X0 X1
    rintro W0 ⟨b0, x0, x1⟩
    have hK : ∀ w', Below W0.heap.size W0 w' → Below W0.heap.size W0 w' ∧ w'.cell? ⟨w.heap.size, 0, none⟩ = some (.bool na) ∧ w'.cell? ⟨w.heap.size, 1, none⟩ = some (.slice ao A.length ca) ∧ w'.cell? ⟨w.heap.size, 2, none⟩ = some (.int .i64 x) ∧ w'.cell? ⟨w.heap.size + 1, 0, none⟩ = some (.bool nb) ∧ w'.cell? ⟨w.heap.size + 1, 1, none⟩ = some (.slice bo B.length cb) ∧ w'.cell? ⟨w.heap.size + 1, 2, none⟩ = some (.int .i64 y) := fun w' h =>
      ⟨h, (x0.all h).c0, (x0.all h).c1, (x0.all h).c2, (x1.all h).c0, (x1.all h).c1, (x1.all h).c2⟩
    have HK := hide hK
    have HA := hide (hA.below b0); have HB := hide (hB.below b0); have BB := hide b0; have X0 := hide x0; have X1 := hide x1
    clear hK b0 x0 x1
    go_region_held3 (fun w' => Below W0.heap.size W0 w' ∧ w'.cell? ⟨w.heap.size, 0, none⟩ = some (.bool na) ∧ w'.cell? ⟨w.heap.size, 1, none⟩ = some (.slice ao A.length ca) ∧ w'.cell? ⟨w.heap.size, 2, none⟩ = some (.int .i64 x) ∧ w'.cell? ⟨w.heap.size + 1, 0, none⟩ = some (.bool nb) ∧ w'.cell? ⟨w.heap.size + 1, 1, none⟩ = some (.slice bo B.length cb) ∧ w'.cell? ⟨w.heap.size + 1, 2, none⟩ = some (.int .i64 y))
      (first | exact unhide HK _ (Below.refl _ _).drew | exact unhide HK _ (by assumption))
      (first | (go_at_call_of 12 (Value.agg #[.bool na, .slice ao A.length ca, .int .i64 x]); refine (unhide CTA _ ((unhide HA).below (And.left (by assumption)))).mono ?_; rintro e wn ⟨rfl, hb1⟩; have hBn : Below W0.heap.size W0 wn := Below.trans (And.left (by assumption)) (hb1.mono (Below.size (And.left (by assumption)))); clear hb1) | (go_at_call_of 12 (Value.agg #[.bool nb, .slice bo B.length cb, .int .i64 y]); refine (unhide CTB _ ((unhide HB).below (And.left (by assumption)))).mono ?_; rintro e wn ⟨rfl, hb1⟩; have hBn : Below W0.heap.size W0 wn := Below.trans (And.left (by assumption)) (hb1.mono (Below.size (And.left (by assumption)))); clear hb1))
    go_wp2_with fail
    have hn : Below W0.heap.size W0 wn := And.left (by assumption)
    have b9 := (unhide BB).trans (hn.mono (unhide BB).size); have x9 := (unhide X0).all hn; have y9 := (unhide X1).all hn
    clear HK HA HB BB X0 X1 hn
    have B0 := hide b9; have X0 := hide x9; have X1 := hide y9
    clear b9 x9 y9
    refine (unhide CSUB _ (hA.below (unhide B0)) (hB.below (unhide B0))).mono ?_
    rintro r w5 ⟨u, rfl, iu, hb1⟩
    obtain ⟨n5, a5, c5, L5, rfl, q1, q2, q3, q4, q5⟩ := iu.parts
    have hs5 := rsgn_dy q2 q3 q4
    rw [unhide HZZ] at hs5
    have CS5 := hide (fun w' => rsign_any n5 a5 c5 L5.length oe w')
    rw [hs5] at CS5
    have B1 := hide ((unhide B0).trans (hb1.mono (unhide B0).size))
    clear q1 q2 q3 q4 q5 iu hb1 hs5
    go_wp2_with (go_at_call 30; refine (unhide CS5 _).mono ?_; rintro r w6 ⟨rfl, hb1⟩)
    go_ret
    exact ⟨rfl, (unhide B1).trans (hb1.mono (unhide B1).size)⟩

end Go.Proofs.YtinlddkdkgepjaaDoor

/- The law DyadicOrders, walked. -/
namespace Go.Proofs.YtinlddkdkgepjaaDoor
open Go.RowKit
attribute [local go_sem ↓] Go.wp_at_zero Go.wp_at_succ

theorem lowE_swap (sa x sb y : Int) (zx : sa = 0 → x = 0) (zy : sb = 0 → y = 0) : lowE sb y sa x = lowE sa x sb y := by
  unfold lowE
  by_cases h1 : sa = 0
  · by_cases h2 : sb = 0
    · rw [if_pos h2, if_pos h1, zx h1, zy h2]
    · rw [if_pos h1, if_neg h2, if_pos h1]
  · by_cases h2 : sb = 0
    · rw [if_pos h2, if_neg h1, if_pos h2]
    · rw [if_neg h1, if_neg h2, if_neg h1, if_neg h2]; omega

theorem cmpV_swap (sa x sb y : Int) (zx : sa = 0 → x = 0) (zy : sb = 0 → y = 0) : cmpV sb y sa x = - cmpV sa x sb y := by
  unfold cmpV
  rw [lowE_swap sa x sb y zx zy, cmpI_swap]

theorem cmpV_three (sa x sb y : Int) : cmpV sa x sb y = -1 ∨ cmpV sa x sb y = 0 ∨ cmpV sa x sb y = 1 := by
  unfold cmpV cmpI
  split
  · exact .inl rfl
  · split
    · exact .inr (.inr rfl)
    · exact .inr (.inl rfl)

theorem ad_two (sa x sb y : Int) : (adE sa x sb y = 0 ∧ sgnI (adM sa x sb y) = sgnI (sumZ sa x sb y)) ∨ adE sa x sb y = 2 := by
  unfold adE adM
  cases fitsB sa x sb y
  · exact .inr rfl
  · simp only [if_true]
    unfold dErr dM
    cases dOk (sumZ sa x sb y) (lowE sa x sb y)
    · exact .inr rfl
    · exact .inl ⟨rfl, sgnI_oM _⟩

theorem sub_sign (sa x sb y : Int) : sgnI (sumZ sa x (-sb) y) = cmpV sa x sb y := by
  unfold cmpV sumZ
  rw [cmpI_sgn, lowE_neg, up_neg, Int.sub_eq_add_neg]

/-- The ways of comparing two numbers. -/
theorem orders_ways (na nb : Bool) (ao bo : Option Addr) (ca cb : Nat) (A B : List Nat) (x y : Int) (la : A.length ≤ 30) (lb : B.length ≤ 30) : ∃ n e f0 : Int,
    (∀ w, LimbsAt w ao ca A → LimbsAt w bo cb B → Tab w → Calls Tryd.prog 29 #[.agg #[.bool na, .slice ao A.length ca, .int .i64 x], .agg #[.bool nb, .slice bo B.length cb, .int .i64 y]] w fun r w' => r = .returned (.tuple #[.int .i64 n, .int .i64 e]) ∧ Below w.heap.size w w') ∧
    (∀ w, LimbsAt w ao ca A → LimbsAt w bo cb B → Calls Tryd.prog 21 #[.agg #[.bool na, .slice ao A.length ca, .int .i64 x], .agg #[.bool nb, .slice bo B.length cb, .int .i64 y]] w fun r w' => r = .returned (.int .i64 f0) ∧ Below w.heap.size w w') ∧
    ((f0 = 1 ∧ n = 0 ∧ e = 1) ∨
     (f0 = 0 ∧ e = 0 ∧ (n = -1 ∨ n = 0 ∨ n = 1) ∧ ∃ m g dm dx : Int, ∃ sm : Bool, m = -n ∧ ((g = 0 ∧ sgnI dm = n) ∨ g = 2) ∧ (sm = decide (n = 0)) ∧
      (∀ w, LimbsAt w ao ca A → LimbsAt w bo cb B → Tab w → Calls Tryd.prog 29 #[.agg #[.bool nb, .slice bo B.length cb, .int .i64 y], .agg #[.bool na, .slice ao A.length ca, .int .i64 x]] w fun r w' => r = .returned (.tuple #[.int .i64 m, .int .i64 0]) ∧ Below w.heap.size w w') ∧
      (∀ w, LimbsAt w ao ca A → LimbsAt w bo cb B → Tab w → Calls Tryd.prog 20 #[.agg #[.bool na, .slice ao A.length ca, .int .i64 x], .agg #[.bool nb, .slice bo B.length cb, .int .i64 y]] w fun r w' => DyR w' r g dm dx ∧ Below w.heap.size w w') ∧
      (∀ w, LimbsAt w ao ca A → LimbsAt w bo cb B → Calls Tryd.prog 31 #[.agg #[.bool na, .slice ao A.length ca, .int .i64 x], .agg #[.bool nb, .slice bo B.length cb, .int .i64 y]] w fun r w' => r = .returned (.int .i64 n) ∧ Below w.heap.size w w') ∧
      (∀ w, LimbsAt w ao ca A → LimbsAt w bo cb B → Calls Tryd.prog 32 #[.agg #[.bool na, .slice ao A.length ca, .int .i64 x], .agg #[.bool nb, .slice bo B.length cb, .int .i64 y]] w fun r w' => r = .returned (.bool sm) ∧ Below w.heap.size w w'))) := by
  by_cases hr : (drB na A x && drB nb B y) = true
  · have hr' := hr
    rw [Bool.and_eq_true] at hr
    obtain ⟨hra, hrb⟩ := hr
    obtain ⟨ra, _, a1, a2, zx⟩ := drB_bounds hra
    obtain ⟨rb, _, b1, b2, zy⟩ := drB_bounds hrb
    refine ⟨_, 0, 0, fun w h h' t => dcompare_right na nb ao bo ca cb A B x y w h h' hra hrb t, fun w h h' => ?_, .inr ⟨rfl, rfl, cmpV_three _ _ _ _, _, _, _, _, _, cmpV_swap _ _ _ _ (fun e => zx ((sval_zero_iff ra).1 e)) (fun e => zy ((sval_zero_iff rb).1 e)), ?_, ?_, fun w h h' t => dcompare_right nb na bo ao cb ca B A y x w h' h hrb hra t, fun w h h' t => dsub_right na nb ao bo ca cb A B x y w h h' hra hrb t, fun w h h' => rcompare_any na nb ao bo ca cb A B x y w h h' hra hrb, fun w h h' => dsame_dy (IsDy.ofRight h ra) (IsDy.ofRight h' rb)⟩⟩
    · have := form2_any na nb ao bo ca cb A B x y w h h' (by omega) (by omega)
      unfold drE2 at this
      rw [hr'] at this
      exact this
    · rcases ad_two (sval na A) x (- sval nb B) y with ⟨h1, h2⟩ | h1
      · exact .inl ⟨h1, by rw [h2, sub_sign]⟩
      · exact .inr h1
    · rw [decide_eq_decide, cmpV_zero hra hrb]
  · have hr' : (drB na A x && drB nb B y) = false := by simpa using hr
    refine ⟨0, 1, 1, fun w h h' t => dcompare_wrong na nb ao bo ca cb A B x y w h h' (by omega) (by omega) hr' t, fun w h h' => ?_, .inl ⟨rfl, rfl, rfl⟩⟩
    have := form2_any na nb ao bo ca cb A B x y w h h' (by omega) (by omega)
    unfold drE2 at this
    rw [hr'] at this
    exact this

set_option maxHeartbeats 4000000 in
theorem dorders_walk (na nb : Bool) (ao bo : Option Addr) (ca cb : Nat) (A B : List Nat) (x y : Int) (w : World) (hA : LimbsAt w ao ca A) (hB : LimbsAt w bo cb B) (_la : A.length ≤ 35184372087808) (_lb : B.length ≤ 35184372087808) (_bx : -9223372036854775808 ≤ x ∧ x ≤ 9223372036854775807) (_by : -9223372036854775808 ≤ y ∧ y ≤ 9223372036854775807) (hT : Tab w) :
    Calls Tryd.prog 7 #[.agg #[.bool na, .slice ao A.length ca, .int .i64 x], .agg #[.bool nb, .slice bo B.length cb, .int .i64 y]] w fun e w' => e = .returned (.bool true) ∧ Below w.heap.size w w' := by
  have CL := hide (fun w' => light2_any na nb ao bo ca cb A.length B.length x y w')
  have hb0 : Below w.heap.size w ((w.alloc (.cells #[.bool na, .slice ao A.length ca, .int .i64 x] 26)).alloc (.cells #[.bool nb, .slice bo B.length cb, .int .i64 y] 26)) := ((Below.refl _ _).alloc (Nat.le_refl _) _).alloc (by simp) _
  have x0 : Box3 ((w.alloc (.cells #[.bool na, .slice ao A.length ca, .int .i64 x] 26)).alloc (.cells #[.bool nb, .slice bo B.length cb, .int .i64 y] 26)) w.heap.size (.bool na) (.slice ao A.length ca) (.int .i64 x) := (Box3.new _ _ _ _).old _
  have x1 : Box3 ((w.alloc (.cells #[.bool na, .slice ao A.length ca, .int .i64 x] 26)).alloc (.cells #[.bool nb, .slice bo B.length cb, .int .i64 y] 26)) (w.heap.size + 1) (.bool nb) (.slice bo B.length cb) (.int .i64 y) := by
    have := Box3.new (w.alloc (.cells #[.bool na, .slice ao A.length ca, .int .i64 x] 26)) (.bool nb) (.slice bo B.length cb) (.int .i64 y)
    simpa using this
  have B0 := hide hb0; have X0 := hide x0; have X1 := hide x1
  clear hb0 x0 x1
  by_cases hl : A.length ≤ 30 ∧ B.length ≤ 30
  case neg =>
    rw [decide_eq_false hl] at CL
    clear hl
    go_enter Tryd.func7, Tryd.ntmps7
    go_wp2_with fail
    refine (unhide CL _).mono ?_
    rintro e w1 ⟨rfl, hb1⟩
    have B1 := hide ((unhide B0).trans (hb1.mono (unhide B0).size))
    clear hb1
    go_wp2_with (go_at_call 13; refine (awake2_any _ (hT.all (unhide B1))).mono ?_; rintro e w4 ⟨rfl, hb2⟩)
    go_ret
    exact ⟨rfl, (unhide B1).trans (hb2.mono (unhide B1).size)⟩
  rw [decide_eq_true hl] at CL
  obtain ⟨n, e0, f0, cC, cF, ways⟩ := orders_ways na nb ao bo ca cb A B x y hl.1 hl.2
  have CC := hide cC; have CF := hide cF; have WAYS := hide ways
  clear cC cF ways hl _la _lb _bx _by
  go_enter Tryd.func7, Tryd.ntmps7
  go_wp2_with fail
  -- light(a, b)
  refine (unhide CL _).mono ?_
  rintro e w1 ⟨rfl, hb1⟩
  have y0 := (unhide X0).all hb1; have y1 := (unhide X1).all hb1
  have b1 := (unhide B0).trans (hb1.mono (unhide B0).size)
  have p0 := y0.c0; have p1 := y0.c1; have p2 := y0.c2
  have q0 := y1.c0; have q1 := y1.c1; have q2 := y1.c2
  have X0' := hide y0; have X1' := hide y1; have B1 := hide b1
  clear hb1 y0 y1 b1 X0 X1 B0 CL
  go_wp2_with fail
  -- n, e := Compare(a, b)
  refine (unhide CC _ (hA.below (unhide B1)) (hB.below (unhide B1)) (hT.all (unhide B1))).mono ?_
  rintro r w2 ⟨rfl, hb1⟩
  have y0 := (unhide X0').all hb1; have y1 := (unhide X1').all hb1
  have b1 := (unhide B1).trans (hb1.mono (unhide B1).size)
  clear p0 p1 p2 q0 q1 q2 X0' X1' B1 hb1
  have p0 := y0.c0; have p1 := y0.c1; have p2 := y0.c2
  have q0 := y1.c0; have q1 := y1.c1; have q2 := y1.c2
  have X0' := hide y0; have X1' := hide y1; have B1 := hide b1
  clear y0 y1 b1
  clear CC
  go_wp2_with fail
  -- form(a, b)
  refine (unhide CF _ (hA.below (unhide B1)) (hB.below (unhide B1))).mono ?_
  rintro r w3 ⟨rfl, hb1⟩
  have y0 := (unhide X0').all hb1; have y1 := (unhide X1').all hb1
  have b1 := (unhide B1).trans (hb1.mono (unhide B1).size)
  clear p0 p1 p2 q0 q1 q2 X0' X1' B1 hb1
  have p0 := y0.c0; have p1 := y0.c1; have p2 := y0.c2
  have q0 := y1.c0; have q1 := y1.c1; have q2 := y1.c2
  have X0' := hide y0; have X1' := hide y1; have B1 := hide b1
  clear y0 y1 b1
  clear CF
  rcases unhide WAYS with ⟨rfl, rfl, rfl⟩ | ⟨rfl, rfl, hn3, m, g, dm, dx, sm, hm, hg, hsm, cCB, cS, cRC, cSM⟩
  · clear WAYS X0' X1'
    go_wp2_with (go_at_call 13; refine (awake2_any _ (hT.all (unhide B1))).mono ?_; rintro e w4 ⟨rfl, hb2⟩)
    go_ret
    exact ⟨rfl, (unhide B1).trans (hb2.mono (unhide B1).size)⟩
  have CCB := hide cCB; have CS := hide cS; have CRC := hide cRC; have CSM := hide cSM; have HG := hide hg; have HM := hide hm; have HSM := hide hsm; have HN3 := hide hn3
  clear WAYS cCB cS cRC cSM hg hm hsm hn3
  go_wp2_with fail
  -- m, f := Compare(b, a)
  refine (unhide CCB _ (hA.below (unhide B1)) (hB.below (unhide B1)) (hT.all (unhide B1))).mono ?_
  rintro r w4 ⟨rfl, hb1⟩
  have y0 := (unhide X0').all hb1; have y1 := (unhide X1').all hb1
  have b1 := (unhide B1).trans (hb1.mono (unhide B1).size)
  clear p0 p1 p2 q0 q1 q2 X0' X1' B1 hb1
  have p0 := y0.c0; have p1 := y0.c1; have p2 := y0.c2
  have q0 := y1.c0; have q1 := y1.c1; have q2 := y1.c2
  have X0' := hide y0; have X1' := hide y1; have B1 := hide b1
  clear y0 y1 b1
  clear CCB
  go_wp2_with fail
  -- d, g := Sub(a, b)
  refine (unhide CS _ (hA.below (unhide B1)) (hB.below (unhide B1)) (hT.all (unhide B1))).mono ?_
  rintro r w5 ⟨⟨v, rfl, iv⟩, hb1⟩
  obtain ⟨n4, a4, c4, L4, rfl, u1, u2, u3, u4, u5⟩ := iv.parts
  have CSG := hide (fun w' => rsign_any n4 a4 c4 L4.length dx w')
  rw [rsgn_dy u2 u3 u4] at CSG
  have bN : Below w5.heap.size w5 (w5.alloc (.cells #[.bool n4, .slice a4 L4.length c4, .int .i64 dx] 26)) := (Below.refl _ _).alloc (Nat.le_refl _) _
  have y0 := ((unhide X0').all hb1).all bN; have y1 := ((unhide X1').all hb1).all bN
  have b1 := (unhide B1).trans (hb1.mono (unhide B1).size)
  have b2 := b1.trans (bN.mono b1.size)
  have z0 := Box3.new w5 (.bool n4) (.slice a4 L4.length c4) (.int .i64 dx)
  clear p0 p1 p2 q0 q1 q2 X0' X1' B1 hb1 iv u1 u2 u3 u4 u5 bN CS b1
  have X0' := hide y0; have X1' := hide y1; have B1 := hide b2
  have q0 := z0.c0; have q1 := z0.c1; have q2 := z0.c2
  clear y0 y1 b2
  have HA := hide (hA.below (unhide B1)); have HB := hide (hB.below (unhide B1)); have HT := hide (hT.all (unhide B1))
  have hm := unhide HM
  have hsm := unhide HSM
  subst hm
  subst hsm
  rcases unhide HG with ⟨rfl, hsg⟩ | rfl
  · rw [hsg] at CSG
    rcases unhide HN3 with rfl | rfl | rfl
    all_goals
      clear HG HM HSM HN3 hsg z0
      go_wp2_with fail
      refine (unhide CSG _).mono ?_
      rintro r w6 ⟨rfl, hb1⟩
      have y0 := (unhide X0').all hb1; have y1 := (unhide X1').all hb1
      have b1 := (unhide B1).trans (hb1.mono (unhide B1).size)
      clear q0 q1 q2 X0' X1' B1 hb1 CSG HA HB HT
      have X0' := hide y0; have X1' := hide y1; have B1 := hide b1
      have p0 := y0.c0; have p1 := y0.c1; have p2 := y0.c2
      have q0 := y1.c0; have q1 := y1.c1; have q2 := y1.c2
      clear y0 y1 b1
      go_wp2_with fail
      refine (unhide CRC _ (hA.below (unhide B1)) (hB.below (unhide B1))).mono ?_
      rintro r w7 ⟨rfl, hb1⟩
      have y0 := (unhide X0').all hb1; have y1 := (unhide X1').all hb1
      have b1 := (unhide B1).trans (hb1.mono (unhide B1).size)
      clear p0 p1 p2 q0 q1 q2 X0' X1' B1 hb1
      have p0 := y0.c0; have p1 := y0.c1; have p2 := y0.c2
      have q0 := y1.c0; have q1 := y1.c1; have q2 := y1.c2
      have X0' := hide y0; have X1' := hide y1; have B1 := hide b1
      clear y0 y1 b1
      clear CRC
      go_wp2_with fail
      refine (unhide CSM _ (hA.below (unhide B1)) (hB.below (unhide B1))).mono ?_
      rintro r w8 ⟨rfl, hb1⟩
      have y0 := (unhide X0').all hb1; have y1 := (unhide X1').all hb1
      have b1 := (unhide B1).trans (hb1.mono (unhide B1).size)
      clear p0 p1 p2 q0 q1 q2 X0' X1' B1 hb1
      have p0 := y0.c0; have p1 := y0.c1; have p2 := y0.c2
      have q0 := y1.c0; have q1 := y1.c1; have q2 := y1.c2
      have X0' := hide y0; have X1' := hide y1; have B1 := hide b1
      clear y0 y1 b1
      clear CSM X0' X1'
      go_wp2_with (go_at_call 13; refine (awake2_any _ (hT.all (unhide B1))).mono ?_; rintro e w9 ⟨rfl, hb2⟩)
      go_ret
      exact ⟨rfl, (unhide B1).trans (hb2.mono (unhide B1).size)⟩
  · rcases unhide HN3 with rfl | rfl | rfl
    all_goals
      clear HG HM HSM HN3 z0 q0 q1 q2 HA HB HT CSG
      have p0 := (unhide X0').c0; have p1 := (unhide X0').c1; have p2 := (unhide X0').c2
      have q0 := (unhide X1').c0; have q1 := (unhide X1').c1; have q2 := (unhide X1').c2
      go_wp2_with fail
      refine (unhide CRC _ (hA.below (unhide B1)) (hB.below (unhide B1))).mono ?_
      rintro r w7 ⟨rfl, hb1⟩
      have y0 := (unhide X0').all hb1; have y1 := (unhide X1').all hb1
      have b1 := (unhide B1).trans (hb1.mono (unhide B1).size)
      clear p0 p1 p2 q0 q1 q2 X0' X1' B1 hb1
      have p0 := y0.c0; have p1 := y0.c1; have p2 := y0.c2
      have q0 := y1.c0; have q1 := y1.c1; have q2 := y1.c2
      have X0' := hide y0; have X1' := hide y1; have B1 := hide b1
      clear y0 y1 b1
      clear CRC
      go_wp2_with fail
      refine (unhide CSM _ (hA.below (unhide B1)) (hB.below (unhide B1))).mono ?_
      rintro r w8 ⟨rfl, hb1⟩
      have y0 := (unhide X0').all hb1; have y1 := (unhide X1').all hb1
      have b1 := (unhide B1).trans (hb1.mono (unhide B1).size)
      clear p0 p1 p2 q0 q1 q2 X0' X1' B1 hb1
      have p0 := y0.c0; have p1 := y0.c1; have p2 := y0.c2
      have q0 := y1.c0; have q1 := y1.c1; have q2 := y1.c2
      have X0' := hide y0; have X1' := hide y1; have B1 := hide b1
      clear y0 y1 b1
      clear CSM X0' X1'
      go_wp2_with (go_at_call 13; refine (awake2_any _ (hT.all (unhide B1))).mono ?_; rintro e w9 ⟨rfl, hb2⟩)
      go_ret
      exact ⟨rfl, (unhide B1).trans (hb2.mono (unhide B1).size)⟩

end Go.Proofs.YtinlddkdkgepjaaDoor

/- A struct of a sign and limbs that came in, opened. -/
namespace Go.Proofs.YtinlddkdkgepjaaDoor
open Go.ChangeShapes Go.WideShapes Go.ChangeAt Go.RowKit Go.Joins

theorem Tryd.own : ownKnob Tryd.prog.godebug = none := by kernel_rfl
theorem Tryd.laidOut : laidOutB Tryd.prog = true := by kernel_rfl
theorem Tryd.cellsW : Tryd.prog.cellsOf 24 = 2 := by kernel_rfl
theorem Tryd.cellsU : Tryd.prog.cellsOf 53 = 1 := by kernel_rfl
theorem Tryd.bytesU : Tryd.prog.bytesOf 53 = 4 := by kernel_rfl

theorem bounds_of_u32 {x : Int} (h : (Lit.int .u32 x).wf = true) : 0 ≤ x ∧ x < 4294967296 := by
  simp [Lit.wf, IntKind.min, IntKind.max, IntKind.signed, IntKind.bits] at h
  omega

theorem limbs_of_ints {W : World} {a : Addr} {len cap : Nat} {zs : List Int} (hl : len ≤ cap) (hz : zs.length = cap) (hc : ∀ i, i < zs.length → W.cell? (a.add i) = some (.int .u32 (zs.getD i 0))) (hw : ∀ n ∈ zs, (Lit.int .u32 n).wf = true) :
    LimbsAt W (some a) cap ((zs.take len).map Int.toNat) ∧ ((zs.take len).map Int.toNat).length = len := by
  have hlen : ((zs.take len).map Int.toNat).length = len := by simp; omega
  refine ⟨⟨by omega, ?_, ?_⟩, hlen⟩
  · intro x hx
    obtain ⟨y, hy, rfl⟩ := List.mem_map.1 hx
    have := bounds_of_u32 (hw y (List.mem_of_mem_take hy))
    omega
  · rcases Nat.eq_zero_or_pos len with rfl | hp
    · left; simp
    · right
      obtain ⟨b, off, spot⟩ := a
      have h0 := hc 0 (by omega)
      have hspot : spot = none := by simpa [Addr.add] using World.cell?_spot h0
      subst hspot
      have hb : b < W.heap.size := by
        have := World.block_lt_of_cell? W _ h0
        simpa [Addr.add] using this
      refine ⟨b, off, rfl, hb, fun i hi => ?_⟩
      have h1 := hc i (by omega)
      have h2 : (0 : Int) ≤ zs[i]'(by omega) := (bounds_of_u32 (hw _ (List.getElem_mem _))).1
      have h3 : (⟨b, off, none⟩ : Addr).add i = ⟨b, off + i, none⟩ := by simp [Addr.add]
      rw [h3] at h1
      rw [h1]
      have e : ((zs.take len).map Int.toNat)[i]?.getD 0 = (zs[i]'(by omega)).toNat := by
        rw [List.getElem?_map, List.getElem?_take, if_pos (by omega), List.getElem?_eq_getElem (by omega)]; rfl
      rw [e, List.getD_eq_getElem?_getD, List.getElem?_eq_getElem (by omega)]
      simp only [Option.getD_some, Option.some.injEq, Value.int.injEq, true_and]
      omega

/-- A number that came in: its sign, its limbs, where they lie; by the row's own reach they are not too many. -/
theorem open_whole {H : Type} {enc : TypeId × Value → H} {W : World} {base : Nat} {v : Value} {d : DataW H} {p : List MemPlace} (hval : Value.okWide Tryd.prog W .any base 24 v) (h : DataW.Trod enc Tryd.prog W 0 (fun _ => true) true 24 v d p)
    (hs : ∀ n ∈ d.weights Tryd.prog 24, n ≤ reachBytes) :
    ∃ neg ao cap L, v = .agg #[.bool neg, .slice ao L.length cap] ∧ LimbsAt W ao cap L ∧ L.length ≤ 35184372087808 := by
  obtain ⟨c0, c1, y0, y1, m, rfl, rfl, rfl, hy0, hy1⟩ := open_agg2 Tryd.underlying24 (by kernel_rfl) Tryd.cellsW hval h
  obtain ⟨neg, e0, rfl⟩ := DataW.trod_bool Tryd.underlying4 hy0
  simp at e0
  subst e0
  rcases open_ints Tryd.underlying22 Tryd.underlying53 Tryd.cellsU hy1 with ⟨hcs, _⟩ | ⟨a, len, cap, zs, hcs, _, hl, hm, hz, rfl, hcell, hwz⟩
  · simp at hcs
    subst hcs
    exact ⟨neg, none, 0, [], rfl, LimbsAt.nil _ _ _, by simp⟩
  · simp at hcs
    subst hcs
    obtain ⟨h1, h2⟩ := limbs_of_ints hl (by simpa using hz) hcell hwz
    refine ⟨neg, some a, cap, _, by rw [h2], h1, ?_⟩
    have hk := hs ((zs.length) * 4) (by
      simp only [DataW.weights, Tryd.underlying24, DataW.weightsEach, List.map, Tryd.underlying22, List.nil_append, List.append_nil, List.mem_cons, Tryd.bytesU, lits, List.length_map, List.length_take, List.length_drop]
      left
      omega)
    simp only [reachBytes] at hk
    rw [h2]
    have : zs.length = cap := by simpa using hz
    omega

end Go.Proofs.YtinlddkdkgepjaaDoor

/- The bounds of an int or int64 that came in. -/
namespace Go.Proofs.YtinlddkdkgepjaaDoor

theorem bounds_of_i64 {x : Int} (h : (Lit.int .i64 x).wf = true) : -9223372036854775808 ≤ x ∧ x ≤ 9223372036854775807 := by
  simp [Lit.wf, IntKind.min, IntKind.max, IntKind.signed, IntKind.bits] at h
  omega

end Go.Proofs.YtinlddkdkgepjaaDoor

/- A dyadic number that came in, opened; the library's table, as the row lays it. -/
namespace Go.Proofs.YtinlddkdkgepjaaDoor
open Go.ChangeShapes Go.WideShapes Go.ChangeAt Go.RowKit Go.Joins

theorem Tryd.cellsD : Tryd.prog.cellsOf 26 = 3 := by kernel_rfl
theorem Tryd.cellsI : Tryd.prog.cellsOf 3 = 1 := by kernel_rfl
theorem Tryd.cellsB : Tryd.prog.cellsOf 4 = 1 := by kernel_rfl
theorem Tryd.cellsS : Tryd.prog.cellsOf 22 = 1 := by kernel_rfl

theorem Tryd.tabName : Tryd.prog.globalNamed "math/bits.deBruijn32tab" = some 0 := by kernel_rfl
theorem Tryd.tabType : (Tryd.prog.globals[0]?).map (·.type) = some 79 := by kernel_rfl
theorem Tryd.tabCells : Tryd.prog.cellsOf 79 = 32 := by kernel_rfl
theorem Tryd.byteCells : Tryd.prog.cellsOf 5 = 1 := by kernel_rfl

theorem tab_getD : ∀ j, j < Lib.deBruijn32tab.length → (List.map Int.ofNat Lib.deBruijn32tab).getD j 0 = ((Lib.deBruijn32tab.getD j 0 : Nat) : Int) := by decide

/-- What the rows' list gives: the table's cells. -/
theorem tab_of_laid {W : World} (h : laidMetH Tryd.prog [("math/bits.deBruijn32tab", Rows.laid_math_bits_deBruijn32tab)] W) : Tab W := by
  have ht := Lib.tabIs_of_head (zs := Lib.deBruijn32tab.map Int.ofNat) (rest := []) Tryd.tabName Tryd.tabType Tryd.underlying79 Tryd.underlying5 Tryd.byteCells Tryd.tabCells h
  intro j hj
  have := ht.cell Tryd.tabName j (by simpa using hj)
  rw [this]
  congr 2
  exact tab_getD j hj

/-- A dyadic number that came in. -/
theorem open_dyadic {H : Type} {enc : TypeId × Value → H} {W : World} {base : Nat} {v : Value} {d : DataW H} {p : List MemPlace} (hval : Value.okWide Tryd.prog W .any base 26 v) (h : DataW.Trod enc Tryd.prog W 0 (fun _ => true) true 26 v d p)
    (hs : ∀ n ∈ d.weights Tryd.prog 26, n ≤ reachBytes) :
    ∃ (neg : Bool) (ao : Option Addr) (cap : Nat) (L : List Nat) (e : Int), v = .agg #[.bool neg, .slice ao L.length cap, .int .i64 e] ∧ LimbsAt W ao cap L ∧ L.length ≤ 35184372087808 ∧ (-9223372036854775808 ≤ e ∧ e ≤ 9223372036854775807) := by
  obtain ⟨cs, rfl, hsz⟩ := okWide_struct Tryd.underlying26 hval
  obtain ⟨c0, c1, c2, rfl⟩ := array3 (hsz.trans Tryd.cellsD)
  obtain ⟨fuel, hf⟩ := h
  obtain ⟨y0, y1, n, hx, _, h0, h1⟩ := trod_struct2 Tryd.underlying26 hf
  simp only [Prod.mk.injEq] at hx
  obtain ⟨rfl, rfl⟩ := hx
  have h0' : DataW.trod enc Tryd.prog W 0 (fun _ => true) true n 24 [c0, c1] = some y0 := by simpa [Value.cells, Tryd.cellsW] using h0
  have h1' : DataW.trod enc Tryd.prog W 0 (fun _ => true) true n 3 [c2] = some y1 := by simpa [Value.cells, Tryd.cellsI] using h1
  clear h0 h1
  obtain ⟨e, e1, e2, we⟩ := DataW.trod_int Tryd.underlying3 h1'
  simp at e1
  subst e1
  obtain ⟨z0, z1, m, hz, _, g0, g1⟩ := trod_struct2 Tryd.underlying24 h0'
  subst hz
  have g0' : DataW.trod enc Tryd.prog W 0 (fun _ => true) true m 4 [c0] = some z0 := by simpa [Tryd.cellsB] using g0
  have g1' : DataW.trod enc Tryd.prog W 0 (fun _ => true) true m 22 [c1] = some z1 := by simpa [Tryd.cellsS] using g1
  clear g0 g1
  obtain ⟨neg, e0, _⟩ := DataW.trod_bool Tryd.underlying4 g0'
  simp at e0
  subst e0
  have be := bounds_of_i64 we
  rcases open_ints Tryd.underlying22 Tryd.underlying53 Tryd.cellsU g1' with ⟨hcs, _⟩ | ⟨a, len, cap, zs, hcs, _, hl, hm, hzz, rfl, hcell, hwz⟩
  · simp at hcs
    subst hcs
    exact ⟨neg, none, 0, [], e, rfl, LimbsAt.nil _ _ _, by simp, be⟩
  · simp at hcs
    subst hcs
    obtain ⟨l1, l2⟩ := limbs_of_ints hl (by simpa using hzz) hcell hwz
    refine ⟨neg, some a, cap, _, e, by rw [l2], l1, ?_, be⟩
    have hk := hs ((zs.length) * 4) (by
      simp only [DataW.weights, Tryd.underlying26, Tryd.underlying24, DataW.weightsEach, List.map, Tryd.underlying22, List.append_nil, List.mem_cons, List.mem_append, Tryd.bytesU, lits, List.length_map, List.length_take, List.length_drop]
      refine .inl (.inr (.inl ?_))
      have : zs.length = cap := by simpa using hzz
      omega)
    simp only [reachBytes] at hk
    rw [l2]
    have : zs.length = cap := by simpa using hzz
    omega

end Go.Proofs.YtinlddkdkgepjaaDoor

