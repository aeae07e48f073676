/- Part 15 of the texts. -/
import Derived.Test.YtinlddkdkgepjaaDoorPart14
import Derived.Test.YtinlddkdkgepjaaDoorChecked
import Derived.Test.YtinlddkdkgepjaaDoorPart01
import Derived.ProofKit
import Derived.SizedLaws
import Derived.Lib.SmallJoins
/- Contracts of the reference's Add, Sub. -/
namespace Go.Proofs.YtinlddkdkgepjaaDoor
open Go.RowKit
attribute [local go_sem ↓] Go.wp_at_zero Go.wp_at_succ

theorem refAdd_num {B B' : Nat} {w : World} {v u : Value} {x y : Int} (hv : IsNum B w v x) (hu : IsNum B' w u y) (hx : x.natAbs < TOP) (hy : y.natAbs < TOP) :
    Calls Tryd.prog 48 #[v, u] w fun e w' => ∃ r, e = .returned r ∧ IsNumM 513 w.heap.size w' r (x + y) ∧ Below w.heap.size w w' := by
  obtain ⟨na, ao, ca, A, rfl, a1, a2, a3, a4⟩ := hv.right hx
  obtain ⟨nb, bo, cb, C, rfl, b1, b2, b3, b4⟩ := hu.right hy
  have := refAdd_any na nb ao bo ca cb A C w a1 b1 (by omega) (by omega)
  rw [a3, b3] at this
  exact this.mono fun e w' ⟨r, h1, h2, h3⟩ => ⟨r, h1, h2.more (by omega), h3⟩

theorem upE_le {s x l : Int} (h : upE s x l = 0) : x - l ≤ 16384 := by
  unfold upE at h
  by_cases h1 : (up s x l).natAbs < TOP ∧ x - l ≤ 16384
  · exact h1.2
  · rw [if_neg h1] at h; exact absurd h (by decide)

set_option maxHeartbeats 4000000 in
theorem radd_any (na nb : Bool) (ao bo : Option Addr) (ca cb : Nat) (A B : List Nat) (x y : Int) (w : World) (hA : LimbsAt w ao ca A) (hB : LimbsAt w bo cb B) (ra : rightB na A = true) (rb : rightB nb B = true) (hx : -16384 ≤ x ∧ x ≤ 16384) (hy : -16384 ≤ y ∧ y ≤ 16384) (e1 : upE (sval na A) x (lowE (sval na A) x (sval nb B) y) = 0) (e2 : upE (sval nb B) y (lowE (sval na A) x (sval nb B) y) = 0) :
    Calls Tryd.prog 23 #[.agg #[.bool na, .slice ao A.length ca, .int .i64 x], .agg #[.bool nb, .slice bo B.length cb, .int .i64 y]] w fun r w' => ∃ v, r = .returned v ∧ IsDy w' v (oM (sumZ (sval na A) x (sval nb B) y)) (oE (sumZ (sval na A) x (sval nb B) y) (lowE (sval na A) x (sval nb B) y)) ∧ Below w.heap.size w w' := by
  have CL := hide (fun w' => low_any na nb ao bo ca cb A.length B.length x y w')
  have hlb := lowR_bounds A.length B.length x y hx hy
  rw [lowR_E ra rb] at CL hlb
  have g1 : A.length ≠ 0 → lowE (sval na A) x (sval nb B) y ≤ x := fun h => by
    unfold lowE
    rw [if_neg (fun e => h ((sval_zero_iff ra).1 e))]
    split <;> omega
  have g2 : B.length ≠ 0 → lowE (sval na A) x (sval nb B) y ≤ y := fun h => by
    unfold lowE
    split
    · omega
    · rw [if_neg (fun e => h ((sval_zero_iff rb).1 e))]; omega
  obtain ⟨z, hz⟩ : ∃ z, sumZ (sval na A) x (sval nb B) y = z := ⟨_, rfl⟩
  have hz2 : z = up (sval na A) x (lowE (sval na A) x (sval nb B) y) + up (sval nb B) y (lowE (sval na A) x (sval nb B) y) := by rw [← hz]; rfl
  rw [hz]
  clear hz
  generalize lowE (sval na A) x (sval nb B) y = l at *
  have CLA := hide (fun w' h => level_any na ao ca A x l w' h ra (fun h0 => ⟨g1 h0, upE_le e1⟩) hx hlb)
  have CLB := hide (fun w' h => level_any nb bo cb B y l w' h rb (fun h0 => ⟨g2 h0, upE_le e2⟩) hy hlb)
  have CAD := hide (fun w' u v (iu : IsNum 0 w' u (up (sval na A) x l)) (iv : IsNum 0 w' v (up (sval nb B) y l)) => refAdd_num iu iv (upE_TOP e1) (upE_TOP e2))
  rw [← hz2] at CAD
  have CO := hide (fun w' u B' (iu : IsNumM 513 B' w' u z) => rof_small l iu (by decide) (by omega))
  clear ra rb e1 e2 hz2 g1 g2 hx hy
  generalize oE z l = ox at *
  generalize oM z = om at *
  generalize up (sval na A) x l = za at *
  generalize up (sval nb B) y l = zb at *
  obtain ⟨hl1, hl2⟩ := hlb
  have hb0 : Below w.heap.size w (((w.alloc (.cells #[.bool na, .slice ao A.length ca, .int .i64 x] 26)).alloc (.cells #[.bool nb, .slice bo B.length cb, .int .i64 y] 26)).alloc (.cells #[.bool false, .slice none 0 0, .int .i64 0] 26)) :=
    (((Below.refl _ _).alloc (Nat.le_refl _) _).alloc (by simp) _).alloc (by simp; omega) _
  have x0 : Box3 (((w.alloc (.cells #[.bool na, .slice ao A.length ca, .int .i64 x] 26)).alloc (.cells #[.bool nb, .slice bo B.length cb, .int .i64 y] 26)).alloc (.cells #[.bool false, .slice none 0 0, .int .i64 0] 26)) w.heap.size (.bool na) (.slice ao A.length ca) (.int .i64 x) := ((Box3.new _ _ _ _).old _).old _
  have x1 : Box3 (((w.alloc (.cells #[.bool na, .slice ao A.length ca, .int .i64 x] 26)).alloc (.cells #[.bool nb, .slice bo B.length cb, .int .i64 y] 26)).alloc (.cells #[.bool false, .slice none 0 0, .int .i64 0] 26)) (w.heap.size + 1) (.bool nb) (.slice bo B.length cb) (.int .i64 y) := by
    have := (Box3.new (w.alloc (.cells #[.bool na, .slice ao A.length ca, .int .i64 x] 26)) (.bool nb) (.slice bo B.length cb) (.int .i64 y)).old (.cells #[.bool false, .slice none 0 0, .int .i64 0] 26)
    simpa using this
  have x2 : Box3 (((w.alloc (.cells #[.bool na, .slice ao A.length ca, .int .i64 x] 26)).alloc (.cells #[.bool nb, .slice bo B.length cb, .int .i64 y] 26)).alloc (.cells #[.bool false, .slice none 0 0, .int .i64 0] 26)) (w.heap.size + 1 + 1) (.bool false) (.slice none 0 0) (.int .i64 0) := by
    have := Box3.new ((w.alloc (.cells #[.bool na, .slice ao A.length ca, .int .i64 x] 26)).alloc (.cells #[.bool nb, .slice bo B.length cb, .int .i64 y] 26)) (.bool false) (.slice none 0 0) (.int .i64 0)
    simpa using this
  have B0 := hide hb0; have X0 := hide x0; have X1 := hide x1; have X2 := hide x2
  clear hb0 x0 x1 x2
  go_enter Tryd.func23, Tryd.ntmps23
  go_wp2_with fail
  refine (unhide CL _).mono ?_
  rintro r w1 ⟨rfl, hb1⟩
  have x0 := (unhide X0).all hb1; have x1 := (unhide X1).all hb1; have x2 := (unhide X2).all hb1
  have b1 := (unhide B0).trans (hb1.mono (unhide B0).size)
  have X0' := hide x0; have X1' := hide x1; have X2' := hide x2; have B1 := hide b1
  clear hb1 x0 x1 x2 b1 X0 X1 X2 B0 CL
  go_wp2_with fail
  refine at_world (fun W => Below w.heap.size w W ∧ Box3 W w.heap.size (.bool na) (.slice ao A.length ca) (.int .i64 x) ∧ Box3 W (w.heap.size + 1) (.bool nb) (.slice bo B.length cb) (.int .i64 y) ∧ Box3 W (w.heap.size + 1 + 1) (.bool false) (.slice none 0 0) (.int .i64 0)) ⟨unhide B1, unhide X0', unhide X1', unhide X2'⟩ ?_
  clear B1 X0' X1' X2'
  rintro W0 ⟨b0, x0, x1, x2⟩
  have s0 : w.heap.size + 1 + 1 < W0.heap.size := x2.lt
  have hK : ∀ w', Below (w.heap.size + 1 + 1) W0 w' → Below (w.heap.size + 1 + 1) W0 w' ∧ w'.cell? ⟨w.heap.size, 0, none⟩ = some (.bool na) ∧ w'.cell? ⟨w.heap.size, 1, none⟩ = some (.slice ao A.length ca) ∧ w'.cell? ⟨w.heap.size, 2, none⟩ = some (.int .i64 x) ∧ w'.cell? ⟨w.heap.size + 1, 0, none⟩ = some (.bool nb) ∧ w'.cell? ⟨w.heap.size + 1, 1, none⟩ = some (.slice bo B.length cb) ∧ w'.cell? ⟨w.heap.size + 1, 2, none⟩ = some (.int .i64 y) := fun w' h =>
    ⟨h, (x0.below h (by omega)).c0, (x0.below h (by omega)).c1, (x0.below h (by omega)).c2, (x1.below h (by omega)).c0, (x1.below h (by omega)).c1, (x1.below h (by omega)).c2⟩
  have HK := hide hK; have BB := hide b0; have X2 := hide x2
  clear hK b0 x0 x1 x2
  go_region_held3 (fun w' => Below (w.heap.size + 1 + 1) W0 w' ∧ w'.cell? ⟨w.heap.size, 0, none⟩ = some (.bool na) ∧ w'.cell? ⟨w.heap.size, 1, none⟩ = some (.slice ao A.length ca) ∧ w'.cell? ⟨w.heap.size, 2, none⟩ = some (.int .i64 x) ∧ w'.cell? ⟨w.heap.size + 1, 0, none⟩ = some (.bool nb) ∧ w'.cell? ⟨w.heap.size + 1, 1, none⟩ = some (.slice bo B.length cb) ∧ w'.cell? ⟨w.heap.size + 1, 2, none⟩ = some (.int .i64 y))
    (first | exact unhide HK _ (Below.refl _ _).drew | exact unhide HK _ (by assumption) | exact unhide HK _ (below_put3 hB4 (by omega) _ _ _))
    (first | (go_at_call_of 49 (Value.agg #[.bool na, .slice ao A.length ca, .int .i64 x]); refine (unhide CLA _ (hA.below ((unhide BB).trans ((Below.refl _ _).drew)))).mono ?_; rintro e w3 ⟨v, rfl, ⟨n1, a1, c1, L1, rfl, i1⟩, hb1⟩; have hB1 : Below (w.heap.size + 1 + 1) W0 w3 := ((Below.refl _ _).drew).trans (hb1.mono (by simp; omega)); have X3 := hide ((unhide X2).drew.below hb1 (by simp; omega)); have IA := hide (show IsNum 0 w3 (.agg #[.bool n1, .slice a1 L1.length c1]) za from ⟨n1, a1, c1, L1, rfl, i1⟩); have s1 : w.heap.size + 1 + 1 < w3.heap.size := (by have := hb1.size; simp at this; omega); have BB1 := hide ((unhide BB).trans (hB1.mono (by omega))); clear hb1 i1) | (go_at_call_of 49 (Value.agg #[.bool nb, .slice bo B.length cb, .int .i64 y]); refine (unhide CLB _ (hB.below (unhide BB1))).mono ?_; rintro e w4 ⟨v, rfl, ⟨n2, a2, c2, L2, rfl, i2⟩, hb2⟩; have hB2 : Below (w.heap.size + 1 + 1) W0 w4 := hB1.trans (hb2.mono (by omega)); have X4 := hide ((unhide X3).below hb2 (by omega)); have IA2 := hide ((unhide IA).below hb2); have IB := hide (show IsNum 0 w4 (.agg #[.bool n2, .slice a2 L2.length c2]) zb from ⟨n2, a2, c2, L2, rfl, i2⟩); have s2 : w.heap.size + 1 + 1 < w4.heap.size := (by have := hb2.size; omega); have BB2 := hide ((unhide BB1).trans (hb2.mono (by omega))); clear hb2 i2) | (go_at_call 48; refine (unhide CAD _ _ _ (unhide IA2) (unhide IB)).mono ?_; rintro e w5 ⟨v, rfl, ⟨n3, a3, c3, L3, rfl, i3⟩, hb3⟩; have hB3 : Below (w.heap.size + 1 + 1) W0 w5 := hB2.trans (hb3.mono (by omega)); have X5 := hide ((unhide X4).below hb3 (by omega)); have IZ := hide (show IsNumM 513 w4.heap.size w5 (.agg #[.bool n3, .slice a3 L3.length c3]) z from ⟨n3, a3, c3, L3, rfl, i3⟩); have s3 : w.heap.size + 1 + 1 < w5.heap.size := (by have := hb3.size; omega); have BB3 := hide ((unhide BB2).trans (hb3.mono (by omega))); clear hb3 i3) | (go_at_call 17; refine (unhide CO _ _ _ (unhide IZ)).mono ?_; rintro e w6 ⟨u, rfl, iu, hb4⟩; obtain ⟨n5, a5, c5, L5, rfl, i5⟩ := iu.num; have hB4 : Below (w.heap.size + 1 + 1) W0 w6 := hB3.trans (hb4.mono (by omega)); have X6 := (unhide X5).below hb4 (by omega); have y0 := X6.c0; have y1 := X6.c1; have y2 := X6.c2; have f0 := X6.free 0; have f1 := X6.free 1; have f2 := X6.free 2; have IU := hide iu; have X7 := hide X6; have BB4 := hide ((unhide BB3).trans (hb4.mono (by omega))); clear hb4 iu i5 X6))
  go_wp2
  refine bodyPost_ret (v := .agg #[.bool n5, .slice a5 L5.length c5, .int .i64 ox]) (by simp [results, Tryd.results23, go_sem, y0, y1, y2]) rfl ⟨_, rfl, (unhide IU).put3 (unhide X7) _ _ _, below_put3 (unhide BB4) (by omega) _ _ _⟩

set_option maxHeartbeats 4000000 in
theorem rsub_any (na nb : Bool) (ao bo : Option Addr) (ca cb : Nat) (A B : List Nat) (x y : Int) (w : World) (hA : LimbsAt w ao ca A) (hB : LimbsAt w bo cb B) (ra : rightB na A = true) (rb : rightB nb B = true) (hx : -16384 ≤ x ∧ x ≤ 16384) (hy : -16384 ≤ y ∧ y ≤ 16384) (e1 : upE (sval na A) x (lowE (sval na A) x (- sval nb B) y) = 0) (e2 : upE (- sval nb B) y (lowE (sval na A) x (- sval nb B) y) = 0) :
    Calls Tryd.prog 24 #[.agg #[.bool na, .slice ao A.length ca, .int .i64 x], .agg #[.bool nb, .slice bo B.length cb, .int .i64 y]] w fun r w' => ∃ v, r = .returned v ∧ IsDy w' v (oM (sumZ (sval na A) x (- sval nb B) y)) (oE (sumZ (sval na A) x (- sval nb B) y) (lowE (sval na A) x (- sval nb B) y)) ∧ Below w.heap.size w w' := by
  have lb := (right_canon rb).1
  have tb := sval_TOP hB rb
  have CN := hide (fun w' h => rneg_any nb bo cb B y w' h lb)
  have CAD := hide (fun w' u (h : LimbsAt w' ao ca A) (iu : IsDy w' u (- sval nb B) y) => show Calls Tryd.prog 23 #[.agg #[.bool na, .slice ao A.length ca, .int .i64 x], u] w' fun r w'' => ∃ v, r = .returned v ∧ IsDy w'' v (oM (sumZ (sval na A) x (- sval nb B) y)) (oE (sumZ (sval na A) x (- sval nb B) y) (lowE (sval na A) x (- sval nb B) y)) ∧ Below w'.heap.size w' w'' by
    obtain ⟨n1, a1, c1, L1, rfl, q1, q2, q3, q4, q5⟩ := iu.right (by rw [Int.natAbs_neg]; exact tb)
    have := radd_any na n1 ao a1 ca c1 A L1 x y w' h q1 ra q2 hx hy (by rw [q3]; exact e1) (by rw [q3]; exact e2)
    rwa [q3] at this)
  clear ra rb hx hy e1 e2 tb
  generalize oE (sumZ (sval na A) x (- sval nb B) y) (lowE (sval na A) x (- sval nb B) y) = ox at *
  generalize oM (sumZ (sval na A) x (- sval nb B) y) = om at *
  generalize - sval nb B = sb at *
  have hb0 : Below w.heap.size w (((w.alloc (.cells #[.bool na, .slice ao A.length ca, .int .i64 x] 26)).alloc (.cells #[.bool nb, .slice bo B.length cb, .int .i64 y] 26)).alloc (.cells #[.bool false, .slice none 0 0, .int .i64 0] 26)) :=
    (((Below.refl _ _).alloc (Nat.le_refl _) _).alloc (by simp) _).alloc (by simp; omega) _
  have x0 : Box3 (((w.alloc (.cells #[.bool na, .slice ao A.length ca, .int .i64 x] 26)).alloc (.cells #[.bool nb, .slice bo B.length cb, .int .i64 y] 26)).alloc (.cells #[.bool false, .slice none 0 0, .int .i64 0] 26)) w.heap.size (.bool na) (.slice ao A.length ca) (.int .i64 x) := ((Box3.new _ _ _ _).old _).old _
  have x1 : Box3 (((w.alloc (.cells #[.bool na, .slice ao A.length ca, .int .i64 x] 26)).alloc (.cells #[.bool nb, .slice bo B.length cb, .int .i64 y] 26)).alloc (.cells #[.bool false, .slice none 0 0, .int .i64 0] 26)) (w.heap.size + 1) (.bool nb) (.slice bo B.length cb) (.int .i64 y) := by
    have := (Box3.new (w.alloc (.cells #[.bool na, .slice ao A.length ca, .int .i64 x] 26)) (.bool nb) (.slice bo B.length cb) (.int .i64 y)).old (.cells #[.bool false, .slice none 0 0, .int .i64 0] 26)
    simpa using this
  have x2 : Box3 (((w.alloc (.cells #[.bool na, .slice ao A.length ca, .int .i64 x] 26)).alloc (.cells #[.bool nb, .slice bo B.length cb, .int .i64 y] 26)).alloc (.cells #[.bool false, .slice none 0 0, .int .i64 0] 26)) (w.heap.size + 1 + 1) (.bool false) (.slice none 0 0) (.int .i64 0) := by
    have := Box3.new ((w.alloc (.cells #[.bool na, .slice ao A.length ca, .int .i64 x] 26)).alloc (.cells #[.bool nb, .slice bo B.length cb, .int .i64 y] 26)) (.bool false) (.slice none 0 0) (.int .i64 0)
    simpa using this
  have B0 := hide hb0; have X0 := hide x0; have X1 := hide x1; have X2 := hide x2
  clear hb0 x0 x1 x2
  go_enter Tryd.func24, Tryd.ntmps24
  go_wp2_with fail
  refine at_world (fun W => Below w.heap.size w W ∧ Box3 W w.heap.size (.bool na) (.slice ao A.length ca) (.int .i64 x) ∧ Box3 W (w.heap.size + 1) (.bool nb) (.slice bo B.length cb) (.int .i64 y) ∧ Box3 W (w.heap.size + 1 + 1) (.bool false) (.slice none 0 0) (.int .i64 0)) ⟨unhide B0, unhide X0, unhide X1, unhide X2⟩ ?_
  clear B0 X0 X1 X2
  rintro W0 ⟨b0, x0, x1, x2⟩
  have s0 : w.heap.size + 1 + 1 < W0.heap.size := x2.lt
  have hK : ∀ w', Below (w.heap.size + 1 + 1) W0 w' → Below (w.heap.size + 1 + 1) W0 w' ∧ w'.cell? ⟨w.heap.size, 0, none⟩ = some (.bool na) ∧ w'.cell? ⟨w.heap.size, 1, none⟩ = some (.slice ao A.length ca) ∧ w'.cell? ⟨w.heap.size, 2, none⟩ = some (.int .i64 x) ∧ w'.cell? ⟨w.heap.size + 1, 0, none⟩ = some (.bool nb) ∧ w'.cell? ⟨w.heap.size + 1, 1, none⟩ = some (.slice bo B.length cb) ∧ w'.cell? ⟨w.heap.size + 1, 2, none⟩ = some (.int .i64 y) := fun w' h =>
    ⟨h, (x0.below h (by omega)).c0, (x0.below h (by omega)).c1, (x0.below h (by omega)).c2, (x1.below h (by omega)).c0, (x1.below h (by omega)).c1, (x1.below h (by omega)).c2⟩
  have HK := hide hK; have BB := hide b0; have X2 := hide x2
  clear hK b0 x0 x1 x2
  go_region_held3 (fun w' => Below (w.heap.size + 1 + 1) W0 w' ∧ w'.cell? ⟨w.heap.size, 0, none⟩ = some (.bool na) ∧ w'.cell? ⟨w.heap.size, 1, none⟩ = some (.slice ao A.length ca) ∧ w'.cell? ⟨w.heap.size, 2, none⟩ = some (.int .i64 x) ∧ w'.cell? ⟨w.heap.size + 1, 0, none⟩ = some (.bool nb) ∧ w'.cell? ⟨w.heap.size + 1, 1, none⟩ = some (.slice bo B.length cb) ∧ w'.cell? ⟨w.heap.size + 1, 2, none⟩ = some (.int .i64 y))
    (first | exact unhide HK _ (Below.refl _ _).drew | exact unhide HK _ (by assumption) | exact unhide HK _ (below_put3 hB4 (by omega) _ _ _))
    (first | (go_at_call 50; refine (unhide CN _ (hB.below ((unhide BB).trans ((Below.refl _ _).drew)))).mono ?_; rintro e w3 ⟨v, rfl, iv, hb1⟩; obtain ⟨n1, a1, c1, L1, rfl, i1⟩ := iv.num; have hB1 : Below (w.heap.size + 1 + 1) W0 w3 := ((Below.refl _ _).drew).trans (hb1.mono (by simp; omega)); have X3 := hide ((unhide X2).drew.below hb1 (by simp; omega)); have IN := hide iv; have s1 : w.heap.size + 1 + 1 < w3.heap.size := (by have := hb1.size; simp at this; omega); have BB1 := hide ((unhide BB).trans (hB1.mono (by omega))); clear hb1 i1 iv) | (go_at_call 23; refine (unhide CAD _ _ (hA.below (unhide BB1)) (unhide IN)).mono ?_; rintro e w6 ⟨u, rfl, iu, hb4⟩; obtain ⟨n5, a5, c5, L5, rfl, i5⟩ := iu.num; have hB4 : Below (w.heap.size + 1 + 1) W0 w6 := hB1.trans (hb4.mono (by omega)); have X6 := (unhide X3).below hb4 (by omega); have y0 := X6.c0; have y1 := X6.c1; have y2 := X6.c2; have f0 := X6.free 0; have f1 := X6.free 1; have f2 := X6.free 2; have IU := hide iu; have X7 := hide X6; have BB4 := hide ((unhide BB1).trans (hb4.mono (by omega))); clear hb4 iu i5 X6))
  go_wp2
  refine bodyPost_ret (v := .agg #[.bool n5, .slice a5 L5.length c5, .int .i64 ox]) (by simp [results, Tryd.results24, go_sem, y0, y1, y2]) rfl ⟨_, rfl, (unhide IU).put3 (unhide X7) _ _ _, below_put3 (unhide BB4) (by omega) _ _ _⟩

end Go.Proofs.YtinlddkdkgepjaaDoor

/- Sums of few limbs: when they fit. -/
namespace Go.Proofs.YtinlddkdkgepjaaDoor
open Go.RowKit

theorem up_neg (s x l : Int) : up (-s) x l = - up s x l := by unfold up; rw [Int.neg_mul]
theorem upE_neg (s x l : Int) : upE (-s) x l = upE s x l := by unfold upE; rw [up_neg, Int.natAbs_neg]
theorem lowE_neg (sa x sb y : Int) : lowE sa x (-sb) y = lowE sa x sb y := by
  unfold lowE
  by_cases h : sb = 0
  · subst h; rfl
  · rw [if_neg h, if_neg (show ¬ -sb = 0 by omega)]

theorem sum_pow (a b d K N : Nat) (ha : a < 2 ^ K) (hb : b < 2 ^ K) (hu : a * 2 ^ d < 2 ^ N) (hd : d ≤ N) (hK : K + K + 1 ≤ N) : a * 2 ^ d + b < 2 ^ N := by
  by_cases h : K ≤ d
  · have hb2 : b < 2 ^ d := Nat.lt_of_lt_of_le hb (Nat.pow_le_pow_right (by decide) h)
    have e : 2 ^ N = 2 ^ (N - d) * 2 ^ d := by rw [← Nat.pow_add, Nat.sub_add_cancel hd]
    rw [e] at hu ⊢
    have h1 : a < 2 ^ (N - d) := Nat.lt_of_mul_lt_mul_right hu
    have h2 : (a + 1) * 2 ^ d ≤ 2 ^ (N - d) * 2 ^ d := Nat.mul_le_mul_right _ h1
    rw [Nat.add_mul] at h2
    omega
  · have h1 : a * 2 ^ d < 2 ^ (K + K) := by
      have : a * 2 ^ d ≤ a * 2 ^ K := Nat.mul_le_mul_left _ (Nat.pow_le_pow_right (by decide) (by omega))
      have h3 : a * 2 ^ K < 2 ^ K * 2 ^ K := Nat.mul_lt_mul_of_pos_right ha (Nat.pow_pos (by decide))
      rw [← Nat.pow_add] at h3
      omega
    have h2 : b < 2 ^ (K + K) := Nat.lt_of_lt_of_le hb (Nat.pow_le_pow_right (by decide) (by omega))
    have h3 : 2 ^ (K + K) + 2 ^ (K + K) = 2 ^ (K + K + 1) := by rw [Nat.pow_succ]; omega
    have h4 : 2 ^ (K + K + 1) ≤ 2 ^ N := Nat.pow_le_pow_right (by decide) hK
    omega

theorem natAbs_upi (s x l : Int) : (up s x l).natAbs = s.natAbs * 2 ^ (x - l).toNat := by
  unfold up
  rw [Int.natAbs_mul, Int.natAbs_pow]
  rfl

theorem sum_light (sa x sb y : Int) (K : Nat) (ha : sa.natAbs < 2 ^ K) (hb : sb.natAbs < 2 ^ K) (hK : K + K + 1 ≤ 32 * TOPN) (e1 : upE sa x (lowE sa x sb y) = 0) (e2 : upE sb y (lowE sa x sb y) = 0) : (sumZ sa x sb y).natAbs < TOP := by
  have u1 := upE_TOP e1
  have u2 := upE_TOP e2
  have d1 := upE_le e1
  have d2 := upE_le e2
  unfold sumZ
  by_cases h1 : sa = 0
  · subst h1; rw [up_zero, Int.zero_add]; exact u2
  by_cases h2 : sb = 0
  · subst h2; rw [up_zero, Int.add_zero]; exact u1
  rw [lowE_ne sa x sb y h1 h2] at u1 u2 d1 d2 ⊢
  have e2N : 32 * TOPN = 16384 := rfl
  rw [TOP_eq] at u1 u2 ⊢
  have htri : ∀ p q : Int, (p + q).natAbs ≤ p.natAbs + q.natAbs := fun p q => Int.natAbs_add_le p q
  rcases (show x ≤ y ∨ y ≤ x by omega) with h | h
  · have hm : min x y = x := by omega
    rw [hm] at u1 u2 d1 d2 ⊢
    rw [up_self] at u1 ⊢
    rw [natAbs_upi] at u2
    have h3 := sum_pow sb.natAbs sa.natAbs (y - x).toNat K (32 * TOPN) hb ha u2 (by omega) hK
    have h4 := htri sa (up sb y x)
    rw [natAbs_upi] at h4
    omega
  · have hm : min x y = y := by omega
    rw [hm] at u1 u2 d1 d2 ⊢
    rw [up_self] at u2 ⊢
    rw [natAbs_upi] at u1
    have h3 := sum_pow sa.natAbs sb.natAbs (x - y).toNat K (32 * TOPN) ha hb u1 (by omega) hK
    have h4 := htri (up sa x y) sb
    rw [natAbs_upi] at h4
    omega

/-- What the reference says of a width, and what the program does. -/
theorem wid_up {n : Bool} {L : List Nat} {x l : Int} (hf : Fits L) (hr : rightB n L = true) (h : L.length ≠ 0 → l ≤ x) (hz : L.length = 0 → x - l ≤ 16384) : widB L x l = false ↔ upE (sval n L) x l = 0 := by
  unfold widB
  by_cases h0 : L.length = 0
  · rw [decide_eq_false (fun h => h.1 h0)]
    refine ⟨fun _ => upE_ok _ _ _ ?_ (hz h0), fun _ => rfl⟩
    rw [(sval_zero_iff hr).2 h0, up_zero]; exact TOP_pos
  · have hb := up_bits n L x l hf hr (fun e => h0 (by rw [e]; rfl)) (h h0)
    rw [hb, decide_eq_false_iff_not]
    constructor
    · intro h1
      have h2 : ¬ (16384 < x - l ∨ 16384 < lenL L + x - l) := fun h3 => h1 ⟨h0, h3⟩
      omega
    · rintro ⟨h1, h2⟩ ⟨_, h3⟩
      omega

theorem wide_fits {na nb : Bool} {A B : List Nat} {x y : Int} (fA : Fits A) (fB : Fits B) (ra : rightB na A = true) (rb : rightB nb B = true) (hx : -16384 ≤ x ∧ x ≤ 16384) (hy : -16384 ≤ y ∧ y ≤ 16384) (zx : A.length = 0 → x = 0) (zy : B.length = 0 → y = 0) :
    (widB A x (lowR A.length B.length x y) || widB B y (lowR A.length B.length x y)) = false ↔ (upE (sval na A) x (lowE (sval na A) x (sval nb B) y) = 0 ∧ upE (sval nb B) y (lowE (sval na A) x (sval nb B) y) = 0) := by
  have hl := lowR_bounds A.length B.length x y hx hy
  have g1 : A.length ≠ 0 → lowR A.length B.length x y ≤ x := fun h => by
    unfold lowR; rw [if_neg h]; split <;> omega
  have g2 : B.length ≠ 0 → lowR A.length B.length x y ≤ y := fun h => by
    unfold lowR
    split
    · omega
    · omega
  rw [← lowR_E ra rb, Bool.or_eq_false_iff, wid_up fA ra g1 (fun h => by have := zx h; omega), wid_up fB rb g2 (fun h => by have := zy h; omega)]

end Go.Proofs.YtinlddkdkgepjaaDoor

/- The law DyadicSums, walked. -/
namespace Go.Proofs.YtinlddkdkgepjaaDoor
open Go.RowKit
attribute [local go_sem ↓] Go.wp_at_zero Go.wp_at_succ

theorem ad_fits {sa x sb y : Int} (e1 : upE sa x (lowE sa x sb y) = 0) (e2 : upE sb y (lowE sa x sb y) = 0) (hz : (sumZ sa x sb y).natAbs < TOP) :
    adE sa x sb y = dErr (sumZ sa x sb y) (lowE sa x sb y) ∧ adM sa x sb y = dM (sumZ sa x sb y) (lowE sa x sb y) ∧ adX sa x sb y = dX (sumZ sa x sb y) (lowE sa x sb y) := by
  have hf : fitsB sa x sb y = true := decide_eq_true ⟨e1, e2, hz⟩
  unfold adE adM adX
  rw [hf]
  exact ⟨rfl, rfl, rfl⟩

theorem ad_wide {sa x sb y : Int} (h : ¬ (upE sa x (lowE sa x sb y) = 0 ∧ upE sb y (lowE sa x sb y) = 0)) : adE sa x sb y = 2 ∧ adM sa x sb y = 0 ∧ adX sa x sb y = 0 := by
  have hf : fitsB sa x sb y = false := decide_eq_false (fun e => h ⟨e.1, e.2.1⟩)
  unfold adE adM adX
  rw [hf]
  exact ⟨rfl, rfl, rfl⟩

/-- The ways of sums and differences of two numbers of few limbs. -/
theorem sums_ways (na nb : Bool) (ao bo : Option Addr) (ca cb : Nat) (A B : List Nat) (x y : Int) (la : A.length ≤ 30) (lb : B.length ≤ 30) (fA : Fits A) (fB : Fits B) : ∃ e1 m1 x1 e2 m2 x2 f0 om ox om2 ox2 : Int, ∃ wd : Bool,
    (∀ w, LimbsAt w ao ca A → LimbsAt w bo cb B → Tab w → Calls Tryd.prog 19 #[.agg #[.bool na, .slice ao A.length ca, .int .i64 x], .agg #[.bool nb, .slice bo B.length cb, .int .i64 y]] w fun r w' => DyR w' r e1 m1 x1 ∧ Below w.heap.size w w') ∧
    (∀ w, LimbsAt w ao ca A → LimbsAt w bo cb B → Tab w → Calls Tryd.prog 20 #[.agg #[.bool na, .slice ao A.length ca, .int .i64 x], .agg #[.bool nb, .slice bo B.length cb, .int .i64 y]] w fun r w' => DyR w' r e2 m2 x2 ∧ Below w.heap.size w w') ∧
    (∀ w, LimbsAt w ao ca A → LimbsAt w bo cb B → Calls Tryd.prog 21 #[.agg #[.bool na, .slice ao A.length ca, .int .i64 x], .agg #[.bool nb, .slice bo B.length cb, .int .i64 y]] w fun r w' => r = .returned (.int .i64 f0) ∧ Below w.heap.size w w') ∧
    ((f0 = 1 ∧ e1 = 1 ∧ m1 = 0 ∧ x1 = 0 ∧ e2 = 1 ∧ m2 = 0 ∧ x2 = 0) ∨
     (f0 = 0 ∧ wd = true ∧ (∀ w, LimbsAt w ao ca A → LimbsAt w bo cb B → Calls Tryd.prog 22 #[.agg #[.bool na, .slice ao A.length ca, .int .i64 x], .agg #[.bool nb, .slice bo B.length cb, .int .i64 y]] w fun r w' => r = .returned (.bool wd) ∧ Below w.heap.size w w') ∧ e1 = 2 ∧ m1 = 0 ∧ x1 = 0 ∧ e2 = 2 ∧ m2 = 0 ∧ x2 = 0) ∨
     (f0 = 0 ∧ wd = false ∧ (∀ w, LimbsAt w ao ca A → LimbsAt w bo cb B → Calls Tryd.prog 22 #[.agg #[.bool na, .slice ao A.length ca, .int .i64 x], .agg #[.bool nb, .slice bo B.length cb, .int .i64 y]] w fun r w' => r = .returned (.bool wd) ∧ Below w.heap.size w w') ∧
      (∀ w, LimbsAt w ao ca A → LimbsAt w bo cb B → Calls Tryd.prog 23 #[.agg #[.bool na, .slice ao A.length ca, .int .i64 x], .agg #[.bool nb, .slice bo B.length cb, .int .i64 y]] w fun r w' => ∃ v, r = .returned v ∧ IsDy w' v om ox ∧ Below w.heap.size w w') ∧
      (∀ w, LimbsAt w ao ca A → LimbsAt w bo cb B → Calls Tryd.prog 24 #[.agg #[.bool na, .slice ao A.length ca, .int .i64 x], .agg #[.bool nb, .slice bo B.length cb, .int .i64 y]] w fun r w' => ∃ v, r = .returned v ∧ IsDy w' v om2 ox2 ∧ Below w.heap.size w w') ∧
      om.natAbs < TOP ∧ om2.natAbs < TOP ∧ (dRt om ox = true → e1 = 0 ∧ m1 = om ∧ x1 = ox) ∧ (dRt om ox = false → e1 = 2 ∧ m1 = 0 ∧ x1 = 0) ∧ (dRt om2 ox2 = true → e2 = 0 ∧ m2 = om2 ∧ x2 = ox2) ∧ (dRt om2 ox2 = false → e2 = 2 ∧ m2 = 0 ∧ x2 = 0))) := by
  by_cases hr : (drB na A x && drB nb B y) = true
  · have hr' := hr
    rw [Bool.and_eq_true] at hr
    obtain ⟨hra, hrb⟩ := hr
    obtain ⟨ra, _, a1, a2, zx⟩ := drB_bounds hra
    obtain ⟨rb, _, b1, b2, zy⟩ := drB_bounds hrb
    have hf : ∀ w, LimbsAt w ao ca A → LimbsAt w bo cb B → Calls Tryd.prog 21 #[.agg #[.bool na, .slice ao A.length ca, .int .i64 x], .agg #[.bool nb, .slice bo B.length cb, .int .i64 y]] w fun r w' => r = .returned (.int .i64 0) ∧ Below w.heap.size w w' := fun w h h' => by
      have := form2_any na nb ao bo ca cb A B x y w h h' (by omega) (by omega)
      unfold drE2 at this
      rw [hr'] at this
      exact this
    have hW : ∀ w, LimbsAt w ao ca A → LimbsAt w bo cb B → Calls Tryd.prog 22 #[.agg #[.bool na, .slice ao A.length ca, .int .i64 x], .agg #[.bool nb, .slice bo B.length cb, .int .i64 y]] w fun r w' => r = .returned (.bool (widB A x (lowR A.length B.length x y) || widB B y (lowR A.length B.length x y))) ∧ Below w.heap.size w w' := fun w h h' => Wide_any na nb ao bo ca cb A B x y w h h' (by omega) (by omega) ⟨a1, a2⟩ ⟨b1, b2⟩
    have hwf := wide_fits fA fB ra rb ⟨a1, a2⟩ ⟨b1, b2⟩ zx zy
    by_cases hfit : upE (sval na A) x (lowE (sval na A) x (sval nb B) y) = 0 ∧ upE (sval nb B) y (lowE (sval na A) x (sval nb B) y) = 0
    · have hwd := hwf.2 hfit
      have hfit2 : upE (sval na A) x (lowE (sval na A) x (- sval nb B) y) = 0 ∧ upE (- sval nb B) y (lowE (sval na A) x (- sval nb B) y) = 0 := by rw [lowE_neg, upE_neg]; exact hfit
      have k1 : (sval na A).natAbs < 2 ^ (32 * 30) := by rw [natAbs_sval]; exact val_lt_pow A fA 30 la
      have k2 : (sval nb B).natAbs < 2 ^ (32 * 30) := by rw [natAbs_sval]; exact val_lt_pow B fB 30 lb
      have z1 := sum_light _ x _ y (32 * 30) k1 k2 (by decide) hfit.1 hfit.2
      have z2 := sum_light (sval na A) x (- sval nb B) y (32 * 30) k1 (by rw [Int.natAbs_neg]; exact k2) (by decide) hfit2.1 hfit2.2
      obtain ⟨p1, p2, p3⟩ := ad_fits hfit.1 hfit.2 z1
      obtain ⟨q1, q2, q3⟩ := ad_fits hfit2.1 hfit2.2 z2
      have hl1 : -32768 ≤ lowE (sval na A) x (sval nb B) y ∧ lowE (sval na A) x (sval nb B) y ≤ 32768 := by
        have := lowR_bounds A.length B.length x y ⟨a1, a2⟩ ⟨b1, b2⟩
        rw [lowR_E ra rb] at this; omega
      have hl2 : -32768 ≤ lowE (sval na A) x (- sval nb B) y ∧ lowE (sval na A) x (- sval nb B) y ≤ 32768 := by rw [lowE_neg]; exact hl1
      have t1 := told_make (sumZ (sval na A) x (sval nb B) y) _ hl1
      have t2 := told_make (sumZ (sval na A) x (- sval nb B) y) _ hl2
      refine ⟨_, _, _, _, _, _, 0, _, _, _, _, _, fun w h h' t => dadd_right na nb ao bo ca cb A B x y w h h' hra hrb t, fun w h h' t => dsub_right na nb ao bo ca cb A B x y w h h' hra hrb t, hf, .inr (.inr ⟨rfl, hwd, hW, fun w h h' => radd_any na nb ao bo ca cb A B x y w h h' ra rb ⟨a1, a2⟩ ⟨b1, b2⟩ hfit.1 hfit.2, fun w h h' => rsub_any na nb ao bo ca cb A B x y w h h' ra rb ⟨a1, a2⟩ ⟨b1, b2⟩ hfit2.1 hfit2.2, Nat.lt_of_le_of_lt (oM_le _) z1, Nat.lt_of_le_of_lt (oM_le _) z2, ?_, ?_, ?_, ?_⟩)⟩
      · rw [p1, p2, p3]; exact t1.1
      · rw [p1, p2, p3]; exact t1.2
      · rw [q1, q2, q3]; exact t2.1
      · rw [q1, q2, q3]; exact t2.2
    · have hwd : (widB A x (lowR A.length B.length x y) || widB B y (lowR A.length B.length x y)) = true := by
        rw [← Bool.not_eq_false]; exact fun h => hfit (hwf.1 h)
      have hfit2 : ¬ (upE (sval na A) x (lowE (sval na A) x (- sval nb B) y) = 0 ∧ upE (- sval nb B) y (lowE (sval na A) x (- sval nb B) y) = 0) := by rw [lowE_neg, upE_neg]; exact hfit
      obtain ⟨p1, p2, p3⟩ := ad_wide hfit
      obtain ⟨q1, q2, q3⟩ := ad_wide hfit2
      exact ⟨_, _, _, _, _, _, 0, 0, 0, 0, 0, _, fun w h h' t => dadd_right na nb ao bo ca cb A B x y w h h' hra hrb t, fun w h h' t => dsub_right na nb ao bo ca cb A B x y w h h' hra hrb t, hf, .inr (.inl ⟨rfl, hwd, hW, p1, p2, p3, q1, q2, q3⟩)⟩
  · have hr' : (drB na A x && drB nb B y) = false := by simpa using hr
    refine ⟨1, 0, 0, 1, 0, 0, 1, 0, 0, 0, 0, true, fun w h h' t => dadd_wrong na nb ao bo ca cb A B x y w h h' (by omega) (by omega) hr' t, fun w h h' t => dsub_wrong na nb ao bo ca cb A B x y w h h' (by omega) (by omega) hr' t, fun w h h' => ?_, .inl ⟨rfl, rfl, rfl, rfl, rfl, rfl, rfl⟩⟩
    have := form2_any na nb ao bo ca cb A B x y w h h' (by omega) (by omega)
    unfold drE2 at this
    rw [hr'] at this
    exact this

set_option maxHeartbeats 4000000 in
theorem dsums_walk (na nb : Bool) (ao bo : Option Addr) (ca cb : Nat) (A B : List Nat) (x y : Int) (w : World) (hA : LimbsAt w ao ca A) (hB : LimbsAt w bo cb B) (_la : A.length ≤ 35184372087808) (_lb : B.length ≤ 35184372087808) (_bx : -9223372036854775808 ≤ x ∧ x ≤ 9223372036854775807) (_by : -9223372036854775808 ≤ y ∧ y ≤ 9223372036854775807) (hT : Tab w) :
    Calls Tryd.prog 5 #[.agg #[.bool na, .slice ao A.length ca, .int .i64 x], .agg #[.bool nb, .slice bo B.length cb, .int .i64 y]] w fun e w' => e = .returned (.bool true) ∧ Below w.heap.size w w' := by
  have CL := hide (fun w' => light2_any na nb ao bo ca cb A.length B.length x y w')
  have hb0 : Below w.heap.size w ((w.alloc (.cells #[.bool na, .slice ao A.length ca, .int .i64 x] 26)).alloc (.cells #[.bool nb, .slice bo B.length cb, .int .i64 y] 26)) := ((Below.refl _ _).alloc (Nat.le_refl _) _).alloc (by simp) _
  have x0 : Box3 ((w.alloc (.cells #[.bool na, .slice ao A.length ca, .int .i64 x] 26)).alloc (.cells #[.bool nb, .slice bo B.length cb, .int .i64 y] 26)) w.heap.size (.bool na) (.slice ao A.length ca) (.int .i64 x) := (Box3.new _ _ _ _).old _
  have x1 : Box3 ((w.alloc (.cells #[.bool na, .slice ao A.length ca, .int .i64 x] 26)).alloc (.cells #[.bool nb, .slice bo B.length cb, .int .i64 y] 26)) (w.heap.size + 1) (.bool nb) (.slice bo B.length cb) (.int .i64 y) := by
    have := Box3.new (w.alloc (.cells #[.bool na, .slice ao A.length ca, .int .i64 x] 26)) (.bool nb) (.slice bo B.length cb) (.int .i64 y)
    simpa using this
  have B0 := hide hb0; have X0 := hide x0; have X1 := hide x1
  clear hb0 x0 x1
  by_cases hl : A.length ≤ 30 ∧ B.length ≤ 30
  case neg =>
    rw [decide_eq_false hl] at CL
    clear hl
    go_enter Tryd.func5, Tryd.ntmps5
    go_wp2_with fail
    refine (unhide CL _).mono ?_
    rintro e w1 ⟨rfl, hb1⟩
    have B1 := hide ((unhide B0).trans (hb1.mono (unhide B0).size))
    clear hb1
    go_wp2_with (go_at_call 13; refine (awake2_any _ (hT.all (unhide B1))).mono ?_; rintro e w4 ⟨rfl, hb2⟩)
    go_ret
    exact ⟨rfl, (unhide B1).trans (hb2.mono (unhide B1).size)⟩
  rw [decide_eq_true hl] at CL
  obtain ⟨e1, m1, ex1, e2, m2, ex2, f0, om, ox, om2, ox2, wd, cM, cS, cF, ways⟩ := sums_ways na nb ao bo ca cb A B x y hl.1 hl.2 hA.2.1 hB.2.1
  have CM := hide cM; have CF := hide cF; have CS := hide cS; have WAYS := hide ways
  clear cM cF cS ways hl _la _lb _bx _by
  go_enter Tryd.func5, Tryd.ntmps5
  go_wp2_with fail
  -- light(a, b)
  refine (unhide CL _).mono ?_
  rintro e w1 ⟨rfl, hb1⟩
  have y0 := (unhide X0).all hb1; have y1 := (unhide X1).all hb1
  have b1 := (unhide B0).trans (hb1.mono (unhide B0).size)
  have p0 := y0.c0; have p1 := y0.c1; have p2 := y0.c2
  have q0 := y1.c0; have q1 := y1.c1; have q2 := y1.c2
  have X0' := hide y0; have X1' := hide y1; have B1 := hide b1
  clear hb1 y0 y1 b1 X0 X1 B0 CL
  go_wp2_with fail
  -- s, e := Add(a, b)
  refine (unhide CM _ (hA.below (unhide B1)) (hB.below (unhide B1)) (hT.all (unhide B1))).mono ?_
  rintro r w2 ⟨⟨v, rfl, iv⟩, hb1⟩
  obtain ⟨n3, a3, c3, L3, rfl, i3⟩ := iv.num
  have bN : Below w2.heap.size w2 (w2.alloc (.cells #[.bool n3, .slice a3 L3.length c3, .int .i64 ex1] 26)) := (Below.refl _ _).alloc (Nat.le_refl _) _
  have y0 := ((unhide X0').all hb1).all bN; have y1 := ((unhide X1').all hb1).all bN
  have b1 := (unhide B1).trans (hb1.mono (unhide B1).size)
  have b2 := b1.trans (bN.mono b1.size)
  have z0 := Box3.new w2 (.bool n3) (.slice a3 L3.length c3) (.int .i64 ex1)
  have IP := hide (iv.below bN)
  clear p0 p1 p2 q0 q1 q2 X0' X1' B1 hb1 iv i3 bN CM
  have p0 := y0.c0; have p1 := y0.c1; have p2 := y0.c2
  have q0 := y1.c0; have q1 := y1.c1; have q2 := y1.c2
  have X0' := hide y0; have X1' := hide y1; have Z0 := hide z0; have B1 := hide b2
  clear y0 y1 z0 b1 b2
  go_wp2_with fail
  -- d, f := Sub(a, b)
  refine (unhide CS _ (hA.below (unhide B1)) (hB.below (unhide B1)) (hT.all (unhide B1))).mono ?_
  rintro r w3 ⟨⟨v, rfl, iv⟩, hb1⟩
  obtain ⟨n4, a4, c4, L4, rfl, i4⟩ := iv.num
  have bN : Below w3.heap.size w3 (w3.alloc (.cells #[.bool n4, .slice a4 L4.length c4, .int .i64 ex2] 26)) := (Below.refl _ _).alloc (Nat.le_refl _) _
  have y0 := ((unhide X0').all hb1).all bN; have y1 := ((unhide X1').all hb1).all bN; have z0 := ((unhide Z0).all hb1).all bN
  have b1 := (unhide B1).trans (hb1.mono (unhide B1).size)
  have b2 := b1.trans (bN.mono b1.size)
  have z1 := Box3.new w3 (.bool n4) (.slice a4 L4.length c4) (.int .i64 ex2)
  have IP' := hide (((unhide IP).below hb1).below bN); have IS := hide (iv.below bN)
  clear p0 p1 p2 q0 q1 q2 X0' X1' Z0 B1 hb1 iv i4 bN CS IP b1
  have p0 := y0.c0; have p1 := y0.c1; have p2 := y0.c2
  have q0 := y1.c0; have q1 := y1.c1; have q2 := y1.c2
  have X0' := hide y0; have X1' := hide y1; have Z0 := hide z0; have Z1 := hide z1; have B1 := hide b2; have IP := IP'
  clear y0 y1 z0 z1 b2 IP'
  go_wp2_with fail
  -- g := form(a, b)
  refine (unhide CF _ (hA.below (unhide B1)) (hB.below (unhide B1))).mono ?_
  rintro r w4 ⟨rfl, hb1⟩
  have y0 := (unhide X0').all hb1; have y1 := (unhide X1').all hb1; have z0 := (unhide Z0).all hb1; have z1 := (unhide Z1).all hb1
  have b1 := (unhide B1).trans (hb1.mono (unhide B1).size)
  have IP' := hide ((unhide IP).below hb1); have IS' := hide ((unhide IS).below hb1)
  clear p0 p1 p2 q0 q1 q2 X0' X1' Z0 Z1 B1 hb1 IP IS CF
  have IP := IP'; have IS := IS'; have B1 := hide b1
  clear IP' IS'
  rcases unhide WAYS with ⟨rfl, rfl, rfl, rfl, rfl, rfl, rfl⟩ | ⟨rfl, rfl, cW, rfl, rfl, rfl, rfl, rfl, rfl⟩ | ⟨rfl, rfl, cW, cRA, cRS, hTOP, hTOP2, t1, t2, u1, u2⟩
  · have q0 := z0.c0; have q1 := z0.c1; have q2 := z0.c2
    have Z1 := hide z1
    clear WAYS b1 y0 y1 z0 z1
    go_wp2_with (first | (go_at_call_of 16 (Value.agg #[.bool n3, .slice a3 L3.length c3, .int .i64 0]); refine (told2_any (unhide IP) (IsDy.zero _ none 0) TOP_pos (fun _ => ⟨rfl, rfl, rfl⟩) (fun h => absurd h (by decide)) (fun h => absurd h (by decide))).mono ?_; rintro e w6 ⟨rfl, hb1⟩; have B4 := hide ((unhide B1).trans (hb1.mono (unhide B1).size)); have q := (unhide Z1).all hb1; have p0 := q.c0; have p1 := q.c1; have p2 := q.c2; have IS2 := hide ((unhide IS).below hb1); clear hb1 q) | (go_at_call_of 16 (Value.agg #[.bool n4, .slice a4 L4.length c4, .int .i64 0]); refine (told2_any (unhide IS2) (IsDy.zero _ none 0) TOP_pos (fun _ => ⟨rfl, rfl, rfl⟩) (fun h => absurd h (by decide)) (fun h => absurd h (by decide))).mono ?_; rintro e w7 ⟨rfl, hb1⟩; have B5 := hide ((unhide B4).trans (hb1.mono (unhide B4).size)); clear hb1) | (go_at_call 13; refine (awake2_any _ (hT.all (unhide B5))).mono ?_; rintro e w8 ⟨rfl, hb2⟩))
    go_ret
    exact ⟨rfl, (unhide B5).trans (hb2.mono (unhide B5).size)⟩
  · have p0 := y0.c0; have p1 := y0.c1; have p2 := y0.c2
    have q0 := y1.c0; have q1 := y1.c1; have q2 := y1.c2
    have CW := hide cW
    have Z0 := hide z0; have Z1 := hide z1
    clear WAYS b1 y0 y1 z0 z1 cW
    go_wp2_with fail
    refine (unhide CW _ (hA.below (unhide B1)) (hB.below (unhide B1))).mono ?_
    rintro r w5 ⟨rfl, hb1⟩
    have z0 := (unhide Z0).all hb1; have z1 := (unhide Z1).all hb1
    have b1 := (unhide B1).trans (hb1.mono (unhide B1).size)
    have IP' := hide ((unhide IP).below hb1); have IS' := hide ((unhide IS).below hb1)
    clear p0 p1 p2 q0 q1 q2 Z0 Z1 B1 hb1 IP IS CW
    have IP := IP'; have IS := IS'; have B1 := hide b1; have Z1 := hide z1
    have q0 := z0.c0; have q1 := z0.c1; have q2 := z0.c2
    clear IP' IS' z0 z1 b1
    go_wp2_with (first | (go_at_call_of 16 (Value.agg #[.bool n3, .slice a3 L3.length c3, .int .i64 0]); refine (told2_any (unhide IP) (IsDy.zero _ none 0) TOP_pos (fun _ => ⟨rfl, rfl, rfl⟩) (fun h => absurd h (by decide)) (fun h => absurd h (by decide))).mono ?_; rintro e w6 ⟨rfl, hb1⟩; have B4 := hide ((unhide B1).trans (hb1.mono (unhide B1).size)); have q := (unhide Z1).all hb1; have p0 := q.c0; have p1 := q.c1; have p2 := q.c2; have IS2 := hide ((unhide IS).below hb1); clear hb1 q) | (go_at_call_of 16 (Value.agg #[.bool n4, .slice a4 L4.length c4, .int .i64 0]); refine (told2_any (unhide IS2) (IsDy.zero _ none 0) TOP_pos (fun _ => ⟨rfl, rfl, rfl⟩) (fun h => absurd h (by decide)) (fun h => absurd h (by decide))).mono ?_; rintro e w7 ⟨rfl, hb1⟩; have B5 := hide ((unhide B4).trans (hb1.mono (unhide B4).size)); clear hb1) | (go_at_call 13; refine (awake2_any _ (hT.all (unhide B5))).mono ?_; rintro e w8 ⟨rfl, hb2⟩))
    go_ret
    exact ⟨rfl, (unhide B5).trans (hb2.mono (unhide B5).size)⟩
  have p0 := y0.c0; have p1 := y0.c1; have p2 := y0.c2
  have q0 := y1.c0; have q1 := y1.c1; have q2 := y1.c2
  have CW := hide cW; have CRA := hide cRA; have CRS := hide cRS; have HTOP := hide (fun _ : Unit => hTOP); have HTOP2 := hide (fun _ : Unit => hTOP2); have T1 := hide t1; have T2 := hide t2; have U1 := hide u1; have U2 := hide u2
  have X0' := hide y0; have X1' := hide y1; have Z0 := hide z0; have Z1 := hide z1
  clear WAYS b1 y0 y1 z0 z1 cW cRA cRS hTOP hTOP2 t1 t2 u1 u2
  go_wp2_with fail
  refine (unhide CW _ (hA.below (unhide B1)) (hB.below (unhide B1))).mono ?_
  rintro r w5 ⟨rfl, hb1⟩
  have y0 := (unhide X0').all hb1; have y1 := (unhide X1').all hb1; have z0 := (unhide Z0).all hb1; have z1 := (unhide Z1).all hb1
  have b1 := (unhide B1).trans (hb1.mono (unhide B1).size)
  have ip := (unhide IP).below hb1; have is' := (unhide IS).below hb1
  clear p0 p1 p2 q0 q1 q2 X0' X1' Z0 Z1 B1 hb1 IP IS CW
  have X0' := hide y0; have X1' := hide y1; have Z0 := hide z0; have Z1 := hide z1; have B1 := hide b1; have IP := hide ip; have IS := hide is'
  clear y0 y1 z0 z1 b1 ip is'
  go_wp2
  refine at_world (fun W => Below w.heap.size w W ∧ Box3 W w.heap.size (.bool na) (.slice ao A.length ca) (.int .i64 x) ∧ Box3 W (w.heap.size + 1) (.bool nb) (.slice bo B.length cb) (.int .i64 y) ∧ Box3 W w2.heap.size (.bool n3) (.slice a3 L3.length c3) (.int .i64 ex1) ∧ Box3 W w3.heap.size (.bool n4) (.slice a4 L4.length c4) (.int .i64 ex2) ∧ IsDy W (.agg #[.bool n3, .slice a3 L3.length c3, .int .i64 ex1]) m1 ex1 ∧ IsDy W (.agg #[.bool n4, .slice a4 L4.length c4, .int .i64 ex2]) m2 ex2) ⟨unhide B1, unhide X0', unhide X1', unhide Z0, unhide Z1, unhide IP, unhide IS⟩ ?_
  clear B1 X0' X1' Z0 Z1 IP IS
  rintro W0 ⟨b0, x0, x1, z0, z1, ip, is'⟩
  have hK : ∀ w', Below W0.heap.size W0 w' → Below W0.heap.size W0 w' ∧ w'.cell? ⟨w.heap.size, 0, none⟩ = some (.bool na) ∧ w'.cell? ⟨w.heap.size, 1, none⟩ = some (.slice ao A.length ca) ∧ w'.cell? ⟨w.heap.size, 2, none⟩ = some (.int .i64 x) ∧ w'.cell? ⟨w.heap.size + 1, 0, none⟩ = some (.bool nb) ∧ w'.cell? ⟨w.heap.size + 1, 1, none⟩ = some (.slice bo B.length cb) ∧ w'.cell? ⟨w.heap.size + 1, 2, none⟩ = some (.int .i64 y) ∧ w'.cell? ⟨w2.heap.size, 0, none⟩ = some (.bool n3) ∧ w'.cell? ⟨w2.heap.size, 1, none⟩ = some (.slice a3 L3.length c3) ∧ w'.cell? ⟨w2.heap.size, 2, none⟩ = some (.int .i64 ex1) ∧ w'.cell? ⟨w3.heap.size, 0, none⟩ = some (.bool n4) ∧ w'.cell? ⟨w3.heap.size, 1, none⟩ = some (.slice a4 L4.length c4) ∧ w'.cell? ⟨w3.heap.size, 2, none⟩ = some (.int .i64 ex2) := fun w' h =>
    ⟨h, (x0.all h).c0, (x0.all h).c1, (x0.all h).c2, (x1.all h).c0, (x1.all h).c1, (x1.all h).c2, (z0.all h).c0, (z0.all h).c1, (z0.all h).c2, (z1.all h).c0, (z1.all h).c1, (z1.all h).c2⟩
  have HK := hide hK
  have HA := hide (hA.below b0); have HB := hide (hB.below b0); have BB := hide b0; have IP := hide ip; have IS := hide is'; have HT := hide (hT.all b0)
  clear hK b0 x0 x1 z0 z1 ip is'
  go_region_held3 (fun w' => Below W0.heap.size W0 w' ∧ w'.cell? ⟨w.heap.size, 0, none⟩ = some (.bool na) ∧ w'.cell? ⟨w.heap.size, 1, none⟩ = some (.slice ao A.length ca) ∧ w'.cell? ⟨w.heap.size, 2, none⟩ = some (.int .i64 x) ∧ w'.cell? ⟨w.heap.size + 1, 0, none⟩ = some (.bool nb) ∧ w'.cell? ⟨w.heap.size + 1, 1, none⟩ = some (.slice bo B.length cb) ∧ w'.cell? ⟨w.heap.size + 1, 2, none⟩ = some (.int .i64 y) ∧ w'.cell? ⟨w2.heap.size, 0, none⟩ = some (.bool n3) ∧ w'.cell? ⟨w2.heap.size, 1, none⟩ = some (.slice a3 L3.length c3) ∧ w'.cell? ⟨w2.heap.size, 2, none⟩ = some (.int .i64 ex1) ∧ w'.cell? ⟨w3.heap.size, 0, none⟩ = some (.bool n4) ∧ w'.cell? ⟨w3.heap.size, 1, none⟩ = some (.slice a4 L4.length c4) ∧ w'.cell? ⟨w3.heap.size, 2, none⟩ = some (.int .i64 ex2))
    (first | exact unhide HK _ (Below.refl _ _).drew | exact unhide HK _ (by assumption))
    (first | (go_at_call 23; refine (unhide CRA _ ((unhide HA).below (And.left (by assumption))) ((unhide HB).below (And.left (by assumption)))).mono ?_; rintro e wn ⟨u, rfl, iu, hb1⟩; have hB : Below W0.heap.size W0 wn := Below.trans (And.left (by assumption)) (hb1.mono (Below.size (And.left (by assumption)))); obtain ⟨n5, a5, c5, L5, rfl, i5⟩ := iu.num; have J1 := hide iu; clear hb1 iu i5) | (go_at_call 24; refine (unhide CRS _ ((unhide HA).below (And.left (by assumption))) ((unhide HB).below (And.left (by assumption)))).mono ?_; rintro e wn ⟨u, rfl, iu, hb1⟩; have hB : Below W0.heap.size W0 wn := Below.trans (And.left (by assumption)) (hb1.mono (Below.size (And.left (by assumption)))); obtain ⟨n6, a6, c6, L6, rfl, i6⟩ := iu.num; have J2 := hide iu; clear hb1 iu i6) | (go_at_call_of 16 (Value.agg #[.bool n3, .slice a3 L3.length c3, .int .i64 ex1]); refine (told2_any ((unhide IP).below (And.left (by assumption))) (unhide J1) (unhide HTOP ()) (fun h => absurd rfl h) (fun _ h => unhide T1 h) (fun _ h => unhide T2 h)).mono ?_; rintro e wn ⟨rfl, hb1⟩; have hB : Below W0.heap.size W0 wn := Below.trans (And.left (by assumption)) (hb1.mono (Below.size (And.left (by assumption)))); clear hb1) | (go_at_call_of 16 (Value.agg #[.bool n4, .slice a4 L4.length c4, .int .i64 ex2]); refine (told2_any ((unhide IS).below (And.left (by assumption))) (unhide J2) (unhide HTOP2 ()) (fun h => absurd rfl h) (fun _ h => unhide U1 h) (fun _ h => unhide U2 h)).mono ?_; rintro e wn ⟨rfl, hb1⟩; have hB : Below W0.heap.size W0 wn := Below.trans (And.left (by assumption)) (hb1.mono (Below.size (And.left (by assumption)))); clear hb1) | (go_at_call 13; refine (awake2_any _ ((unhide HT).all (And.left (by assumption)))).mono ?_; rintro e wn ⟨rfl, hb1⟩; have hB : Below W0.heap.size W0 wn := Below.trans (And.left (by assumption)) (hb1.mono (Below.size (And.left (by assumption)))); clear hb1))
  go_wp2
  go_ret
  exact ⟨rfl, (unhide BB).trans (Below.mono (And.left (by assumption)) (unhide BB).size)⟩

end Go.Proofs.YtinlddkdkgepjaaDoor

/- A struct of a sign and limbs that came in, opened. -/
namespace Go.Proofs.YtinlddkdkgepjaaDoor
open Go.ChangeShapes Go.WideShapes Go.ChangeAt Go.RowKit Go.Joins

theorem Tryd.own : ownKnob Tryd.prog.godebug = none := by kernel_rfl
theorem Tryd.laidOut : laidOutB Tryd.prog = true := by kernel_rfl
theorem Tryd.cellsW : Tryd.prog.cellsOf 24 = 2 := by kernel_rfl
theorem Tryd.cellsU : Tryd.prog.cellsOf 53 = 1 := by kernel_rfl
theorem Tryd.bytesU : Tryd.prog.bytesOf 53 = 4 := by kernel_rfl

theorem bounds_of_u32 {x : Int} (h : (Lit.int .u32 x).wf = true) : 0 ≤ x ∧ x < 4294967296 := by
  simp [Lit.wf, IntKind.min, IntKind.max, IntKind.signed, IntKind.bits] at h
  omega

theorem limbs_of_ints {W : World} {a : Addr} {len cap : Nat} {zs : List Int} (hl : len ≤ cap) (hz : zs.length = cap) (hc : ∀ i, i < zs.length → W.cell? (a.add i) = some (.int .u32 (zs.getD i 0))) (hw : ∀ n ∈ zs, (Lit.int .u32 n).wf = true) :
    LimbsAt W (some a) cap ((zs.take len).map Int.toNat) ∧ ((zs.take len).map Int.toNat).length = len := by
  have hlen : ((zs.take len).map Int.toNat).length = len := by simp; omega
  refine ⟨⟨by omega, ?_, ?_⟩, hlen⟩
  · intro x hx
    obtain ⟨y, hy, rfl⟩ := List.mem_map.1 hx
    have := bounds_of_u32 (hw y (List.mem_of_mem_take hy))
    omega
  · rcases Nat.eq_zero_or_pos len with rfl | hp
    · left; simp
    · right
      obtain ⟨b, off, spot⟩ := a
      have h0 := hc 0 (by omega)
      have hspot : spot = none := by simpa [Addr.add] using World.cell?_spot h0
      subst hspot
      have hb : b < W.heap.size := by
        have := World.block_lt_of_cell? W _ h0
        simpa [Addr.add] using this
      refine ⟨b, off, rfl, hb, fun i hi => ?_⟩
      have h1 := hc i (by omega)
      have h2 : (0 : Int) ≤ zs[i]'(by omega) := (bounds_of_u32 (hw _ (List.getElem_mem _))).1
      have h3 : (⟨b, off, none⟩ : Addr).add i = ⟨b, off + i, none⟩ := by simp [Addr.add]
      rw [h3] at h1
      rw [h1]
      have e : ((zs.take len).map Int.toNat)[i]?.getD 0 = (zs[i]'(by omega)).toNat := by
        rw [List.getElem?_map, List.getElem?_take, if_pos (by omega), List.getElem?_eq_getElem (by omega)]; rfl
      rw [e, List.getD_eq_getElem?_getD, List.getElem?_eq_getElem (by omega)]
      simp only [Option.getD_some, Option.some.injEq, Value.int.injEq, true_and]
      omega

/-- A number that came in: its sign, its limbs, where they lie; by the row's own reach they are not too many. -/
theorem open_whole {H : Type} {enc : TypeId × Value → H} {W : World} {base : Nat} {v : Value} {d : DataW H} {p : List MemPlace} (hval : Value.okWide Tryd.prog W .any base 24 v) (h : DataW.Trod enc Tryd.prog W 0 (fun _ => true) true 24 v d p)
    (hs : ∀ n ∈ d.weights Tryd.prog 24, n ≤ reachBytes) :
    ∃ neg ao cap L, v = .agg #[.bool neg, .slice ao L.length cap] ∧ LimbsAt W ao cap L ∧ L.length ≤ 35184372087808 := by
  obtain ⟨c0, c1, y0, y1, m, rfl, rfl, rfl, hy0, hy1⟩ := open_agg2 Tryd.underlying24 (by kernel_rfl) Tryd.cellsW hval h
  obtain ⟨neg, e0, rfl⟩ := DataW.trod_bool Tryd.underlying4 hy0
  simp at e0
  subst e0
  rcases open_ints Tryd.underlying22 Tryd.underlying53 Tryd.cellsU hy1 with ⟨hcs, _⟩ | ⟨a, len, cap, zs, hcs, _, hl, hm, hz, rfl, hcell, hwz⟩
  · simp at hcs
    subst hcs
    exact ⟨neg, none, 0, [], rfl, LimbsAt.nil _ _ _, by simp⟩
  · simp at hcs
    subst hcs
    obtain ⟨h1, h2⟩ := limbs_of_ints hl (by simpa using hz) hcell hwz
    refine ⟨neg, some a, cap, _, by rw [h2], h1, ?_⟩
    have hk := hs ((zs.length) * 4) (by
      simp only [DataW.weights, Tryd.underlying24, DataW.weightsEach, List.map, Tryd.underlying22, List.nil_append, List.append_nil, List.mem_cons, Tryd.bytesU, lits, List.length_map, List.length_take, List.length_drop]
      left
      omega)
    simp only [reachBytes] at hk
    rw [h2]
    have : zs.length = cap := by simpa using hz
    omega

end Go.Proofs.YtinlddkdkgepjaaDoor

/- The bounds of an int or int64 that came in. -/
namespace Go.Proofs.YtinlddkdkgepjaaDoor

theorem bounds_of_i64 {x : Int} (h : (Lit.int .i64 x).wf = true) : -9223372036854775808 ≤ x ∧ x ≤ 9223372036854775807 := by
  simp [Lit.wf, IntKind.min, IntKind.max, IntKind.signed, IntKind.bits] at h
  omega

end Go.Proofs.YtinlddkdkgepjaaDoor

