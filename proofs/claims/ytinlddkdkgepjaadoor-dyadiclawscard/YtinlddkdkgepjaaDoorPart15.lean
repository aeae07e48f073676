/- Part 15 of the texts. -/
import Derived.Test.YtinlddkdkgepjaaDoorPart14
/- Contracts of the reference's Add, Sub. -/
namespace Go.Proofs.YtinlddkdkgepjaaDoor
open Go.RowKit
attribute [local go_sem ↓] Go.wp_at_zero Go.wp_at_succ

theorem refAdd_num {B B' : Nat} {w : World} {v u : Value} {x y : Int} (hv : IsNum B w v x) (hu : IsNum B' w u y) (hx : x.natAbs < TOP) (hy : y.natAbs < TOP) :
    Calls Tryd.prog 48 #[v, u] w fun e w' => ∃ r, e = .returned r ∧ IsNumM 513 w.heap.size w' r (x + y) ∧ Below w.heap.size w w' := by
  obtain ⟨na, ao, ca, A, rfl, a1, a2, a3, a4⟩ := hv.right hx
  obtain ⟨nb, bo, cb, C, rfl, b1, b2, b3, b4⟩ := hu.right hy
  have := refAdd_any na nb ao bo ca cb A C w a1 b1 (by omega) (by omega)
  rw [a3, b3] at this
  exact this.mono fun e w' ⟨r, h1, h2, h3⟩ => ⟨r, h1, h2.more (by omega), h3⟩

theorem upE_le {s x l : Int} (h : upE s x l = 0) : x - l ≤ 16384 := by
  unfold upE at h
  by_cases h1 : (up s x l).natAbs < TOP ∧ x - l ≤ 16384
  · exact h1.2
  · rw [if_neg h1] at h; exact absurd h (by decide)

set_option maxHeartbeats 4000000 in
theorem radd_any (na nb : Bool) (ao bo : Option Addr) (ca cb : Nat) (A B : List Nat) (x y : Int) (w : World) (hA : LimbsAt w ao ca A) (hB : LimbsAt w bo cb B) (ra : rightB na A = true) (rb : rightB nb B = true) (hx : -16384 ≤ x ∧ x ≤ 16384) (hy : -16384 ≤ y ∧ y ≤ 16384) (e1 : upE (sval na A) x (lowE (sval na A) x (sval nb B) y) = 0) (e2 : upE (sval nb B) y (lowE (sval na A) x (sval nb B) y) = 0) :
    Calls Tryd.prog 23 #[.agg #[.bool na, .slice ao A.length ca, .int .i64 x], .agg #[.bool nb, .slice bo B.length cb, .int .i64 y]] w fun r w' => ∃ v, r = .returned v ∧ IsDy w' v (oM (sumZ (sval na A) x (sval nb B) y)) (oE (sumZ (sval na A) x (sval nb B) y) (lowE (sval na A) x (sval nb B) y)) ∧ Below w.heap.size w w' := by
  have CL := hide (fun w' => low_any na nb ao bo ca cb A.length B.length x y w')
  have hlb := lowR_bounds A.length B.length x y hx hy
  rw [lowR_E ra rb] at CL hlb
  have g1 : A.length ≠ 0 → lowE (sval na A) x (sval nb B) y ≤ x := fun h => by
    unfold lowE
    rw [if_neg (fun e => h ((sval_zero_iff ra).1 e))]
    split <;> omega
  have g2 : B.length ≠ 0 → lowE (sval na A) x (sval nb B) y ≤ y := fun h => by
    unfold lowE
    split
    · omega
    · rw [if_neg (fun e => h ((sval_zero_iff rb).1 e))]; omega
  obtain ⟨z, hz⟩ : ∃ z, sumZ (sval na A) x (sval nb B) y = z := ⟨_, rfl⟩
  have hz2 : z = up (sval na A) x (lowE (sval na A) x (sval nb B) y) + up (sval nb B) y (lowE (sval na A) x (sval nb B) y) := by rw [← hz]; rfl
  rw [hz]
  clear hz
  generalize lowE (sval na A) x (sval nb B) y = l at *
  have CLA := hide (fun w' h => level_any na ao ca A x l w' h ra (fun h0 => ⟨g1 h0, upE_le e1⟩) hx hlb)
  have CLB := hide (fun w' h => level_any nb bo cb B y l w' h rb (fun h0 => ⟨g2 h0, upE_le e2⟩) hy hlb)
  have CAD := hide (fun w' u v (iu : IsNum 0 w' u (up (sval na A) x l)) (iv : IsNum 0 w' v (up (sval nb B) y l)) => refAdd_num iu iv (upE_TOP e1) (upE_TOP e2))
  rw [← hz2] at CAD
  have CO := hide (fun w' u B' (iu : IsNumM 513 B' w' u z) => rof_small l iu (by decide) (by omega))
  clear ra rb e1 e2 hz2 g1 g2 hx hy
  generalize oE z l = ox at *
  generalize oM z = om at *
  generalize up (sval na A) x l = za at *
  generalize up (sval nb B) y l = zb at *
  obtain ⟨hl1, hl2⟩ := hlb
  have hb0 : Below w.heap.size w (((w.alloc (.cells #[.bool na, .slice ao A.length ca, .int .i64 x] 26)).alloc (.cells #[.bool nb, .slice bo B.length cb, .int .i64 y] 26)).alloc (.cells #[.bool false, .slice none 0 0, .int .i64 0] 26)) :=
    (((Below.refl _ _).alloc (Nat.le_refl _) _).alloc (by simp) _).alloc (by simp; omega) _
  have x0 : Box3 (((w.alloc (.cells #[.bool na, .slice ao A.length ca, .int .i64 x] 26)).alloc (.cells #[.bool nb, .slice bo B.length cb, .int .i64 y] 26)).alloc (.cells #[.bool false, .slice none 0 0, .int .i64 0] 26)) w.heap.size (.bool na) (.slice ao A.length ca) (.int .i64 x) := ((Box3.new _ _ _ _).old _).old _
  have x1 : Box3 (((w.alloc (.cells #[.bool na, .slice ao A.length ca, .int .i64 x] 26)).alloc (.cells #[.bool nb, .slice bo B.length cb, .int .i64 y] 26)).alloc (.cells #[.bool false, .slice none 0 0, .int .i64 0] 26)) (w.heap.size + 1) (.bool nb) (.slice bo B.length cb) (.int .i64 y) := by
    have := (Box3.new (w.alloc (.cells #[.bool na, .slice ao A.length ca, .int .i64 x] 26)) (.bool nb) (.slice bo B.length cb) (.int .i64 y)).old (.cells #[.bool false, .slice none 0 0, .int .i64 0] 26)
    simpa using this
  have x2 : Box3 (((w.alloc (.cells #[.bool na, .slice ao A.length ca, .int .i64 x] 26)).alloc (.cells #[.bool nb, .slice bo B.length cb, .int .i64 y] 26)).alloc (.cells #[.bool false, .slice none 0 0, .int .i64 0] 26)) (w.heap.size + 1 + 1) (.bool false) (.slice none 0 0) (.int .i64 0) := by
    have := Box3.new ((w.alloc (.cells #[.bool na, .slice ao A.length ca, .int .i64 x] 26)).alloc (.cells #[.bool nb, .slice bo B.length cb, .int .i64 y] 26)) (.bool false) (.slice none 0 0) (.int .i64 0)
    simpa using this
  have B0 := hide hb0; have X0 := hide x0; have X1 := hide x1; have X2 := hide x2
  clear hb0 x0 x1 x2
  go_enter Tryd.func23, Tryd.ntmps23
  go_wp2_with fail
  refine (unhide CL _).mono ?_
  rintro r w1 ⟨rfl, hb1⟩
  have x0 := (unhide X0).all hb1; have x1 := (unhide X1).all hb1; have x2 := (unhide X2).all hb1
  have b1 := (unhide B0).trans (hb1.mono (unhide B0).size)
  have X0' := hide x0; have X1' := hide x1; have X2' := hide x2; have B1 := hide b1
  clear hb1 x0 x1 x2 b1 X0 X1 X2 B0 CL
  go_wp2_with fail
  refine at_world (fun W => Below w.heap.size w W ∧ Box3 W w.heap.size (.bool na) (.slice ao A.length ca) (.int .i64 x) ∧ Box3 W (w.heap.size + 1) (.bool nb) (.slice bo B.length cb) (.int .i64 y) ∧ Box3 W (w.heap.size + 1 + 1) (.bool false) (.slice none 0 0) (.int .i64 0)) ⟨unhide B1, unhide X0', unhide X1', unhide X2'⟩ ?_
  clear B1 X0' X1' X2'
  rintro W0 ⟨b0, x0, x1, x2⟩
  have s0 : w.heap.size + 1 + 1 < W0.heap.size := x2.lt
  have hK : ∀ w', Below (w.heap.size + 1 + 1) W0 w' → Below (w.heap.size + 1 + 1) W0 w' ∧ w'.cell? ⟨w.heap.size, 0, none⟩ = some (.bool na) ∧ w'.cell? ⟨w.heap.size, 1, none⟩ = some (.slice ao A.length ca) ∧ w'.cell? ⟨w.heap.size, 2, none⟩ = some (.int .i64 x) ∧ w'.cell? ⟨w.heap.size + 1, 0, none⟩ = some (.bool nb) ∧ w'.cell? ⟨w.heap.size + 1, 1, none⟩ = some (.slice bo B.length cb) ∧ w'.cell? ⟨w.heap.size + 1, 2, none⟩ = some (.int .i64 y) := fun w' h =>
    ⟨h, (x0.below h (by omega)).c0, (x0.below h (by omega)).c1, (x0.below h (by omega)).c2, (x1.below h (by omega)).c0, (x1.below h (by omega)).c1, (x1.below h (by omega)).c2⟩
  have HK := hide hK; have BB := hide b0; have X2 := hide x2
  clear hK b0 x0 x1 x2
  go_region_held3 (fun w' => Below (w.heap.size + 1 + 1) W0 w' ∧ w'.cell? ⟨w.heap.size, 0, none⟩ = some (.bool na) ∧ w'.cell? ⟨w.heap.size, 1, none⟩ = some (.slice ao A.length ca) ∧ w'.cell? ⟨w.heap.size, 2, none⟩ = some (.int .i64 x) ∧ w'.cell? ⟨w.heap.size + 1, 0, none⟩ = some (.bool nb) ∧ w'.cell? ⟨w.heap.size + 1, 1, none⟩ = some (.slice bo B.length cb) ∧ w'.cell? ⟨w.heap.size + 1, 2, none⟩ = some (.int .i64 y))
    (first | exact unhide HK _ (Below.refl _ _).drew | exact unhide HK _ (by assumption) | exact unhide HK _ (below_put3 hB4 (by omega) _ _ _))
    (first | (go_at_call_of 49 (Value.agg #[.bool na, .slice ao A.length ca, .int .i64 x]); refine (unhide CLA _ (hA.below ((unhide BB).trans ((Below.refl _ _).drew)))).mono ?_; rintro e w3 ⟨v, rfl, ⟨n1, a1, c1, L1, rfl, i1⟩, hb1⟩; have hB1 : Below (w.heap.size + 1 + 1) W0 w3 := ((Below.refl _ _).drew).trans (hb1.mono (by simp; omega)); have X3 := hide ((unhide X2).drew.below hb1 (by simp; omega)); have IA := hide (show IsNum 0 w3 (.agg #[.bool n1, .slice a1 L1.length c1]) za from ⟨n1, a1, c1, L1, rfl, i1⟩); have s1 : w.heap.size + 1 + 1 < w3.heap.size := (by have := hb1.size; simp at this; omega); have BB1 := hide ((unhide BB).trans (hB1.mono (by omega))); clear hb1 i1) | (go_at_call_of 49 (Value.agg #[.bool nb, .slice bo B.length cb, .int .i64 y]); refine (unhide CLB _ (hB.below (unhide BB1))).mono ?_; rintro e w4 ⟨v, rfl, ⟨n2, a2, c2, L2, rfl, i2⟩, hb2⟩; have hB2 : Below (w.heap.size + 1 + 1) W0 w4 := hB1.trans (hb2.mono (by omega)); have X4 := hide ((unhide X3).below hb2 (by omega)); have IA2 := hide ((unhide IA).below hb2); have IB := hide (show IsNum 0 w4 (.agg #[.bool n2, .slice a2 L2.length c2]) zb from ⟨n2, a2, c2, L2, rfl, i2⟩); have s2 : w.heap.size + 1 + 1 < w4.heap.size := (by have := hb2.size; omega); have BB2 := hide ((unhide BB1).trans (hb2.mono (by omega))); clear hb2 i2) | (go_at_call 48; refine (unhide CAD _ _ _ (unhide IA2) (unhide IB)).mono ?_; rintro e w5 ⟨v, rfl, ⟨n3, a3, c3, L3, rfl, i3⟩, hb3⟩; have hB3 : Below (w.heap.size + 1 + 1) W0 w5 := hB2.trans (hb3.mono (by omega)); have X5 := hide ((unhide X4).below hb3 (by omega)); have IZ := hide (show IsNumM 513 w4.heap.size w5 (.agg #[.bool n3, .slice a3 L3.length c3]) z from ⟨n3, a3, c3, L3, rfl, i3⟩); have s3 : w.heap.size + 1 + 1 < w5.heap.size := (by have := hb3.size; omega); have BB3 := hide ((unhide BB2).trans (hb3.mono (by omega))); clear hb3 i3) | (go_at_call 17; refine (unhide CO _ _ _ (unhide IZ)).mono ?_; rintro e w6 ⟨u, rfl, iu, hb4⟩; obtain ⟨n5, a5, c5, L5, rfl, i5⟩ := iu.num; have hB4 : Below (w.heap.size + 1 + 1) W0 w6 := hB3.trans (hb4.mono (by omega)); have X6 := (unhide X5).below hb4 (by omega); have y0 := X6.c0; have y1 := X6.c1; have y2 := X6.c2; have f0 := X6.free 0; have f1 := X6.free 1; have f2 := X6.free 2; have IU := hide iu; have X7 := hide X6; have BB4 := hide ((unhide BB3).trans (hb4.mono (by omega))); clear hb4 iu i5 X6))
  go_wp2
  refine bodyPost_ret (v := .agg #[.bool n5, .slice a5 L5.length c5, .int .i64 ox]) (by simp [results, Tryd.results23, go_sem, y0, y1, y2]) rfl ⟨_, rfl, (unhide IU).put3 (unhide X7) _ _ _, below_put3 (unhide BB4) (by omega) _ _ _⟩

set_option maxHeartbeats 4000000 in
theorem rsub_any (na nb : Bool) (ao bo : Option Addr) (ca cb : Nat) (A B : List Nat) (x y : Int) (w : World) (hA : LimbsAt w ao ca A) (hB : LimbsAt w bo cb B) (ra : rightB na A = true) (rb : rightB nb B = true) (hx : -16384 ≤ x ∧ x ≤ 16384) (hy : -16384 ≤ y ∧ y ≤ 16384) (e1 : upE (sval na A) x (lowE (sval na A) x (- sval nb B) y) = 0) (e2 : upE (- sval nb B) y (lowE (sval na A) x (- sval nb B) y) = 0) :
    Calls Tryd.prog 24 #[.agg #[.bool na, .slice ao A.length ca, .int .i64 x], .agg #[.bool nb, .slice bo B.length cb, .int .i64 y]] w fun r w' => ∃ v, r = .returned v ∧ IsDy w' v (oM (sumZ (sval na A) x (- sval nb B) y)) (oE (sumZ (sval na A) x (- sval nb B) y) (lowE (sval na A) x (- sval nb B) y)) ∧ Below w.heap.size w w' := by
  have lb := (right_canon rb).1
  have tb := sval_TOP hB rb
  have CN := hide (fun w' h => rneg_any nb bo cb B y w' h lb)
  have CAD := hide (fun w' u (h : LimbsAt w' ao ca A) (iu : IsDy w' u (- sval nb B) y) => show Calls Tryd.prog 23 #[.agg #[.bool na, .slice ao A.length ca, .int .i64 x], u] w' fun r w'' => ∃ v, r = .returned v ∧ IsDy w'' v (oM (sumZ (sval na A) x (- sval nb B) y)) (oE (sumZ (sval na A) x (- sval nb B) y) (lowE (sval na A) x (- sval nb B) y)) ∧ Below w'.heap.size w' w'' by
    obtain ⟨n1, a1, c1, L1, rfl, q1, q2, q3, q4, q5⟩ := iu.right (by rw [Int.natAbs_neg]; exact tb)
    have := radd_any na n1 ao a1 ca c1 A L1 x y w' h q1 ra q2 hx hy (by rw [q3]; exact e1) (by rw [q3]; exact e2)
    rwa [q3] at this)
  clear ra rb hx hy e1 e2 tb
  generalize oE (sumZ (sval na A) x (- sval nb B) y) (lowE (sval na A) x (- sval nb B) y) = ox at *
  generalize oM (sumZ (sval na A) x (- sval nb B) y) = om at *
  generalize - sval nb B = sb at *
  have hb0 : Below w.heap.size w (((w.alloc (.cells #[.bool na, .slice ao A.length ca, .int .i64 x] 26)).alloc (.cells #[.bool nb, .slice bo B.length cb, .int .i64 y] 26)).alloc (.cells #[.bool false, .slice none 0 0, .int .i64 0] 26)) :=
    (((Below.refl _ _).alloc (Nat.le_refl _) _).alloc (by simp) _).alloc (by simp; omega) _
  have x0 : Box3 (((w.alloc (.cells #[.bool na, .slice ao A.length ca, .int .i64 x] 26)).alloc (.cells #[.bool nb, .slice bo B.length cb, .int .i64 y] 26)).alloc (.cells #[.bool false, .slice none 0 0, .int .i64 0] 26)) w.heap.size (.bool na) (.slice ao A.length ca) (.int .i64 x) := ((Box3.new _ _ _ _).old _).old _
  have x1 : Box3 (((w.alloc (.cells #[.bool na, .slice ao A.length ca, .int .i64 x] 26)).alloc (.cells #[.bool nb, .slice bo B.length cb, .int .i64 y] 26)).alloc (.cells #[.bool false, .slice none 0 0, .int .i64 0] 26)) (w.heap.size + 1) (.bool nb) (.slice bo B.length cb) (.int .i64 y) := by
    have := (Box3.new (w.alloc (.cells #[.bool na, .slice ao A.length ca, .int .i64 x] 26)) (.bool nb) (.slice bo B.length cb) (.int .i64 y)).old (.cells #[.bool false, .slice none 0 0, .int .i64 0] 26)
    simpa using this
  have x2 : Box3 (((w.alloc (.cells #[.bool na, .slice ao A.length ca, .int .i64 x] 26)).alloc (.cells #[.bool nb, .slice bo B.length cb, .int .i64 y] 26)).alloc (.cells #[.bool false, .slice none 0 0, .int .i64 0] 26)) (w.heap.size + 1 + 1) (.bool false) (.slice none 0 0) (.int .i64 0) := by
    have := Box3.new ((w.alloc (.cells #[.bool na, .slice ao A.length ca, .int .i64 x] 26)).alloc (.cells #[.bool nb, .slice bo B.length cb, .int .i64 y] 26)) (.bool false) (.slice none 0 0) (.int .i64 0)
    simpa using this
  have B0 := hide hb0; have X0 := hide x0; have X1 := hide x1; have X2 := hide x2
  clear hb0 x0 x1 x2
  go_enter Tryd.func24, Tryd.ntmps24
  go_wp2_with fail
  refine at_world (fun W => Below w.heap.size w W ∧ Box3 W w.heap.size (.bool na) (.slice ao A.length ca) (.int .i64 x) ∧ Box3 W (w.heap.size + 1) (.bool nb) (.slice bo B.length cb) (.int .i64 y) ∧ Box3 W (w.heap.size + 1 + 1) (.bool false) (.slice none 0 0) (.int .i64 0)) ⟨unhide B0, unhide X0, unhide X1, unhide X2⟩ ?_
  clear B0 X0 X1 X2
  rintro W0 ⟨b0, x0, x1, x2⟩
  have s0 : w.heap.size + 1 + 1 < W0.heap.size := x2.lt
  have hK : ∀ w', Below (w.heap.size + 1 + 1) W0 w' → Below (w.heap.size + 1 + 1) W0 w' ∧ w'.cell? ⟨w.heap.size, 0, none⟩ = some (.bool na) ∧ w'.cell? ⟨w.heap.size, 1, none⟩ = some (.slice ao A.length ca) ∧ w'.cell? ⟨w.heap.size, 2, none⟩ = some (.int .i64 x) ∧ w'.cell? ⟨w.heap.size + 1, 0, none⟩ = some (.bool nb) ∧ w'.cell? ⟨w.heap.size + 1, 1, none⟩ = some (.slice bo B.length cb) ∧ w'.cell? ⟨w.heap.size + 1, 2, none⟩ = some (.int .i64 y) := fun w' h =>
    ⟨h, (x0.below h (by omega)).c0, (x0.below h (by omega)).c1, (x0.below h (by omega)).c2, (x1.below h (by omega)).c0, (x1.below h (by omega)).c1, (x1.below h (by omega)).c2⟩
  have HK := hide hK; have BB := hide b0; have X2 := hide x2
  clear hK b0 x0 x1 x2
  go_region_held3 (fun w' => Below (w.heap.size + 1 + 1) W0 w' ∧ w'.cell? ⟨w.heap.size, 0, none⟩ = some (.bool na) ∧ w'.cell? ⟨w.heap.size, 1, none⟩ = some (.slice ao A.length ca) ∧ w'.cell? ⟨w.heap.size, 2, none⟩ = some (.int .i64 x) ∧ w'.cell? ⟨w.heap.size + 1, 0, none⟩ = some (.bool nb) ∧ w'.cell? ⟨w.heap.size + 1, 1, none⟩ = some (.slice bo B.length cb) ∧ w'.cell? ⟨w.heap.size + 1, 2, none⟩ = some (.int .i64 y))
    (first | exact unhide HK _ (Below.refl _ _).drew | exact unhide HK _ (by assumption) | exact unhide HK _ (below_put3 hB4 (by omega) _ _ _))
    (first | (go_at_call 50; refine (unhide CN _ (hB.below ((unhide BB).trans ((Below.refl _ _).drew)))).mono ?_; rintro e w3 ⟨v, rfl, iv, hb1⟩; obtain ⟨n1, a1, c1, L1, rfl, i1⟩ := iv.num; have hB1 : Below (w.heap.size + 1 + 1) W0 w3 := ((Below.refl _ _).drew).trans (hb1.mono (by simp; omega)); have X3 := hide ((unhide X2).drew.below hb1 (by simp; omega)); have IN := hide iv; have s1 : w.heap.size + 1 + 1 < w3.heap.size := (by have := hb1.size; simp at this; omega); have BB1 := hide ((unhide BB).trans (hB1.mono (by omega))); clear hb1 i1 iv) | (go_at_call 23; refine (unhide CAD _ _ (hA.below (unhide BB1)) (unhide IN)).mono ?_; rintro e w6 ⟨u, rfl, iu, hb4⟩; obtain ⟨n5, a5, c5, L5, rfl, i5⟩ := iu.num; have hB4 : Below (w.heap.size + 1 + 1) W0 w6 := hB1.trans (hb4.mono (by omega)); have X6 := (unhide X3).below hb4 (by omega); have y0 := X6.c0; have y1 := X6.c1; have y2 := X6.c2; have f0 := X6.free 0; have f1 := X6.free 1; have f2 := X6.free 2; have IU := hide iu; have X7 := hide X6; have BB4 := hide ((unhide BB1).trans (hb4.mono (by omega))); clear hb4 iu i5 X6))
  go_wp2
  refine bodyPost_ret (v := .agg #[.bool n5, .slice a5 L5.length c5, .int .i64 ox]) (by simp [results, Tryd.results24, go_sem, y0, y1, y2]) rfl ⟨_, rfl, (unhide IU).put3 (unhide X7) _ _ _, below_put3 (unhide BB4) (by omega) _ _ _⟩

end Go.Proofs.YtinlddkdkgepjaaDoor

/- Sums of few limbs: when they fit. -/
namespace Go.Proofs.YtinlddkdkgepjaaDoor
open Go.RowKit

theorem up_neg (s x l : Int) : up (-s) x l = - up s x l := by unfold up; rw [Int.neg_mul]
theorem upE_neg (s x l : Int) : upE (-s) x l = upE s x l := by unfold upE; rw [up_neg, Int.natAbs_neg]
theorem lowE_neg (sa x sb y : Int) : lowE sa x (-sb) y = lowE sa x sb y := by
  unfold lowE
  by_cases h : sb = 0
  · subst h; rfl
  · rw [if_neg h, if_neg (show ¬ -sb = 0 by omega)]

theorem sum_pow (a b d K N : Nat) (ha : a < 2 ^ K) (hb : b < 2 ^ K) (hu : a * 2 ^ d < 2 ^ N) (hd : d ≤ N) (hK : K + K + 1 ≤ N) : a * 2 ^ d + b < 2 ^ N := by
  by_cases h : K ≤ d
  · have hb2 : b < 2 ^ d := Nat.lt_of_lt_of_le hb (Nat.pow_le_pow_right (by decide) h)
    have e : 2 ^ N = 2 ^ (N - d) * 2 ^ d := by rw [← Nat.pow_add, Nat.sub_add_cancel hd]
    rw [e] at hu ⊢
    have h1 : a < 2 ^ (N - d) := Nat.lt_of_mul_lt_mul_right hu
    have h2 : (a + 1) * 2 ^ d ≤ 2 ^ (N - d) * 2 ^ d := Nat.mul_le_mul_right _ h1
    rw [Nat.add_mul] at h2
    omega
  · have h1 : a * 2 ^ d < 2 ^ (K + K) := by
      have : a * 2 ^ d ≤ a * 2 ^ K := Nat.mul_le_mul_left _ (Nat.pow_le_pow_right (by decide) (by omega))
      have h3 : a * 2 ^ K < 2 ^ K * 2 ^ K := Nat.mul_lt_mul_of_pos_right ha (Nat.pow_pos (by decide))
      rw [← Nat.pow_add] at h3
      omega
    have h2 : b < 2 ^ (K + K) := Nat.lt_of_lt_of_le hb (Nat.pow_le_pow_right (by decide) (by omega))
    have h3 : 2 ^ (K + K) + 2 ^ (K + K) = 2 ^ (K + K + 1) := by rw [Nat.pow_succ]; omega
    have h4 : 2 ^ (K + K + 1) ≤ 2 ^ N := Nat.pow_le_pow_right (by decide) hK
    omega

theorem natAbs_upi (s x l : Int) : (up s x l).natAbs = s.natAbs * 2 ^ (x - l).toNat := by
  unfold up
  rw [Int.natAbs_mul, Int.natAbs_pow]
  rfl

theorem sum_light (sa x sb y : Int) (K : Nat) (ha : sa.natAbs < 2 ^ K) (hb : sb.natAbs < 2 ^ K) (hK : K + K + 1 ≤ 32 * TOPN) (e1 : upE sa x (lowE sa x sb y) = 0) (e2 : upE sb y (lowE sa x sb y) = 0) : (sumZ sa x sb y).natAbs < TOP := by
  have u1 := upE_TOP e1
  have u2 := upE_TOP e2
  have d1 := upE_le e1
  have d2 := upE_le e2
  unfold sumZ
  by_cases h1 : sa = 0
  · subst h1; rw [up_zero, Int.zero_add]; exact u2
  by_cases h2 : sb = 0
  · subst h2; rw [up_zero, Int.add_zero]; exact u1
  rw [lowE_ne sa x sb y h1 h2] at u1 u2 d1 d2 ⊢
  have e2N : 32 * TOPN = 16384 := rfl
  rw [TOP_eq] at u1 u2 ⊢
  have htri : ∀ p q : Int, (p + q).natAbs ≤ p.natAbs + q.natAbs := fun p q => Int.natAbs_add_le p q
  rcases (show x ≤ y ∨ y ≤ x by omega) with h | h
  · have hm : min x y = x := by omega
    rw [hm] at u1 u2 d1 d2 ⊢
    rw [up_self] at u1 ⊢
    rw [natAbs_upi] at u2
    have h3 := sum_pow sb.natAbs sa.natAbs (y - x).toNat K (32 * TOPN) hb ha u2 (by omega) hK
    have h4 := htri sa (up sb y x)
    rw [natAbs_upi] at h4
    omega
  · have hm : min x y = y := by omega
    rw [hm] at u1 u2 d1 d2 ⊢
    rw [up_self] at u2 ⊢
    rw [natAbs_upi] at u1
    have h3 := sum_pow sa.natAbs sb.natAbs (x - y).toNat K (32 * TOPN) ha hb u1 (by omega) hK
    have h4 := htri (up sa x y) sb
    rw [natAbs_upi] at h4
    omega

/-- What the reference says of a width, and what the program does. -/
theorem wid_up {n : Bool} {L : List Nat} {x l : Int} (hf : Fits L) (hr : rightB n L = true) (h : L.length ≠ 0 → l ≤ x) (hz : L.length = 0 → x - l ≤ 16384) : widB L x l = false ↔ upE (sval n L) x l = 0 := by
  unfold widB
  by_cases h0 : L.length = 0
  · rw [decide_eq_false (fun h => h.1 h0)]
    refine ⟨fun _ => upE_ok _ _ _ ?_ (hz h0), fun _ => rfl⟩
    rw [(sval_zero_iff hr).2 h0, up_zero]; exact TOP_pos
  · have hb := up_bits n L x l hf hr (fun e => h0 (by rw [e]; rfl)) (h h0)
    rw [hb, decide_eq_false_iff_not]
    constructor
    · intro h1
      have h2 : ¬ (16384 < x - l ∨ 16384 < lenL L + x - l) := fun h3 => h1 ⟨h0, h3⟩
      omega
    · rintro ⟨h1, h2⟩ ⟨_, h3⟩
      omega

theorem wide_fits {na nb : Bool} {A B : List Nat} {x y : Int} (fA : Fits A) (fB : Fits B) (ra : rightB na A = true) (rb : rightB nb B = true) (hx : -16384 ≤ x ∧ x ≤ 16384) (hy : -16384 ≤ y ∧ y ≤ 16384) (zx : A.length = 0 → x = 0) (zy : B.length = 0 → y = 0) :
    (widB A x (lowR A.length B.length x y) || widB B y (lowR A.length B.length x y)) = false ↔ (upE (sval na A) x (lowE (sval na A) x (sval nb B) y) = 0 ∧ upE (sval nb B) y (lowE (sval na A) x (sval nb B) y) = 0) := by
  have hl := lowR_bounds A.length B.length x y hx hy
  have g1 : A.length ≠ 0 → lowR A.length B.length x y ≤ x := fun h => by
    unfold lowR; rw [if_neg h]; split <;> omega
  have g2 : B.length ≠ 0 → lowR A.length B.length x y ≤ y := fun h => by
    unfold lowR
    split
    · omega
    · omega
  rw [← lowR_E ra rb, Bool.or_eq_false_iff, wid_up fA ra g1 (fun h => by have := zx h; omega), wid_up fB rb g2 (fun h => by have := zy h; omega)]

end Go.Proofs.YtinlddkdkgepjaaDoor

/- The law DyadicSums, walked. -/
namespace Go.Proofs.YtinlddkdkgepjaaDoor
open Go.RowKit
attribute [local go_sem ↓] Go.wp_at_zero Go.wp_at_succ

theorem ad_fits {sa x sb y : Int} (e1 : upE sa x (lowE sa x sb y) = 0) (e2 : upE sb y (lowE sa x sb y) = 0) (hz : (sumZ sa x sb y).natAbs < TOP) :
    adE sa x sb y = dErr (sumZ sa x sb y) (lowE sa x sb y) ∧ adM sa x sb y = dM (sumZ sa x sb y) (lowE sa x sb y) ∧ adX sa x sb y = dX (sumZ sa x sb y) (lowE sa x sb y) := by
  have hf : fitsB sa x sb y = true := decide_eq_true ⟨e1, e2, hz⟩
  unfold adE adM adX
  rw [hf]
  exact ⟨rfl, rfl, rfl⟩

theorem ad_wide {sa x sb y : Int} (h : ¬ (upE sa x (lowE sa x sb y) = 0 ∧ upE sb y (lowE sa x sb y) = 0)) : adE sa x sb y = 2 ∧ adM sa x sb y = 0 ∧ adX sa x sb y = 0 := by
  have hf : fitsB sa x sb y = false := decide_eq_false (fun e => h ⟨e.1, e.2.1⟩)
  unfold adE adM adX
  rw [hf]
  exact ⟨rfl, rfl, rfl⟩

/-- The ways of sums and differences of two numbers of few limbs. -/
theorem sums_ways (na nb : Bool) (ao bo : Option Addr) (ca cb : Nat) (A B : List Nat) (x y : Int) (la : A.length ≤ 30) (lb : B.length ≤ 30) (fA : Fits A) (fB : Fits B) : ∃ e1 m1 x1 e2 m2 x2 f0 om ox om2 ox2 : Int, ∃ wd : Bool,
    (∀ w, LimbsAt w ao ca A → LimbsAt w bo cb B → Tab w → Calls Tryd.prog 19 #[.agg #[.bool na, .slice ao A.length ca, .int .i64 x], .agg #[.bool nb, .slice bo B.length cb, .int .i64 y]] w fun r w' => DyR w' r e1 m1 x1 ∧ Below w.heap.size w w') ∧
    (∀ w, LimbsAt w ao ca A → LimbsAt w bo cb B → Tab w → Calls Tryd.prog 20 #[.agg #[.bool na, .slice ao A.length ca, .int .i64 x], .agg #[.bool nb, .slice bo B.length cb, .int .i64 y]] w fun r w' => DyR w' r e2 m2 x2 ∧ Below w.heap.size w w') ∧
    (∀ w, LimbsAt w ao ca A → LimbsAt w bo cb B → Calls Tryd.prog 21 #[.agg #[.bool na, .slice ao A.length ca, .int .i64 x], .agg #[.bool nb, .slice bo B.length cb, .int .i64 y]] w fun r w' => r = .returned (.int .i64 f0) ∧ Below w.heap.size w w') ∧
    ((f0 = 1 ∧ e1 = 1 ∧ m1 = 0 ∧ x1 = 0 ∧ e2 = 1 ∧ m2 = 0 ∧ x2 = 0) ∨
     (f0 = 0 ∧ wd = true ∧ (∀ w, LimbsAt w ao ca A → LimbsAt w bo cb B → Calls Tryd.prog 22 #[.agg #[.bool na, .slice ao A.length ca, .int .i64 x], .agg #[.bool nb, .slice bo B.length cb, .int .i64 y]] w fun r w' => r = .returned (.bool wd) ∧ Below w.heap.size w w') ∧ e1 = 2 ∧ m1 = 0 ∧ x1 = 0 ∧ e2 = 2 ∧ m2 = 0 ∧ x2 = 0) ∨
     (f0 = 0 ∧ wd = false ∧ (∀ w, LimbsAt w ao ca A → LimbsAt w bo cb B → Calls Tryd.prog 22 #[.agg #[.bool na, .slice ao A.length ca, .int .i64 x], .agg #[.bool nb, .slice bo B.length cb, .int .i64 y]] w fun r w' => r = .returned (.bool wd) ∧ Below w.heap.size w w') ∧
      (∀ w, LimbsAt w ao ca A → LimbsAt w bo cb B → Calls Tryd.prog 23 #[.agg #[.bool na, .slice ao A.length ca, .int .i64 x], .agg #[.bool nb, .slice bo B.length cb, .int .i64 y]] w fun r w' => ∃ v, r = .returned v ∧ IsDy w' v om ox ∧ Below w.heap.size w w') ∧
      (∀ w, LimbsAt w ao ca A → LimbsAt w bo cb B → Calls Tryd.prog 24 #[.agg #[.bool na, .slice ao A.length ca, .int .i64 x], .agg #[.bool nb, .slice bo B.length cb, .int .i64 y]] w fun r w' => ∃ v, r = .returned v ∧ IsDy w' v om2 ox2 ∧ Below w.heap.size w w') ∧
      om.natAbs < TOP ∧ om2.natAbs < TOP ∧ (dRt om ox = true → e1 = 0 ∧ m1 = om ∧ x1 = ox) ∧ (dRt om ox = false → e1 = 2 ∧ m1 = 0 ∧ x1 = 0) ∧ (dRt om2 ox2 = true → e2 = 0 ∧ m2 = om2 ∧ x2 = ox2) ∧ (dRt om2 ox2 = false → e2 = 2 ∧ m2 = 0 ∧ x2 = 0))) := by
  by_cases hr : (drB na A x && drB nb B y) = true
  · have hr' := hr
    rw [Bool.and_eq_true] at hr
    obtain ⟨hra, hrb⟩ := hr
    obtain ⟨ra, _, a1, a2, zx⟩ := drB_bounds hra
    obtain ⟨rb, _, b1, b2, zy⟩ := drB_bounds hrb
    have hf : ∀ w, LimbsAt w ao ca A → LimbsAt w bo cb B → Calls Tryd.prog 21 #[.agg #[.bool na, .slice ao A.length ca, .int .i64 x], .agg #[.bool nb, .slice bo B.length cb, .int .i64 y]] w fun r w' => r = .returned (.int .i64 0) ∧ Below w.heap.size w w' := fun w h h' => by
      have := form2_any na nb ao bo ca cb A B x y w h h' (by omega) (by omega)
      unfold drE2 at this
      rw [hr'] at this
      exact this
    have hW : ∀ w, LimbsAt w ao ca A → LimbsAt w bo cb B → Calls Tryd.prog 22 #[.agg #[.bool na, .slice ao A.length ca, .int .i64 x], .agg #[.bool nb, .slice bo B.length cb, .int .i64 y]] w fun r w' => r = .returned (.bool (widB A x (lowR A.length B.length x y) || widB B y (lowR A.length B.length x y))) ∧ Below w.heap.size w w' := fun w h h' => Wide_any na nb ao bo ca cb A B x y w h h' (by omega) (by omega) ⟨a1, a2⟩ ⟨b1, b2⟩
    have hwf := wide_fits fA fB ra rb ⟨a1, a2⟩ ⟨b1, b2⟩ zx zy
    by_cases hfit : upE (sval na A) x (lowE (sval na A) x (sval nb B) y) = 0 ∧ upE (sval nb B) y (lowE (sval na A) x (sval nb B) y) = 0
    · have hwd := hwf.2 hfit
      have hfit2 : upE (sval na A) x (lowE (sval na A) x (- sval nb B) y) = 0 ∧ upE (- sval nb B) y (lowE (sval na A) x (- sval nb B) y) = 0 := by rw [lowE_neg, upE_neg]; exact hfit
      have k1 : (sval na A).natAbs < 2 ^ (32 * 30) := by rw [natAbs_sval]; exact val_lt_pow A fA 30 la
      have k2 : (sval nb B).natAbs < 2 ^ (32 * 30) := by rw [natAbs_sval]; exact val_lt_pow B fB 30 lb
      have z1 := sum_light _ x _ y (32 * 30) k1 k2 (by decide) hfit.1 hfit.2
      have z2 := sum_light (sval na A) x (- sval nb B) y (32 * 30) k1 (by rw [Int.natAbs_neg]; exact k2) (by decide) hfit2.1 hfit2.2
      obtain ⟨p1, p2, p3⟩ := ad_fits hfit.1 hfit.2 z1
      obtain ⟨q1, q2, q3⟩ := ad_fits hfit2.1 hfit2.2 z2
      have hl1 : -32768 ≤ lowE (sval na A) x (sval nb B) y ∧ lowE (sval na A) x (sval nb B) y ≤ 32768 := by
        have := lowR_bounds A.length B.length x y ⟨a1, a2⟩ ⟨b1, b2⟩
        rw [lowR_E ra rb] at this; omega
      have hl2 : -32768 ≤ lowE (sval na A) x (- sval nb B) y ∧ lowE (sval na A) x (- sval nb B) y ≤ 32768 := by rw [lowE_neg]; exact hl1
      have t1 := told_make (sumZ (sval na A) x (sval nb B) y) _ hl1
      have t2 := told_make (sumZ (sval na A) x (- sval nb B) y) _ hl2
      refine ⟨_, _, _, _, _, _, 0, _, _, _, _, _, fun w h h' t => dadd_right na nb ao bo ca cb A B x y w h h' hra hrb t, fun w h h' t => dsub_right na nb ao bo ca cb A B x y w h h' hra hrb t, hf, .inr (.inr ⟨rfl, hwd, hW, fun w h h' => radd_any na nb ao bo ca cb A B x y w h h' ra rb ⟨a1, a2⟩ ⟨b1, b2⟩ hfit.1 hfit.2, fun w h h' => rsub_any na nb ao bo ca cb A B x y w h h' ra rb ⟨a1, a2⟩ ⟨b1, b2⟩ hfit2.1 hfit2.2, Nat.lt_of_le_of_lt (oM_le _) z1, Nat.lt_of_le_of_lt (oM_le _) z2, ?_, ?_, ?_, ?_⟩)⟩
      · rw [p1, p2, p3]; exact t1.1
      · rw [p1, p2, p3]; exact t1.2
      · rw [q1, q2, q3]; exact t2.1
      · rw [q1, q2, q3]; exact t2.2
    · have hwd : (widB A x (lowR A.length B.length x y) || widB B y (lowR A.length B.length x y)) = true := by
        rw [← Bool.not_eq_false]; exact fun h => hfit (hwf.1 h)
      have hfit2 : ¬ (upE (sval na A) x (lowE (sval na A) x (- sval nb B) y) = 0 ∧ upE (- sval nb B) y (lowE (sval na A) x (- sval nb B) y) = 0) := by rw [lowE_neg, upE_neg]; exact hfit
      obtain ⟨p1, p2, p3⟩ := ad_wide hfit
      obtain ⟨q1, q2, q3⟩ := ad_wide hfit2
      exact ⟨_, _, _, _, _, _, 0, 0, 0, 0, 0, _, fun w h h' t => dadd_right na nb ao bo ca cb A B x y w h h' hra hrb t, fun w h h' t => dsub_right na nb ao bo ca cb A B x y w h h' hra hrb t, hf, .inr (.inl ⟨rfl, hwd, hW, p1, p2, p3, q1, q2, q3⟩)⟩
  · have hr' : (drB na A x && drB nb B y) = false := by simpa using hr
    refine ⟨1, 0, 0, 1, 0, 0, 1, 0, 0, 0, 0, true, fun w h h' t => dadd_wrong na nb ao bo ca cb A B x y w h h' (by omega) (by omega) hr' t, fun w h h' t => dsub_wrong na nb ao bo ca cb A B x y w h h' (by omega) (by omega) hr' t, fun w h h' => ?_, .inl ⟨rfl, rfl, rfl, rfl, rfl, rfl, rfl⟩⟩
    have := form2_any na nb ao bo ca cb A B x y w h h' (by omega) (by omega)
    unfold drE2 at this
    rw [hr'] at this
    exact this

set_option maxHeartbeats 4000000 in
theorem dsums_walk (na nb : Bool) (ao bo : Option Addr) (ca cb : Nat) (A B : List Nat) (x y : Int) (w : World) (hA : LimbsAt w ao ca A) (hB : LimbsAt w bo cb B) (_la : A.length ≤ 35184372087808) (_lb : B.length ≤ 35184372087808) (_bx : -9223372036854775808 ≤ x ∧ x ≤ 9223372036854775807) (_by : -9223372036854775808 ≤ y ∧ y ≤ 9223372036854775807) (hT : Tab w) :
    Calls Tryd.prog 5 #[.agg #[.bool na, .slice ao A.length ca, .int .i64 x], .agg #[.bool nb, .slice bo B.length cb, .int .i64 y]] w fun e w' => e = .returned (.bool true) ∧ Below w.heap.size w w' := by
  have CL := hide (fun w' => light2_any na nb ao bo ca cb A.length B.length x y w')
  have hb0 : Below w.heap.size w ((w.alloc (.cells #[.bool na, .slice ao A.length ca, .int .i64 x] 26)).alloc (.cells #[.bool nb, .slice bo B.length cb, .int .i64 y] 26)) := ((Below.refl _ _).alloc (Nat.le_refl _) _).alloc (by simp) _
  have x0 : Box3 ((w.alloc (.cells #[.bool na, .slice ao A.length ca, .int .i64 x] 26)).alloc (.cells #[.bool nb, .slice bo B.length cb, .int .i64 y] 26)) w.heap.size (.bool na) (.slice ao A.length ca) (.int .i64 x) := (Box3.new _ _ _ _).old _
  have x1 : Box3 ((w.alloc (.cells #[.bool na, .slice ao A.length ca, .int .i64 x] 26)).alloc (.cells #[.bool nb, .slice bo B.length cb, .int .i64 y] 26)) (w.heap.size + 1) (.bool nb) (.slice bo B.length cb) (.int .i64 y) := by
    have := Box3.new (w.alloc (.cells #[.bool na, .slice ao A.length ca, .int .i64 x] 26)) (.bool nb) (.slice bo B.length cb) (.int .i64 y)
    simpa using this
  have B0 := hide hb0; have X0 := hide x0; have X1 := hide x1
  clear hb0 x0 x1
  by_cases hl : A.length ≤ 30 ∧ B.length ≤ 30
  case neg =>
    rw [decide_eq_false hl] at CL
    clear hl
    go_enter Tryd.func5, Tryd.ntmps5
    go_wp2_with fail
    refine (unhide CL _).mono ?_
    rintro e w1 ⟨rfl, hb1⟩
    have B1 := hide ((unhide B0).trans (hb1.mono (unhide B0).size))
    clear hb1
    go_wp2_with (go_at_call 13; refine (awake2_any _ (hT.all (unhide B1))).mono ?_; rintro e w4 ⟨rfl, hb2⟩)
    go_ret
    exact ⟨rfl, (unhide B1).trans (hb2.mono (unhide B1).size)⟩
  rw [decide_eq_true hl] at CL
  obtain ⟨e1, m1, ex1, e2, m2, ex2, f0, om, ox, om2, ox2, wd, cM, cS, cF, ways⟩ := sums_ways na nb ao bo ca cb A B x y hl.1 hl.2 hA.2.1 hB.2.1
  have CM := hide cM; have CF := hide cF; have CS := hide cS; have WAYS := hide ways
  clear cM cF cS ways hl _la _lb _bx _by
  go_enter Tryd.func5, Tryd.ntmps5
  go_wp2_with fail
  -- light(a, b)
  refine (unhide CL _).mono ?_
  rintro e w1 ⟨rfl, hb1⟩
  have y0 := (unhide X0).all hb1; have y1 := (unhide X1).all hb1
  have b1 := (unhide B0).trans (hb1.mono (unhide B0).size)
  have p0 := y0.c0; have p1 := y0.c1; have p2 := y0.c2
  have q0 := y1.c0; have q1 := y1.c1; have q2 := y1.c2
  have X0' := hide y0; have X1' := hide y1; have B1 := hide b1
  clear hb1 y0 y1 b1 X0 X1 B0 CL
  go_wp2_with fail
  -- s, e := Add(a, b)
  refine (unhide CM _ (hA.below (unhide B1)) (hB.below (unhide B1)) (hT.all (unhide B1))).mono ?_
  rintro r w2 ⟨⟨v, rfl, iv⟩, hb1⟩
  obtain ⟨n3, a3, c3, L3, rfl, i3⟩ := iv.num
  have bN : Below w2.heap.size w2 (w2.alloc (.cells #[.bool n3, .slice a3 L3.length c3, .int .i64 ex1] 26)) := (Below.refl _ _).alloc (Nat.le_refl _) _
  have y0 := ((unhide X0').all hb1).all bN; have y1 := ((unhide X1').all hb1).all bN
  have b1 := (unhide B1).trans (hb1.mono (unhide B1).size)
  have b2 := b1.trans (bN.mono b1.size)
  have z0 := Box3.new w2 (.bool n3) (.slice a3 L3.length c3) (.int .i64 ex1)
  have IP := hide (iv.below bN)
  clear p0 p1 p2 q0 q1 q2 X0' X1' B1 hb1 iv i3 bN CM
  have p0 := y0.c0; have p1 := y0.c1; have p2 := y0.c2
  have q0 := y1.c0; have q1 := y1.c1; have q2 := y1.c2
  have X0' := hide y0; have X1' := hide y1; have Z0 := hide z0; have B1 := hide b2
  clear y0 y1 z0 b1 b2
  go_wp2_with fail
  -- d, f := Sub(a, b)
  refine (unhide CS _ (hA.below (unhide B1)) (hB.below (unhide B1)) (hT.all (unhide B1))).mono ?_
  rintro r w3 ⟨⟨v, rfl, iv⟩, hb1⟩
  obtain ⟨n4, a4, c4, L4, rfl, i4⟩ := iv.num
  have bN : Below w3.heap.size w3 (w3.alloc (.cells #[.bool n4, .slice a4 L4.length c4, .int .i64 ex2] 26)) := (Below.refl _ _).alloc (Nat.le_refl _) _
  have y0 := ((unhide X0').all hb1).all bN; have y1 := ((unhide X1').all hb1).all bN; have z0 := ((unhide Z0).all hb1).all bN
  have b1 := (unhide B1).trans (hb1.mono (unhide B1).size)
  have b2 := b1.trans (bN.mono b1.size)
  have z1 := Box3.new w3 (.bool n4) (.slice a4 L4.length c4) (.int .i64 ex2)
  have IP' := hide (((unhide IP).below hb1).below bN); have IS := hide (iv.below bN)
  clear p0 p1 p2 q0 q1 q2 X0' X1' Z0 B1 hb1 iv i4 bN CS IP b1
  have p0 := y0.c0; have p1 := y0.c1; have p2 := y0.c2
  have q0 := y1.c0; have q1 := y1.c1; have q2 := y1.c2
  have X0' := hide y0; have X1' := hide y1; have Z0 := hide z0; have Z1 := hide z1; have B1 := hide b2; have IP := IP'
  clear y0 y1 z0 z1 b2 IP'
  go_wp2_with fail
  -- g := form(a, b)
  refine (unhide CF _ (hA.below (unhide B1)) (hB.below (unhide B1))).mono ?_
  rintro r w4 ⟨rfl, hb1⟩
  have y0 := (unhide X0').all hb1; have y1 := (unhide X1').all hb1; have z0 := (unhide Z0).all hb1; have z1 := (unhide Z1).all hb1
  have b1 := (unhide B1).trans (hb1.mono (unhide B1).size)
  have IP' := hide ((unhide IP).below hb1); have IS' := hide ((unhide IS).below hb1)
  clear p0 p1 p2 q0 q1 q2 X0' X1' Z0 Z1 B1 hb1 IP IS CF
  have IP := IP'; have IS := IS'; have B1 := hide b1
  clear IP' IS'
  rcases unhide WAYS with ⟨rfl, rfl, rfl, rfl, rfl, rfl, rfl⟩ | ⟨rfl, rfl, cW, rfl, rfl, rfl, rfl, rfl, rfl⟩ | ⟨rfl, rfl, cW, cRA, cRS, hTOP, hTOP2, t1, t2, u1, u2⟩
  · have q0 := z0.c0; have q1 := z0.c1; have q2 := z0.c2
    have Z1 := hide z1
    clear WAYS b1 y0 y1 z0 z1
    go_wp2_with (first | (go_at_call_of 16 (Value.agg #[.bool n3, .slice a3 L3.length c3, .int .i64 0]); refine (told2_any (unhide IP) (IsDy.zero _ none 0) TOP_pos (fun _ => ⟨rfl, rfl, rfl⟩) (fun h => absurd h (by decide)) (fun h => absurd h (by decide))).mono ?_; rintro e w6 ⟨rfl, hb1⟩; have B4 := hide ((unhide B1).trans (hb1.mono (unhide B1).size)); have q := (unhide Z1).all hb1; have p0 := q.c0; have p1 := q.c1; have p2 := q.c2; have IS2 := hide ((unhide IS).below hb1); clear hb1 q) | (go_at_call_of 16 (Value.agg #[.bool n4, .slice a4 L4.length c4, .int .i64 0]); refine (told2_any (unhide IS2) (IsDy.zero _ none 0) TOP_pos (fun _ => ⟨rfl, rfl, rfl⟩) (fun h => absurd h (by decide)) (fun h => absurd h (by decide))).mono ?_; rintro e w7 ⟨rfl, hb1⟩; have B5 := hide ((unhide B4).trans (hb1.mono (unhide B4).size)); clear hb1) | (go_at_call 13; refine (awake2_any _ (hT.all (unhide B5))).mono ?_; rintro e w8 ⟨rfl, hb2⟩))
    go_ret
    exact ⟨rfl, (unhide B5).trans (hb2.mono (unhide B5).size)⟩
  · have p0 := y0.c0; have p1 := y0.c1; have p2 := y0.c2
    have q0 := y1.c0; have q1 := y1.c1; have q2 := y1.c2
    have CW := hide cW
    have Z0 := hide z0; have Z1 := hide z1
    clear WAYS b1 y0 y1 z0 z1 cW
    go_wp2_with fail
    refine (unhide CW _ (hA.below (unhide B1)) (hB.below (unhide B1))).mono ?_
    rintro r w5 ⟨rfl, hb1⟩
    have z0 := (unhide Z0).all hb1; have z1 := (unhide Z1).all hb1
    have b1 := (unhide B1).trans (hb1.mono (unhide B1).size)
    have IP' := hide ((unhide IP).below hb1); have IS' := hide ((unhide IS).below hb1)
    clear p0 p1 p2 q0 q1 q2 Z0 Z1 B1 hb1 IP IS CW
    have IP := IP'; have IS := IS'; have B1 := hide b1; have Z1 := hide z1
    have q0 := z0.c0; have q1 := z0.c1; have q2 := z0.c2
    clear IP' IS' z0 z1 b1
    go_wp2_with (first | (go_at_call_of 16 (Value.agg #[.bool n3, .slice a3 L3.length c3, .int .i64 0]); refine (told2_any (unhide IP) (IsDy.zero _ none 0) TOP_pos (fun _ => ⟨rfl, rfl, rfl⟩) (fun h => absurd h (by decide)) (fun h => absurd h (by decide))).mono ?_; rintro e w6 ⟨rfl, hb1⟩; have B4 := hide ((unhide B1).trans (hb1.mono (unhide B1).size)); have q := (unhide Z1).all hb1; have p0 := q.c0; have p1 := q.c1; have p2 := q.c2; have IS2 := hide ((unhide IS).below hb1); clear hb1 q) | (go_at_call_of 16 (Value.agg #[.bool n4, .slice a4 L4.length c4, .int .i64 0]); refine (told2_any (unhide IS2) (IsDy.zero _ none 0) TOP_pos (fun _ => ⟨rfl, rfl, rfl⟩) (fun h => absurd h (by decide)) (fun h => absurd h (by decide))).mono ?_; rintro e w7 ⟨rfl, hb1⟩; have B5 := hide ((unhide B4).trans (hb1.mono (unhide B4).size)); clear hb1) | (go_at_call 13; refine (awake2_any _ (hT.all (unhide B5))).mono ?_; rintro e w8 ⟨rfl, hb2⟩))
    go_ret
    exact ⟨rfl, (unhide B5).trans (hb2.mono (unhide B5).size)⟩
  have p0 := y0.c0; have p1 := y0.c1; have p2 := y0.c2
  have q0 := y1.c0; have q1 := y1.c1; have q2 := y1.c2
  have CW := hide cW; have CRA := hide cRA; have CRS := hide cRS; have HTOP := hide (fun _ : Unit => hTOP); have HTOP2 := hide (fun _ : Unit => hTOP2); have T1 := hide t1; have T2 := hide t2; have U1 := hide u1; have U2 := hide u2
  have X0' := hide y0; have X1' := hide y1; have Z0 := hide z0; have Z1 := hide z1
  clear WAYS b1 y0 y1 z0 z1 cW cRA cRS hTOP hTOP2 t1 t2 u1 u2
  go_wp2_with fail
  refine (unhide CW _ (hA.below (unhide B1)) (hB.below (unhide B1))).mono ?_
  rintro r w5 ⟨rfl, hb1⟩
  have y0 := (unhide X0').all hb1; have y1 := (unhide X1').all hb1; have z0 := (unhide Z0).all hb1; have z1 := (unhide Z1).all hb1
  have b1 := (unhide B1).trans (hb1.mono (unhide B1).size)
  have ip := (unhide IP).below hb1; have is' := (unhide IS).below hb1
  clear p0 p1 p2 q0 q1 q2 X0' X1' Z0 Z1 B1 hb1 IP IS CW
  have X0' := hide y0; have X1' := hide y1; have Z0 := hide z0; have Z1 := hide z1; have B1 := hide b1; have IP := hide ip; have IS := hide is'
  clear y0 y1 z0 z1 b1 ip is'
  go_wp2
  refine at_world (fun W => Below w.heap.size w W ∧ Box3 W w.heap.size (.bool na) (.slice ao A.length ca) (.int .i64 x) ∧ Box3 W (w.heap.size + 1) (.bool nb) (.slice bo B.length cb) (.int .i64 y) ∧ Box3 W w2.heap.size (.bool n3) (.slice a3 L3.length c3) (.int .i64 ex1) ∧ Box3 W w3.heap.size (.bool n4) (.slice a4 L4.length c4) (.int .i64 ex2) ∧ IsDy W (.agg #[.bool n3, .slice a3 L3.length c3, .int .i64 ex1]) m1 ex1 ∧ IsDy W (.agg #[.bool n4, .slice a4 L4.length c4, .int .i64 ex2]) m2 ex2) ⟨unhide B1, unhide X0', unhide X1', unhide Z0, unhide Z1, unhide IP, unhide IS⟩ ?_
  clear B1 X0' X1' Z0 Z1 IP IS
  rintro W0 ⟨b0, x0, x1, z0, z1, ip, is'⟩
  have hK : ∀ w', Below W0.heap.size W0 w' → Below W0.heap.size W0 w' ∧ w'.cell? ⟨w.heap.size, 0, none⟩ = some (.bool na) ∧ w'.cell? ⟨w.heap.size, 1, none⟩ = some (.slice ao A.length ca) ∧ w'.cell? ⟨w.heap.size, 2, none⟩ = some (.int .i64 x) ∧ w'.cell? ⟨w.heap.size + 1, 0, none⟩ = some (.bool nb) ∧ w'.cell? ⟨w.heap.size + 1, 1, none⟩ = some (.slice bo B.length cb) ∧ w'.cell? ⟨w.heap.size + 1, 2, none⟩ = some (.int .i64 y) ∧ w'.cell? ⟨w2.heap.size, 0, none⟩ = some (.bool n3) ∧ w'.cell? ⟨w2.heap.size, 1, none⟩ = some (.slice a3 L3.length c3) ∧ w'.cell? ⟨w2.heap.size, 2, none⟩ = some (.int .i64 ex1) ∧ w'.cell? ⟨w3.heap.size, 0, none⟩ = some (.bool n4) ∧ w'.cell? ⟨w3.heap.size, 1, none⟩ = some (.slice a4 L4.length c4) ∧ w'.cell? ⟨w3.heap.size, 2, none⟩ = some (.int .i64 ex2) := fun w' h =>
    ⟨h, (x0.all h).c0, (x0.all h).c1, (x0.all h).c2, (x1.all h).c0, (x1.all h).c1, (x1.all h).c2, (z0.all h).c0, (z0.all h).c1, (z0.all h).c2, (z1.all h).c0, (z1.all h).c1, (z1.all h).c2⟩
  have HK := hide hK
  have HA := hide (hA.below b0); have HB := hide (hB.below b0); have BB := hide b0; have IP := hide ip; have IS := hide is'; have HT := hide (hT.all b0)
  clear hK b0 x0 x1 z0 z1 ip is'
  go_region_held3 (fun w' => Below W0.heap.size W0 w' ∧ w'.cell? ⟨w.heap.size, 0, none⟩ = some (.bool na) ∧ w'.cell? ⟨w.heap.size, 1, none⟩ = some (.slice ao A.length ca) ∧ w'.cell? ⟨w.heap.size, 2, none⟩ = some (.int .i64 x) ∧ w'.cell? ⟨w.heap.size + 1, 0, none⟩ = some (.bool nb) ∧ w'.cell? ⟨w.heap.size + 1, 1, none⟩ = some (.slice bo B.length cb) ∧ w'.cell? ⟨w.heap.size + 1, 2, none⟩ = some (.int .i64 y) ∧ w'.cell? ⟨w2.heap.size, 0, none⟩ = some (.bool n3) ∧ w'.cell? ⟨w2.heap.size, 1, none⟩ = some (.slice a3 L3.length c3) ∧ w'.cell? ⟨w2.heap.size, 2, none⟩ = some (.int .i64 ex1) ∧ w'.cell? ⟨w3.heap.size, 0, none⟩ = some (.bool n4) ∧ w'.cell? ⟨w3.heap.size, 1, none⟩ = some (.slice a4 L4.length c4) ∧ w'.cell? ⟨w3.heap.size, 2, none⟩ = some (.int .i64 ex2))
    (first | exact unhide HK _ (Below.refl _ _).drew | exact unhide HK _ (by assumption))
    (first | (go_at_call 23; refine (unhide CRA _ ((unhide HA).below (And.left (by assumption))) ((unhide HB).below (And.left (by assumption)))).mono ?_; rintro e wn ⟨u, rfl, iu, hb1⟩; have hB : Below W0.heap.size W0 wn := Below.trans (And.left (by assumption)) (hb1.mono (Below.size (And.left (by assumption)))); obtain ⟨n5, a5, c5, L5, rfl, i5⟩ := iu.num; have J1 := hide iu; clear hb1 iu i5) | (go_at_call 24; refine (unhide CRS _ ((unhide HA).below (And.left (by assumption))) ((unhide HB).below (And.left (by assumption)))).mono ?_; rintro e wn ⟨u, rfl, iu, hb1⟩; have hB : Below W0.heap.size W0 wn := Below.trans (And.left (by assumption)) (hb1.mono (Below.size (And.left (by assumption)))); obtain ⟨n6, a6, c6, L6, rfl, i6⟩ := iu.num; have J2 := hide iu; clear hb1 iu i6) | (go_at_call_of 16 (Value.agg #[.bool n3, .slice a3 L3.length c3, .int .i64 ex1]); refine (told2_any ((unhide IP).below (And.left (by assumption))) (unhide J1) (unhide HTOP ()) (fun h => absurd rfl h) (fun _ h => unhide T1 h) (fun _ h => unhide T2 h)).mono ?_; rintro e wn ⟨rfl, hb1⟩; have hB : Below W0.heap.size W0 wn := Below.trans (And.left (by assumption)) (hb1.mono (Below.size (And.left (by assumption)))); clear hb1) | (go_at_call_of 16 (Value.agg #[.bool n4, .slice a4 L4.length c4, .int .i64 ex2]); refine (told2_any ((unhide IS).below (And.left (by assumption))) (unhide J2) (unhide HTOP2 ()) (fun h => absurd rfl h) (fun _ h => unhide U1 h) (fun _ h => unhide U2 h)).mono ?_; rintro e wn ⟨rfl, hb1⟩; have hB : Below W0.heap.size W0 wn := Below.trans (And.left (by assumption)) (hb1.mono (Below.size (And.left (by assumption)))); clear hb1) | (go_at_call 13; refine (awake2_any _ ((unhide HT).all (And.left (by assumption)))).mono ?_; rintro e wn ⟨rfl, hb1⟩; have hB : Below W0.heap.size W0 wn := Below.trans (And.left (by assumption)) (hb1.mono (Below.size (And.left (by assumption)))); clear hb1))
  go_wp2
  go_ret
  exact ⟨rfl, (unhide BB).trans (Below.mono (And.left (by assumption)) (unhide BB).size)⟩

end Go.Proofs.YtinlddkdkgepjaaDoor

/- The order of dyadic numbers: by signs, by tops, by what they differ by. -/
namespace Go.Proofs.YtinlddkdkgepjaaDoor
open Go.RowKit

/-- The sign of a number. -/
def sgnI (z : Int) : Int := if z < 0 then -1 else if z = 0 then 0 else 1
/-- The order of two numbers, written with one power. -/
def cmpV (sa x sb y : Int) : Int := cmpI (up sa x (lowE sa x sb y)) (up sb y (lowE sa x sb y))

theorem sgnI_neg {u : Int} (h : u < 0) : sgnI u = -1 := by unfold sgnI; rw [if_pos h]
theorem sgnI_zero : sgnI 0 = 0 := rfl
theorem sgnI_pos {u : Int} (h : 0 < u) : sgnI u = 1 := by unfold sgnI; rw [if_neg (by omega), if_neg (by omega)]

theorem sgnI_mul_pow (s : Int) (k : Nat) : sgnI (s * 2 ^ k) = sgnI s := by
  have hp : (0 : Int) < 2 ^ k := Int.pow_pos (by decide)
  rcases Int.lt_trichotomy s 0 with h | h | h
  · rw [sgnI_neg h, sgnI_neg (Int.mul_neg_of_neg_of_pos h hp)]
  · subst h; rw [Int.zero_mul]
  · rw [sgnI_pos h, sgnI_pos (Int.mul_pos h hp)]

theorem sgnI_up (s x l : Int) : sgnI (up s x l) = sgnI s := sgnI_mul_pow s _

theorem sgnB_I {n : Bool} {L : List Nat} (h : rightB n L = true) : sgnB n L.length = sgnI (sval n L) := by
  unfold sgnB
  have hz := sval_zero_iff h
  by_cases h0 : L.length = 0
  · rw [if_pos h0, hz.2 h0]; rfl
  · have h1 : sval n L ≠ 0 := fun e => h0 (hz.1 e)
    rw [if_neg h0]
    unfold sval at h1 ⊢
    cases n
    · simp only [Bool.false_eq_true, if_false] at h1 ⊢
      rw [sgnI_pos (by omega)]
    · simp only [if_true] at h1 ⊢
      rw [sgnI_neg (by omega)]

theorem rsgn_I {n : Bool} {L : List Nat} (h : rightB n L = true) : rsgn n L.length = sgnI (sval n L) := by
  rw [← sgnB_I h]
  unfold rsgn sgnB
  cases n
  · rfl
  · have : L.length ≠ 0 := fun e => (right_canon h).2.2 rfl (List.length_eq_zero_iff.1 e)
    simp [this]

/-- Unlike signs say which is more. -/
theorem cmp_signs (u v : Int) (h : sgnI u ≠ sgnI v) : cmpI (sgnI u) (sgnI v) = cmpI u v ∧ min 1 (max (-1) (sgnI u - sgnI v)) = cmpI u v := by
  rcases Int.lt_trichotomy u 0 with h1 | h1 | h1 <;> rcases Int.lt_trichotomy v 0 with h2 | h2 | h2
  · rw [sgnI_neg h1, sgnI_neg h2] at h; exact absurd rfl h
  · subst h2; rw [sgnI_neg h1, sgnI_zero, cmpI_lt h1]; decide
  · rw [sgnI_neg h1, sgnI_pos h2, cmpI_lt (show u < v by omega)]; decide
  · subst h1; rw [sgnI_neg h2, sgnI_zero, cmpI_gt h2]; decide
  · subst h1; subst h2; exact absurd rfl h
  · subst h1; rw [sgnI_pos h2, sgnI_zero, cmpI_lt h2]; decide
  · rw [sgnI_pos h1, sgnI_neg h2, cmpI_gt (show v < u by omega)]; decide
  · subst h2; rw [sgnI_pos h1, sgnI_zero, cmpI_gt h1]; decide
  · rw [sgnI_pos h1, sgnI_pos h2] at h; exact absurd rfl h

/-- Tops that differ say which is more, without the sign. -/
theorem cmp_tops (va vb na nb da db : Nat) (h2 : va < 2 ^ na) (h3 : 2 ^ (nb - 1) ≤ vb) (hb : 1 ≤ nb) (h : na + da < nb + db) : va * 2 ^ da < vb * 2 ^ db := by
  have e1 : va * 2 ^ da < 2 ^ (na + da) := by rw [Nat.pow_add]; exact Nat.mul_lt_mul_of_pos_right h2 (Nat.pow_pos (by decide))
  have e2 : 2 ^ (nb - 1 + db) ≤ vb * 2 ^ db := by rw [Nat.pow_add]; exact Nat.mul_le_mul_right _ h3
  have e3 : 2 ^ (na + da) ≤ 2 ^ (nb - 1 + db) := Nat.pow_le_pow_right (by decide) (by omega)
  omega

theorem up_sval (n : Bool) (L : List Nat) (x l : Int) : up (sval n L) x l = sg n (val L * 2 ^ (x - l).toNat) := by
  unfold up
  rw [sval_sg]
  unfold sg
  cases n
  · simp
  · simp [Int.neg_mul]

theorem cmpI_swap (u v : Int) : cmpI v u = - cmpI u v := by
  unfold cmpI
  rcases Int.lt_trichotomy u v with h | h | h
  · rw [if_neg (by omega), if_pos h, if_pos h]; rfl
  · subst h; simp
  · rw [if_pos h, if_neg (by omega), if_pos h]

theorem cmpI_sgn (u v : Int) : cmpI u v = sgnI (u - v) := by
  rcases Int.lt_trichotomy u v with h | h | h
  · rw [cmpI_lt h, sgnI_neg (by omega)]
  · subst h; rw [cmpI_eq rfl, Int.sub_self]; rfl
  · rw [cmpI_gt h, sgnI_pos (by omega)]

/-- Two right numbers of one sign that is not 0, by their tops. -/
theorem cmpV_tops {na nb : Bool} {A B : List Nat} {x y : Int} (fA : Fits A) (fB : Fits B) (ra : rightB na A = true) (rb : rightB nb B = true) (hA : A.length ≠ 0) (hB : B.length ≠ 0) (hs : na = nb) (h : lenL A + x < lenL B + y) :
    cmpV (sval na A) x (sval nb B) y = (if na then 1 else -1) ∧ cmpV (sval nb B) y (sval na A) x = (if na then -1 else 1) := by
  have a0 : sval na A ≠ 0 := fun e => hA ((sval_zero_iff ra).1 e)
  have b0 : sval nb B ≠ 0 := fun e => hB ((sval_zero_iff rb).1 e)
  have sA := bits_spec A fA (right_canon ra).2.1 (fun e => hA (by rw [e]; rfl))
  have sB := bits_spec B fB (right_canon rb).2.1 (fun e => hB (by rw [e]; rfl))
  rw [lenL_bits, lenL_bits] at h
  have key : ∀ l, l ≤ x → l ≤ y → cmpI (up (sval na A) x l) (up (sval nb B) y l) = (if na then 1 else -1) := by
    intro l h1 h2
    have hlt := cmp_tops (val A) (val B) (bits1 A) (bits1 B) (x - l).toNat (y - l).toNat sA.2.2 sB.2.1 sB.1 (by omega)
    rw [up_sval, up_sval, ← hs]
    unfold sg
    cases na
    · simp only [Bool.false_eq_true, if_false]
      exact cmpI_lt (by omega)
    · simp only [if_true]
      exact cmpI_gt (by omega)
  constructor
  · unfold cmpV
    rw [lowE_ne _ _ _ _ a0 b0]
    exact key _ (by omega) (by omega)
  · unfold cmpV
    rw [lowE_ne _ _ _ _ b0 a0, cmpI_swap, key _ (by omega) (by omega)]
    cases na <;> rfl

/-- Tops alike: written with the lesser power neither is too wide. -/
theorem tops_fit {na nb : Bool} {A B : List Nat} {x y : Int} (fA : Fits A) (fB : Fits B) (ra : rightB na A = true) (rb : rightB nb B = true) (hA : A.length ≠ 0) (hB : B.length ≠ 0) (h : lenL A + x = lenL B + y) :
    upE (sval na A) x (min x y) = 0 ∧ upE (sval nb B) y (min x y) = 0 := by
  have bl : ∀ (n : Bool) (L : List Nat), Fits L → rightB n L = true → L.length ≠ 0 → 1 ≤ lenL L ∧ lenL L ≤ 16384 := fun n L f r h0 => by
    have s := bits_spec L f (right_canon r).2.1 (fun e => h0 (by rw [e]; rfl))
    have hT := (val_lt_TOP L f (right_canon r).2.1).2 (right_canon r).1
    have e2 : 32 * TOPN = 16384 := rfl
    rw [TOP_eq] at hT
    have hb := bits_up (val L) (bits1 L) 0 (32 * TOPN) s.1 s.2.1 s.2.2
    rw [Nat.pow_zero, Nat.mul_one] at hb
    have := hb.1 hT
    rw [lenL_bits]
    omega
  have b1 := bl na A fA ra hA
  have b2 := bl nb B fB rb hB
  rw [up_bits na A x _ fA ra (fun e => hA (by rw [e]; rfl)) (by omega), up_bits nb B y _ fB rb (fun e => hB (by rw [e]; rfl)) (by omega)]
  omega

/-- Each value has just one right number. -/
theorem cmpV_zero {na nb : Bool} {A B : List Nat} {x y : Int} (hra : drB na A x = true) (hrb : drB nb B y = true) : cmpV (sval na A) x (sval nb B) y = 0 ↔ (x = y ∧ sval na A = sval nb B) := by
  obtain ⟨ra, _, _, _, zx⟩ := drB_bounds hra
  obtain ⟨rb, _, _, _, zy⟩ := drB_bounds hrb
  have c0 : ∀ u v : Int, cmpI u v = 0 ↔ u = v := fun u v => by
    constructor
    · intro h
      rcases Int.lt_trichotomy u v with h1 | h1 | h1
      · rw [cmpI_lt h1] at h; exact absurd h (by decide)
      · exact h1
      · rw [cmpI_gt h1] at h; exact absurd h (by decide)
    · exact fun h => cmpI_eq h
  unfold cmpV
  rw [c0]
  constructor
  · intro h
    by_cases a0 : sval na A = 0
    · rw [a0, up_zero] at h
      have b0 : sval nb B = 0 := by
        have h2 := sgnI_up (sval nb B) y (lowE 0 x (sval nb B) y)
        rw [← h, sgnI_zero] at h2
        rcases Int.lt_trichotomy (sval nb B) 0 with h1 | h1 | h1
        · rw [sgnI_neg h1] at h2; exact absurd h2 (by decide)
        · exact h1
        · rw [sgnI_pos h1] at h2; exact absurd h2 (by decide)
      rw [zx ((sval_zero_iff ra).1 a0), zy ((sval_zero_iff rb).1 b0), a0, b0]
      exact ⟨rfl, rfl⟩
    · have b0 : sval nb B ≠ 0 := fun b0 => by
        rw [b0, up_zero] at h
        have h2 := sgnI_up (sval na A) x (lowE (sval na A) x 0 y)
        rw [h, sgnI_zero] at h2
        rcases Int.lt_trichotomy (sval na A) 0 with h1 | h1 | h1
        · rw [sgnI_neg h1] at h2; exact absurd h2 (by decide)
        · exact a0 h1
        · rw [sgnI_pos h1] at h2; exact absurd h2 (by decide)
      rw [lowE_ne _ _ _ _ a0 b0] at h
      have oA := (drB_odd hra a0).2
      have oB := (drB_odd hrb b0).2
      have hO : ∃ k j : Nat, sval na A * 2 ^ k = sval nb B * 2 ^ j ∧ (k : Int) = x - min x y ∧ (j : Int) = y - min x y := ⟨_, _, h, by omega, by omega⟩
      obtain ⟨k, j, h3, hk, hj⟩ := hO
      obtain ⟨e1, e2⟩ := OddOf.unique (z := sval na A * 2 ^ k) ⟨rfl, oA⟩ ⟨h3, oB⟩
      exact ⟨by omega, e1⟩
  · rintro ⟨rfl, e⟩
    rw [e]

end Go.Proofs.YtinlddkdkgepjaaDoor

/- Contract of dyadic's Compare. -/
namespace Go.Proofs.YtinlddkdkgepjaaDoor
open Go.RowKit
attribute [local go_sem ↓] Go.wp_at_zero Go.wp_at_succ

theorem compare_num {B B' : Nat} {w : World} {v u : Value} {x y : Int} (hv : IsNum B w v x) (hu : IsNum B' w u y) (hx : x.natAbs < TOP) (hy : y.natAbs < TOP) :
    Calls Tryd.prog 56 #[v, u] w fun e w' => e = .returned (.tuple #[.int .i64 (cmpI x y), .int .i64 0]) ∧ Below w.heap.size w w' := by
  obtain ⟨na, ao, ca, A, rfl, a1, a2, a3, a4⟩ := hv.right hx
  obtain ⟨nb, bo, cb, C, rfl, b1, b2, b3, b4⟩ := hu.right hy
  have := compare_any na nb ao bo ca cb A C w a1 b1 (by omega) (by omega)
  unfold cmpE chk2 at this
  rwa [a2, b2, Bool.and_self, if_pos rfl, if_pos rfl, a3, b3] at this

/-- The ways that Compare goes. -/
theorem cmp_ways {na nb : Bool} {A B : List Nat} {x y : Int} (fA : Fits A) (fB : Fits B) (hra : drB na A x = true) (hrb : drB nb B y = true) :
    (sgnB na A.length ≠ sgnB nb B.length ∧ cmpI (sgnB na A.length) (sgnB nb B.length) = cmpV (sval na A) x (sval nb B) y ∧ min 1 (max (-1) (sgnB na A.length - sgnB nb B.length)) = cmpV (sval na A) x (sval nb B) y) ∨
    (sgnB na A.length = sgnB nb B.length ∧ ∃ s c : Int, (s = 1 ∨ s = -1) ∧ ((c = 1 ∧ topR B y < topR A x) ∨ (c = -1 ∧ topR A x < topR B y)) ∧ sgnB na A.length = s ∧ cmpI (topR A x) (topR B y) = c ∧ cmpV (sval na A) x (sval nb B) y = s * c) ∨
    (sgnB na A.length = sgnB nb B.length ∧ topR A x = topR B y ∧ upE (sval na A) x (min x y) = 0 ∧ upE (sval nb B) y (min x y) = 0 ∧ cmpI (up (sval na A) x (min x y)) (up (sval nb B) y (min x y)) = cmpV (sval na A) x (sval nb B) y ∧ lowE (sval na A) x (sval nb B) y = min x y) := by
  obtain ⟨ra, _, a1, a2, zx⟩ := drB_bounds hra
  obtain ⟨rb, _, b1, b2, zy⟩ := drB_bounds hrb
  rw [sgnB_I ra, sgnB_I rb]
  by_cases hs : sgnI (sval na A) = sgnI (sval nb B)
  case neg =>
    left
    have h := cmp_signs (up (sval na A) x (lowE (sval na A) x (sval nb B) y)) (up (sval nb B) y (lowE (sval na A) x (sval nb B) y)) (by rw [sgnI_up, sgnI_up]; exact hs)
    rw [sgnI_up, sgnI_up] at h
    exact ⟨hs, h.1, h.2⟩
  right
  by_cases hA : A.length = 0
  · have sa := (sval_zero_iff ra).2 hA
    have sb : sval nb B = 0 := by
      rw [sa, sgnI_zero] at hs
      rcases Int.lt_trichotomy (sval nb B) 0 with h | h | h
      · rw [sgnI_neg h] at hs; exact absurd hs (by decide)
      · exact h
      · rw [sgnI_pos h] at hs; exact absurd hs (by decide)
    have hB := (sval_zero_iff rb).1 sb
    right
    refine ⟨hs, by unfold topR; rw [if_pos hA, if_pos hB], ?_⟩
    rw [sa, sb, zx hA, zy hB]
    refine ⟨upE_ok _ _ _ (by rw [up_zero]; exact TOP_pos) (by decide), upE_ok _ _ _ (by rw [up_zero]; exact TOP_pos) (by decide), ?_, by simp [lowE]⟩
    unfold cmpV
    simp [up_zero]
  have a0 : sval na A ≠ 0 := fun e => hA ((sval_zero_iff ra).1 e)
  have b0 : sval nb B ≠ 0 := fun e => by
    rw [e, sgnI_zero] at hs
    rcases Int.lt_trichotomy (sval na A) 0 with h | h | h
    · rw [sgnI_neg h] at hs; exact absurd hs (by decide)
    · exact a0 h
    · rw [sgnI_pos h] at hs; exact absurd hs (by decide)
  have hB : B.length ≠ 0 := fun e => b0 ((sval_zero_iff rb).2 e)
  have hn : na = nb ∧ sgnI (sval na A) = if na then -1 else 1 := by
    have e1 := sgnB_I ra
    have e2 := sgnB_I rb
    unfold sgnB at e1 e2
    rw [if_neg hA] at e1
    rw [if_neg hB] at e2
    refine ⟨?_, e1.symm⟩
    rw [← e1, ← e2] at hs
    cases na <;> cases nb <;> first | rfl | exact absurd hs (by decide)
  have tA : topR A x = lenL A + x := by unfold topR; rw [if_neg hA]
  have tB : topR B y = lenL B + y := by unfold topR; rw [if_neg hB]
  rw [tA, tB]
  rcases Int.lt_trichotomy (lenL A + x) (lenL B + y) with h | h | h
  · left
    have hv := (cmpV_tops fA fB ra rb hA hB hn.1 h).1
    refine ⟨hs, if na then -1 else 1, -1, ?_, .inr ⟨rfl, h⟩, hn.2, cmpI_lt h, ?_⟩
    · cases na <;> simp
    · rw [hv]; cases na <;> rfl
  · right
    have hf := tops_fit fA fB ra rb hA hB h
    refine ⟨hs, h, hf.1, hf.2, ?_, lowE_ne _ _ _ _ a0 b0⟩
    unfold cmpV
    rw [lowE_ne _ _ _ _ a0 b0]
  · left
    have hv := (cmpV_tops fB fA rb ra hB hA hn.1.symm h).2
    rw [← hn.1] at hv
    refine ⟨hs, if na then -1 else 1, 1, ?_, .inl ⟨rfl, h⟩, hn.2, cmpI_gt h, ?_⟩
    · cases na <;> simp
    · rw [hn.1, ← hn.1, hv]; cases na <;> rfl

set_option maxHeartbeats 2000000 in
theorem dcompare_wrong (na nb : Bool) (ao bo : Option Addr) (ca cb : Nat) (A B : List Nat) (x y : Int) (w : World) (hA : LimbsAt w ao ca A) (hB : LimbsAt w bo cb B) (la : A.length ≤ 35184372088830) (lb : B.length ≤ 35184372088830) (hr : (drB na A x && drB nb B y) = false) (hT : Tab w) :
    Calls Tryd.prog 29 #[.agg #[.bool na, .slice ao A.length ca, .int .i64 x], .agg #[.bool nb, .slice bo B.length cb, .int .i64 y]] w fun r w' => r = .returned (.tuple #[.int .i64 0, .int .i64 1]) ∧ Below w.heap.size w w' := by
  have CC := hide (fun w' h h' t => dcheckBoth_any na nb ao bo ca cb A B x y w' h h' la lb t)
  have he : drE2 na A x nb B y = 1 := by unfold drE2; rw [hr]; rfl
  rw [he] at CC
  clear he hr
  have hb0 : Below w.heap.size w ((w.alloc (.cells #[.bool na, .slice ao A.length ca, .int .i64 x] 26)).alloc (.cells #[.bool nb, .slice bo B.length cb, .int .i64 y] 26)) := ((Below.refl _ _).alloc (Nat.le_refl _) _).alloc (by simp) _
  have x0 : Box3 ((w.alloc (.cells #[.bool na, .slice ao A.length ca, .int .i64 x] 26)).alloc (.cells #[.bool nb, .slice bo B.length cb, .int .i64 y] 26)) w.heap.size (.bool na) (.slice ao A.length ca) (.int .i64 x) := (Box3.new _ _ _ _).old _
  have x1 : Box3 ((w.alloc (.cells #[.bool na, .slice ao A.length ca, .int .i64 x] 26)).alloc (.cells #[.bool nb, .slice bo B.length cb, .int .i64 y] 26)) (w.heap.size + 1) (.bool nb) (.slice bo B.length cb) (.int .i64 y) := by
    have := Box3.new (w.alloc (.cells #[.bool na, .slice ao A.length ca, .int .i64 x] 26)) (.bool nb) (.slice bo B.length cb) (.int .i64 y)
    simpa using this
  have B0 := hide hb0; have X0 := hide x0; have X1 := hide x1
  clear hb0 x0 x1
  go_enter Tryd.func29, Tryd.ntmps29
  go_wp2_with fail
  refine (unhide CC _ (hA.below (unhide B0)) (hB.below (unhide B0)) (hT.all (unhide B0))).mono ?_
  rintro r w1 ⟨rfl, hb1⟩
  have B2 := hide ((unhide B0).trans (hb1.mono (unhide B0).size))
  clear hb1 X0 X1 B0 CC
  go_wp2
  refine bodyPost_ret (v := .tuple #[.int .i64 0, .int .i64 1]) (by simp [results, Tryd.results29, go_sem]) rfl ⟨rfl, unhide B2⟩

set_option maxHeartbeats 4000000 in
theorem dcompare_right (na nb : Bool) (ao bo : Option Addr) (ca cb : Nat) (A B : List Nat) (x y : Int) (w : World) (hA : LimbsAt w ao ca A) (hB : LimbsAt w bo cb B) (hra : drB na A x = true) (hrb : drB nb B y = true) (hT : Tab w) :
    Calls Tryd.prog 29 #[.agg #[.bool na, .slice ao A.length ca, .int .i64 x], .agg #[.bool nb, .slice bo B.length cb, .int .i64 y]] w fun r w' => r = .returned (.tuple #[.int .i64 (cmpV (sval na A) x (sval nb B) y), .int .i64 0]) ∧ Below w.heap.size w w' := by
  have WAYS := hide (cmp_ways hA.2.1 hB.2.1 hra hrb)
  obtain ⟨ra, la, bx1, bx2, zx⟩ := drB_bounds hra
  obtain ⟨rb, lb, by1, by2, zy⟩ := drB_bounds hrb
  have CC := hide (fun w' h h' t => dcheckBoth_any na nb ao bo ca cb A B x y w' h h' (by omega) (by omega) t)
  have he : drE2 na A x nb B y = 0 := by unfold drE2; rw [hra, hrb]; rfl
  rw [he] at CC
  have CSA := hide (fun w' => sign_any na ao ca A.length w')
  have CSB := hide (fun w' => sign_any nb bo cb B.length w')
  have CTA := hide (fun w' h => dtop_any na ao ca A x w' h (by omega))
  have CTB := hide (fun w' h => dtop_any nb bo cb B y w' h (by omega))
  rw [top_same hra] at CTA
  rw [top_same hrb] at CTB
  have CAL := hide (fun w' h h' => align_any na nb ao bo ca cb A B x y (min x y) w' h h' ra rb ⟨bx1, bx2⟩ ⟨by1, by2⟩ rfl)
  have CCMP := hide (fun w' u v (h1 : upE (sval na A) x (min x y) = 0) (h2 : upE (sval nb B) y (min x y) = 0) (iu : IsNum 0 w' u (up (sval na A) x (min x y))) (iv : IsNum 0 w' v (up (sval nb B) y (min x y))) => compare_num iu iv (upE_TOP h1) (upE_TOP h2))
  clear he hra hrb zx zy ra rb
  generalize cmpV (sval na A) x (sval nb B) y = cv at *
  generalize upE (sval na A) x (min x y) = ea at *
  generalize upE (sval nb B) y (min x y) = eb at *
  generalize up (sval na A) x (min x y) = za at *
  generalize up (sval nb B) y (min x y) = zb at *
  generalize topR A x = ta at *
  generalize topR B y = tb at *
  generalize sgnB na A.length = sga at *
  generalize sgnB nb B.length = sgb at *
  have hb0 : Below w.heap.size w ((w.alloc (.cells #[.bool na, .slice ao A.length ca, .int .i64 x] 26)).alloc (.cells #[.bool nb, .slice bo B.length cb, .int .i64 y] 26)) := ((Below.refl _ _).alloc (Nat.le_refl _) _).alloc (by simp) _
  have x0 : Box3 ((w.alloc (.cells #[.bool na, .slice ao A.length ca, .int .i64 x] 26)).alloc (.cells #[.bool nb, .slice bo B.length cb, .int .i64 y] 26)) w.heap.size (.bool na) (.slice ao A.length ca) (.int .i64 x) := (Box3.new _ _ _ _).old _
  have x1 : Box3 ((w.alloc (.cells #[.bool na, .slice ao A.length ca, .int .i64 x] 26)).alloc (.cells #[.bool nb, .slice bo B.length cb, .int .i64 y] 26)) (w.heap.size + 1) (.bool nb) (.slice bo B.length cb) (.int .i64 y) := by
    have := Box3.new (w.alloc (.cells #[.bool na, .slice ao A.length ca, .int .i64 x] 26)) (.bool nb) (.slice bo B.length cb) (.int .i64 y)
    simpa using this
  have B0 := hide hb0; have X0 := hide x0; have X1 := hide x1
  clear hb0 x0 x1
  go_enter Tryd.func29, Tryd.ntmps29
  go_wp2_with fail
  refine (unhide CC _ (hA.below (unhide B0)) (hB.below (unhide B0)) (hT.all (unhide B0))).mono ?_
  rintro r w1 ⟨rfl, hb1⟩
  have x0 := (unhide X0).all hb1; have x1 := (unhide X1).all hb1
  have b1 := (unhide B0).trans (hb1.mono (unhide B0).size)
  clear X0 X1 B0
  have X0 := hide x0; have X1 := hide x1; have B0 := hide b1
  clear hb1 x0 x1 b1
  have p0 := (unhide X0).c0; have p1 := (unhide X0).c1; have p2 := (unhide X0).c2
  have q0 := (unhide X1).c0; have q1 := (unhide X1).c1; have q2 := (unhide X1).c2
  clear CC
  go_wp2_with fail
  refine (unhide CSA _).mono ?_
  rintro r w2 ⟨rfl, hb1⟩
  clear p0 p1 p2 q0 q1 q2
  have x0 := (unhide X0).all hb1; have x1 := (unhide X1).all hb1
  have b1 := (unhide B0).trans (hb1.mono (unhide B0).size)
  clear X0 X1 B0
  have X0 := hide x0; have X1 := hide x1; have B0 := hide b1
  clear hb1 x0 x1 b1
  have p0 := (unhide X0).c0; have p1 := (unhide X0).c1; have p2 := (unhide X0).c2
  have q0 := (unhide X1).c0; have q1 := (unhide X1).c1; have q2 := (unhide X1).c2
  go_wp2_with fail
  refine (unhide CSB _).mono ?_
  rintro r w3 ⟨rfl, hb1⟩
  clear p0 p1 p2 q0 q1 q2
  have x0 := (unhide X0).all hb1; have x1 := (unhide X1).all hb1
  have b1 := (unhide B0).trans (hb1.mono (unhide B0).size)
  clear X0 X1 B0
  have X0 := hide x0; have X1 := hide x1; have B0 := hide b1
  clear hb1 x0 x1 b1
  have p0 := (unhide X0).c0; have p1 := (unhide X0).c1; have p2 := (unhide X0).c2
  have q0 := (unhide X1).c0; have q1 := (unhide X1).c1; have q2 := (unhide X1).c2
  rcases unhide WAYS with ⟨hne, hc, _⟩ | ⟨hsame, s, c, hs, hc, rfl, hcc, hcv⟩ | ⟨hsame, htt, h1, h2, hcv, _⟩
  · have hne' : (sga != sgb) = true := by rw [bne_iff_ne]; exact hne
    have HC := hide hc
    clear WAYS hne hc CTA CTB CAL CCMP
    go_wp2_with (go_at_call 54; refine (cmpi_any _ _ _).mono ?_; rintro r w4 ⟨rfl, rfl⟩)
    refine bodyPost_ret (v := .tuple #[.int .i64 (cmpI sga sgb), .int .i64 0]) (by simp [results, Tryd.results29, go_sem]) rfl ⟨by rw [unhide HC], unhide B0⟩
  · subst hsame
    have HCV := hide hcv
    have CC2 := hide (fun w' => cmpi_any ta tb w')
    rw [hcc] at CC2
    clear WAYS hcc hcv CAL CCMP
    go_wp2_with fail
    refine at_world (fun W => Below w.heap.size w W ∧ Box3 W w.heap.size (.bool na) (.slice ao A.length ca) (.int .i64 x) ∧ Box3 W (w.heap.size + 1) (.bool nb) (.slice bo B.length cb) (.int .i64 y)) ⟨unhide B0, unhide X0, unhide X1⟩ ?_
    clear B0 X0 X1 p0 p1 p2 q0 q1 q2
    rintro W0 ⟨b0, x0, x1⟩
    have hK : ∀ w', Below W0.heap.size W0 w' → Below W0.heap.size W0 w' ∧ w'.cell? ⟨w.heap.size, 0, none⟩ = some (.bool na) ∧ w'.cell? ⟨w.heap.size, 1, none⟩ = some (.slice ao A.length ca) ∧ w'.cell? ⟨w.heap.size, 2, none⟩ = some (.int .i64 x) ∧ w'.cell? ⟨w.heap.size + 1, 0, none⟩ = some (.bool nb) ∧ w'.cell? ⟨w.heap.size + 1, 1, none⟩ = some (.slice bo B.length cb) ∧ w'.cell? ⟨w.heap.size + 1, 2, none⟩ = some (.int .i64 y) := fun w' h =>
      ⟨h, (x0.all h).c0, (x0.all h).c1, (x0.all h).c2, (x1.all h).c0, (x1.all h).c1, (x1.all h).c2⟩
    have HK := hide hK
    have HA := hide (hA.below b0); have HB := hide (hB.below b0); have BB := hide b0; have X0 := hide x0; have X1 := hide x1
    clear hK b0 x0 x1
    have hcz : (c != 0) = true := by rcases hc with ⟨rfl, _⟩ | ⟨rfl, _⟩ <;> rfl
    go_region_held3 (fun w' => Below W0.heap.size W0 w' ∧ w'.cell? ⟨w.heap.size, 0, none⟩ = some (.bool na) ∧ w'.cell? ⟨w.heap.size, 1, none⟩ = some (.slice ao A.length ca) ∧ w'.cell? ⟨w.heap.size, 2, none⟩ = some (.int .i64 x) ∧ w'.cell? ⟨w.heap.size + 1, 0, none⟩ = some (.bool nb) ∧ w'.cell? ⟨w.heap.size + 1, 1, none⟩ = some (.slice bo B.length cb) ∧ w'.cell? ⟨w.heap.size + 1, 2, none⟩ = some (.int .i64 y))
      (first | exact unhide HK _ (Below.refl _ _).drew | exact unhide HK _ (by assumption))
      (first | (go_at_call_of 11 (Value.agg #[.bool na, .slice ao A.length ca, .int .i64 x]); refine (unhide CTA _ ((unhide HA).below (And.left (by assumption)))).mono ?_; rintro e wn ⟨rfl, hb1⟩; have hB : Below W0.heap.size W0 wn := Below.trans (And.left (by assumption)) (hb1.mono (Below.size (And.left (by assumption)))); clear hb1) | (go_at_call_of 11 (Value.agg #[.bool nb, .slice bo B.length cb, .int .i64 y]); refine (unhide CTB _ ((unhide HB).below (And.left (by assumption)))).mono ?_; rintro e wn ⟨rfl, hb1⟩; have hB : Below W0.heap.size W0 wn := Below.trans (And.left (by assumption)) (hb1.mono (Below.size (And.left (by assumption)))); clear hb1) | (go_at_call 54; refine (unhide CC2 _).mono ?_; rintro e wq ⟨rfl, rfl⟩))
    have hn : Below W0.heap.size W0 wn := And.left (by assumption)
    have B9 := hide ((unhide BB).trans (hn.mono (unhide BB).size))
    rcases hs with rfl | rfl
    all_goals
      rcases hc with ⟨rfl, _⟩ | ⟨rfl, _⟩
    all_goals
      go_wp2
      refine bodyPost_ret (v := .tuple #[.int .i64 cv, .int .i64 0]) (by rw [unhide HCV]; simp [results, Tryd.results29, go_sem]) rfl ⟨rfl, unhide B9⟩
  · subst hsame
    have HCV := hide hcv
    have CC2 := hide (fun w' => cmpi_any ta tb w')
    rw [cmpI_eq htt] at CC2
    have E1 := hide h1; have E2 := hide h2
    have CCMP' := hide (fun w' u v iu iv => unhide CCMP w' u v h1 h2 iu iv)
    clear WAYS hcv h1 h2 CCMP htt
    go_wp2_with fail
    refine at_world (fun W => Below w.heap.size w W ∧ Box3 W w.heap.size (.bool na) (.slice ao A.length ca) (.int .i64 x) ∧ Box3 W (w.heap.size + 1) (.bool nb) (.slice bo B.length cb) (.int .i64 y)) ⟨unhide B0, unhide X0, unhide X1⟩ ?_
    clear B0 X0 X1 p0 p1 p2 q0 q1 q2
    rintro W0 ⟨b0, x0, x1⟩
    have hK : ∀ w', Below W0.heap.size W0 w' → Below W0.heap.size W0 w' ∧ w'.cell? ⟨w.heap.size, 0, none⟩ = some (.bool na) ∧ w'.cell? ⟨w.heap.size, 1, none⟩ = some (.slice ao A.length ca) ∧ w'.cell? ⟨w.heap.size, 2, none⟩ = some (.int .i64 x) ∧ w'.cell? ⟨w.heap.size + 1, 0, none⟩ = some (.bool nb) ∧ w'.cell? ⟨w.heap.size + 1, 1, none⟩ = some (.slice bo B.length cb) ∧ w'.cell? ⟨w.heap.size + 1, 2, none⟩ = some (.int .i64 y) := fun w' h =>
      ⟨h, (x0.all h).c0, (x0.all h).c1, (x0.all h).c2, (x1.all h).c0, (x1.all h).c1, (x1.all h).c2⟩
    have HK := hide hK
    have HA := hide (hA.below b0); have HB := hide (hB.below b0); have BB := hide b0; have X0 := hide x0; have X1 := hide x1
    clear hK b0 x0 x1
    go_region_held3 (fun w' => Below W0.heap.size W0 w' ∧ w'.cell? ⟨w.heap.size, 0, none⟩ = some (.bool na) ∧ w'.cell? ⟨w.heap.size, 1, none⟩ = some (.slice ao A.length ca) ∧ w'.cell? ⟨w.heap.size, 2, none⟩ = some (.int .i64 x) ∧ w'.cell? ⟨w.heap.size + 1, 0, none⟩ = some (.bool nb) ∧ w'.cell? ⟨w.heap.size + 1, 1, none⟩ = some (.slice bo B.length cb) ∧ w'.cell? ⟨w.heap.size + 1, 2, none⟩ = some (.int .i64 y))
      (first | exact unhide HK _ (Below.refl _ _).drew | exact unhide HK _ (by assumption))
      (first | (go_at_call_of 11 (Value.agg #[.bool na, .slice ao A.length ca, .int .i64 x]); refine (unhide CTA _ ((unhide HA).below (And.left (by assumption)))).mono ?_; rintro e wn ⟨rfl, hb1⟩; have hB : Below W0.heap.size W0 wn := Below.trans (And.left (by assumption)) (hb1.mono (Below.size (And.left (by assumption)))); clear hb1) | (go_at_call_of 11 (Value.agg #[.bool nb, .slice bo B.length cb, .int .i64 y]); refine (unhide CTB _ ((unhide HB).below (And.left (by assumption)))).mono ?_; rintro e wn ⟨rfl, hb1⟩; have hB : Below W0.heap.size W0 wn := Below.trans (And.left (by assumption)) (hb1.mono (Below.size (And.left (by assumption)))); clear hb1) | (go_at_call 54; refine (unhide CC2 _).mono ?_; rintro e wq ⟨rfl, rfl⟩))
    have hn : Below W0.heap.size W0 wn := And.left (by assumption)
    have b9 := (unhide BB).trans (hn.mono (unhide BB).size)
    have B9 := hide b9
    clear b9
    go_wp2_with fail
    refine (unhide CAL _ ((unhide HA).below hn) ((unhide HB).below hn)).mono ?_
    rintro r w5 ⟨⟨n1, a1, l1, c1, n2, a2, l2, c2, ae, rfl, g1, g2⟩, hb1⟩
    obtain ⟨rfl, iu, iv⟩ := g1 (unhide E1) (unhide E2)
    have b9 := (unhide B9).trans (hb1.mono (unhide B9).size)
    have bA : Below w5.heap.size w5 ((w5.alloc (.cells #[.bool n1, .slice a1 l1 c1] 24)).alloc (.cells #[.bool n2, .slice a2 l2 c2] 24)) := ((Below.refl _ _).alloc (Nat.le_refl _) _).alloc (by simp) _
    have IU := hide (iu.below bA); have IV := hide (iv.below bA); have B7 := hide (b9.trans (bA.mono b9.size))
    clear g1 g2 hb1 iu iv b9 bA B9 CAL CTA CTB CC2 HK HA HB BB X0 X1
    go_wp2_with fail
    refine (unhide CCMP' _ _ _ (unhide IU) (unhide IV)).mono ?_
    rintro r w6 ⟨rfl, hb1⟩
    go_wp2
    refine bodyPost_ret (v := .tuple #[.int .i64 (cmpI za zb), .int .i64 0]) (by simp [results, Tryd.results29, go_sem]) rfl ⟨by rw [unhide HCV], (unhide B7).trans (hb1.mono (unhide B7).size)⟩

end Go.Proofs.YtinlddkdkgepjaaDoor

