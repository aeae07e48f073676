/- Part 14 of the texts. -/
import Derived.Test.YtinlddkdkgepjaaDoorPart13
import Derived.Test.YtinlddkdkgepjaaDoorChecked
import Derived.Test.YtinlddkdkgepjaaDoorPart01
import Derived.ProofKit
import Derived.SizedLaws
import Derived.Lib.SmallJoins
/- Contracts of the reference's Mul, Scale. -/
namespace Go.Proofs.YtinlddkdkgepjaaDoor
open Go.RowKit
attribute [local go_sem ↓] Go.wp_at_zero Go.wp_at_succ

theorem IsNum.toM {B : Nat} {w : World} {v : Value} {z : Int} (h : IsNum B w v z) (hz : z.natAbs < TOP) : IsNumM 512 B w v z := by
  obtain ⟨n, a, c, L, rfl, h1, h2, h3, h4, h5, h6⟩ := h
  exact ⟨n, a, c, L, rfl, h1, h2, h3, h4, h5, (val_lt_TOP L h1.2.1 h3).1 (by omega)⟩

theorem wrap_range (x : Int) : -9223372036854775808 ≤ IntKind.i64.wrap x ∧ IntKind.i64.wrap x ≤ 9223372036854775807 := by
  simp only [IntKind.wrap, IntKind.signed, IntKind.bits]
  simp
  split <;> omega

theorem val_lt_pow (L : List Nat) (hf : Fits L) (k : Nat) (h : L.length ≤ k) : val L < 2 ^ (32 * k) := by
  have h1 := val_lt L hf
  rw [show (4294967296 : Nat) = 2 ^ 32 by decide, ← Nat.pow_mul] at h1
  exact Nat.lt_of_lt_of_le h1 (Nat.pow_le_pow_right (by decide) (by omega))

theorem TOP_eq : TOP = 2 ^ (32 * TOPN) := by
  unfold TOP
  rw [show (4294967296 : Nat) = 2 ^ 32 by decide, ← Nat.pow_mul]

theorem lt_TOP {v k : Nat} (h : v < 2 ^ k) (hk : k ≤ 16384) : v < TOP := by
  rw [TOP_eq]
  exact Nat.lt_of_lt_of_le h (Nat.pow_le_pow_right (by decide) hk)

theorem mul_lt_pow {a b j k : Nat} (h1 : a < 2 ^ j) (h2 : b < 2 ^ k) : a * b < 2 ^ (j + k) := by
  rw [Nat.pow_add]
  exact Nat.mul_lt_mul_of_lt_of_le h1 (Nat.le_of_lt h2) (Nat.pow_pos (by decide))

theorem mul_TOP (na nb : Bool) (A B : List Nat) (fA : Fits A) (fB : Fits B) (la : A.length ≤ 30) (lb : B.length ≤ 30) : (sval na A * sval nb B).natAbs < TOP := by
  rw [Int.natAbs_mul, natAbs_sval, natAbs_sval]
  exact lt_TOP (mul_lt_pow (val_lt_pow A fA 30 la) (val_lt_pow B fB 30 lb)) (by decide)

set_option maxHeartbeats 2000000 in
theorem rmul_any (na nb : Bool) (ao bo : Option Addr) (ca cb : Nat) (A B : List Nat) (x y : Int) (w : World) (hA : LimbsAt w ao ca A) (hB : LimbsAt w bo cb B) (la : A.length ≤ 30) (lb : B.length ≤ 30) :
    Calls Tryd.prog 27 #[.agg #[.bool na, .slice ao A.length ca, .int .i64 x], .agg #[.bool nb, .slice bo B.length cb, .int .i64 y]] w fun r w' => ∃ v, r = .returned v ∧ IsDy w' v (oM (sval na A * sval nb B)) (if sval na A * sval nb B = 0 then 0 else IntKind.i64.wrap (IntKind.i64.wrap (x + y) + tz (sval na A * sval nb B).natAbs)) ∧ Below w.heap.size w w' := by
  have hz := mul_TOP na nb A B hA.2.1 hB.2.1 la lb
  have CM := hide (fun w' h h' => refMul_any na nb ao bo ca cb A B w' h h' (by omega) (by omega))
  have CO := hide (fun e' w' u B' (iu : IsNum B' w' u (sval na A * sval nb B)) (he : e' = IntKind.i64.wrap (x + y)) => show Calls Tryd.prog 17 #[u, .int .i64 e'] w' fun r w'' => ∃ u, r = .returned u ∧ IsDy w'' u (oM (sval na A * sval nb B)) (if sval na A * sval nb B = 0 then 0 else IntKind.i64.wrap (IntKind.i64.wrap (x + y) + tz (sval na A * sval nb B).natAbs)) ∧ Below w'.heap.size w' w'' by
    subst he
    exact rof_num _ (iu.toM hz) (by decide) (wrap_range _))
  clear hz
  generalize sval na A * sval nb B = z at *
  generalize (if z = 0 then 0 else IntKind.i64.wrap (IntKind.i64.wrap (x + y) + tz z.natAbs)) = ox at *
  generalize oM z = om at *
  have hb0 : Below w.heap.size w (((w.alloc (.cells #[.bool na, .slice ao A.length ca, .int .i64 x] 26)).alloc (.cells #[.bool nb, .slice bo B.length cb, .int .i64 y] 26)).alloc (.cells #[.bool false, .slice none 0 0, .int .i64 0] 26)) :=
    (((Below.refl _ _).alloc (Nat.le_refl _) _).alloc (by simp) _).alloc (by simp; omega) _
  have x0 : Box3 (((w.alloc (.cells #[.bool na, .slice ao A.length ca, .int .i64 x] 26)).alloc (.cells #[.bool nb, .slice bo B.length cb, .int .i64 y] 26)).alloc (.cells #[.bool false, .slice none 0 0, .int .i64 0] 26)) w.heap.size (.bool na) (.slice ao A.length ca) (.int .i64 x) := ((Box3.new _ _ _ _).old _).old _
  have x1 : Box3 (((w.alloc (.cells #[.bool na, .slice ao A.length ca, .int .i64 x] 26)).alloc (.cells #[.bool nb, .slice bo B.length cb, .int .i64 y] 26)).alloc (.cells #[.bool false, .slice none 0 0, .int .i64 0] 26)) (w.heap.size + 1) (.bool nb) (.slice bo B.length cb) (.int .i64 y) := by
    have := (Box3.new (w.alloc (.cells #[.bool na, .slice ao A.length ca, .int .i64 x] 26)) (.bool nb) (.slice bo B.length cb) (.int .i64 y)).old (.cells #[.bool false, .slice none 0 0, .int .i64 0] 26)
    simpa using this
  have x2 : Box3 (((w.alloc (.cells #[.bool na, .slice ao A.length ca, .int .i64 x] 26)).alloc (.cells #[.bool nb, .slice bo B.length cb, .int .i64 y] 26)).alloc (.cells #[.bool false, .slice none 0 0, .int .i64 0] 26)) (w.heap.size + 1 + 1) (.bool false) (.slice none 0 0) (.int .i64 0) := by
    have := Box3.new ((w.alloc (.cells #[.bool na, .slice ao A.length ca, .int .i64 x] 26)).alloc (.cells #[.bool nb, .slice bo B.length cb, .int .i64 y] 26)) (.bool false) (.slice none 0 0) (.int .i64 0)
    simpa using this
  have B0 := hide hb0; have X0 := hide x0; have X1 := hide x1; have X2 := hide x2
  clear hb0 x0 x1 x2
  go_enter Tryd.func27, Tryd.ntmps27
  go_wp2_with fail
  refine at_world (fun W => Below w.heap.size w W ∧ Box3 W w.heap.size (.bool na) (.slice ao A.length ca) (.int .i64 x) ∧ Box3 W (w.heap.size + 1) (.bool nb) (.slice bo B.length cb) (.int .i64 y) ∧ Box3 W (w.heap.size + 1 + 1) (.bool false) (.slice none 0 0) (.int .i64 0)) ⟨unhide B0, unhide X0, unhide X1, unhide X2⟩ ?_
  clear B0 X0 X1 X2
  rintro W0 ⟨b0, x0, x1, x2⟩
  have s0 : w.heap.size + 1 + 1 < W0.heap.size := x2.lt
  have hK : ∀ w', Below (w.heap.size + 1 + 1) W0 w' → Below (w.heap.size + 1 + 1) W0 w' ∧ w'.cell? ⟨w.heap.size, 0, none⟩ = some (.bool na) ∧ w'.cell? ⟨w.heap.size, 1, none⟩ = some (.slice ao A.length ca) ∧ w'.cell? ⟨w.heap.size, 2, none⟩ = some (.int .i64 x) ∧ w'.cell? ⟨w.heap.size + 1, 0, none⟩ = some (.bool nb) ∧ w'.cell? ⟨w.heap.size + 1, 1, none⟩ = some (.slice bo B.length cb) ∧ w'.cell? ⟨w.heap.size + 1, 2, none⟩ = some (.int .i64 y) := fun w' h =>
    ⟨h, (x0.below h (by omega)).c0, (x0.below h (by omega)).c1, (x0.below h (by omega)).c2, (x1.below h (by omega)).c0, (x1.below h (by omega)).c1, (x1.below h (by omega)).c2⟩
  have HK := hide hK; have BB := hide b0; have X2 := hide x2
  clear hK b0 x0 x1 x2
  go_region_held3 (fun w' => Below (w.heap.size + 1 + 1) W0 w' ∧ w'.cell? ⟨w.heap.size, 0, none⟩ = some (.bool na) ∧ w'.cell? ⟨w.heap.size, 1, none⟩ = some (.slice ao A.length ca) ∧ w'.cell? ⟨w.heap.size, 2, none⟩ = some (.int .i64 x) ∧ w'.cell? ⟨w.heap.size + 1, 0, none⟩ = some (.bool nb) ∧ w'.cell? ⟨w.heap.size + 1, 1, none⟩ = some (.slice bo B.length cb) ∧ w'.cell? ⟨w.heap.size + 1, 2, none⟩ = some (.int .i64 y))
    (first | exact unhide HK _ (Below.refl _ _).drew | exact unhide HK _ (by assumption) | exact unhide HK _ (below_put3 hB2 (by omega) _ _ _))
    (first | (go_at_call 52; refine (unhide CM _ (hA.below ((unhide BB).trans ((Below.refl _ _).drew))) (hB.below ((unhide BB).trans ((Below.refl _ _).drew)))).mono ?_; rintro e w3 ⟨v, rfl, ⟨n4, a4, c4, L4, rfl, i4⟩, hb1⟩; have hB1 : Below (w.heap.size + 1 + 1) W0 w3 := ((Below.refl _ _).drew).trans (hb1.mono (by simp; omega)); have X3 := hide ((unhide X2).drew.below hb1 (by simp; omega)); have IZ := hide (show IsNum 0 w3 (.agg #[.bool n4, .slice a4 L4.length c4]) z from ⟨n4, a4, c4, L4, rfl, i4⟩); have s1 := hb1.size; have BB1 := hide ((unhide BB).trans (hB1.mono (by omega))); clear hb1 i4) | (go_at_call 17; refine (unhide CO _ _ _ _ (unhide IZ) (by first | rfl | exact (wrap64_is _))).mono ?_; rintro e w4 ⟨u, rfl, iu, hb2⟩; obtain ⟨n5, a5, c5, L5, rfl, i5⟩ := iu.num; have hB2 : Below (w.heap.size + 1 + 1) W0 w4 := hB1.trans (hb2.mono (by simp at s1; omega)); have X4 := (unhide X3).below hb2 (by simp at s1; omega); have y0 := X4.c0; have y1 := X4.c1; have y2 := X4.c2; have f0 := X4.free 0; have f1 := X4.free 1; have f2 := X4.free 2; have IU := hide iu; have X5 := hide X4; have BB2 := hide ((unhide BB1).trans (hb2.mono (by simp at s1; omega))); clear hb2 iu i5 X4))
  go_wp2
  refine bodyPost_ret (v := .agg #[.bool n5, .slice a5 L5.length c5, .int .i64 ox]) (by simp [results, Tryd.results27, go_sem, y0, y1, y2]) rfl ⟨_, rfl, (unhide IU).put3 (unhide X5) _ _ _, below_put3 (unhide BB2) (by omega) _ _ _⟩

end Go.Proofs.YtinlddkdkgepjaaDoor

/- Contract of the reference's Scale; what told asks of it. -/
namespace Go.Proofs.YtinlddkdkgepjaaDoor
open Go.RowKit
attribute [local go_sem ↓] Go.wp_at_zero Go.wp_at_succ

set_option maxHeartbeats 2000000 in
theorem rscale_any (na : Bool) (ao : Option Addr) (ca : Nat) (A : List Nat) (x n : Int) (w : World) (hA : LimbsAt w ao ca A) (hr : rightB na A = true) (hx : -16384 ≤ x ∧ x ≤ 16384) (hn : -32768 ≤ n ∧ n ≤ 32768) :
    Calls Tryd.prog 28 #[.agg #[.bool na, .slice ao A.length ca, .int .i64 x], .int .i64 n] w fun r w' => ∃ v, r = .returned v ∧ IsDy w' v (oM (sval na A)) (oE (sval na A) (x + n)) ∧ Below w.heap.size w w' := by
  have hz := sval_TOP hA hr
  have CO := hide (fun w' (h : LimbsAt w' ao ca A) => rof_small (x + n) ((right_num h hr (NewAt.zero h)).toM hz) (by decide) (by omega))
  clear hz hr
  generalize oE (sval na A) (x + n) = ox at *
  generalize oM (sval na A) = om at *
  obtain ⟨hx1, hx2⟩ := hx
  obtain ⟨hn1, hn2⟩ := hn
  have hb0 : Below w.heap.size w ((w.alloc (.cells #[.bool na, .slice ao A.length ca, .int .i64 x] 26)).alloc (.cells #[.bool false, .slice none 0 0, .int .i64 0] 26)) := ((Below.refl _ _).alloc (Nat.le_refl _) _).alloc (by simp) _
  have x0 : Box3 ((w.alloc (.cells #[.bool na, .slice ao A.length ca, .int .i64 x] 26)).alloc (.cells #[.bool false, .slice none 0 0, .int .i64 0] 26)) w.heap.size (.bool na) (.slice ao A.length ca) (.int .i64 x) := (Box3.new _ _ _ _).old _
  have x2 : Box3 ((w.alloc (.cells #[.bool na, .slice ao A.length ca, .int .i64 x] 26)).alloc (.cells #[.bool false, .slice none 0 0, .int .i64 0] 26)) (w.heap.size + 1) (.bool false) (.slice none 0 0) (.int .i64 0) := by
    have := Box3.new (w.alloc (.cells #[.bool na, .slice ao A.length ca, .int .i64 x] 26)) (.bool false) (.slice none 0 0) (.int .i64 0)
    simpa using this
  have B0 := hide hb0; have X0 := hide x0; have X2 := hide x2
  clear hb0 x0 x2
  go_enter Tryd.func28, Tryd.ntmps28
  go_wp2_with fail
  refine (unhide CO _ (hA.below (unhide B0))).mono ?_
  rintro r w4 ⟨v, rfl, iv, hb1⟩
  obtain ⟨n3, a3, c3, L3, rfl, i3⟩ := iv.num
  have x2 := (unhide X2).all hb1
  have b2 := (unhide B0).trans (hb1.mono (unhide B0).size)
  have y0 := x2.c0; have y1 := x2.c1; have y2 := x2.c2; have f0 := x2.free 0; have f1 := x2.free 1; have f2 := x2.free 2
  have X3 := hide x2; have B2 := hide b2; have IV := hide iv
  clear x2 b2 hb1 iv i3
  go_wp2
  refine bodyPost_ret (v := .agg #[.bool n3, .slice a3 L3.length c3, .int .i64 ox]) (by simp [results, Tryd.results28, go_sem, y0, y1, y2]) rfl ⟨_, rfl, (unhide IV).put3 (unhide X3) _ _ _, below_put3 (unhide B2) (by omega) _ _ _⟩

theorem drB_odd {neg : Bool} {L : List Nat} {e : Int} (h : drB neg L e = true) (h0 : sval neg L ≠ 0) : tz (sval neg L).natAbs = 0 ∧ sval neg L % 2 = 1 := by
  have hr := (drB_bounds h).1
  have hl : L.length ≠ 0 := fun e => h0 ((sval_zero_iff hr).2 e)
  unfold drB at h
  rw [if_neg hl, Bool.and_eq_true, Bool.and_eq_true] at h
  have ho : val L % 2 = 1 := of_decide_eq_true h.2.1
  refine ⟨by rw [natAbs_sval]; exact tz_odd _ ho, ?_⟩
  have := natAbs_sval neg L
  omega

theorem told_scale {na : Bool} {A : List Nat} {x n : Int} (h : drB na A x = true) (hn : -32768 ≤ n ∧ n ≤ 32768) :
    (dRt (oM (sval na A)) (oE (sval na A) (x + n)) = true → dErr (sval na A) (x + n) = 0 ∧ dM (sval na A) (x + n) = oM (sval na A) ∧ dX (sval na A) (x + n) = oE (sval na A) (x + n)) ∧ (dRt (oM (sval na A)) (oE (sval na A) (x + n)) = false → dErr (sval na A) (x + n) = 2 ∧ dM (sval na A) (x + n) = 0 ∧ dX (sval na A) (x + n) = 0) := by
  by_cases hin : -32768 ≤ x + n ∧ x + n ≤ 32768
  · exact told_make _ _ hin
  · obtain ⟨hr, hl, h1, h2, h3⟩ := drB_bounds h
    have h0 : sval na A ≠ 0 := fun e => by
      have := h3 ((sval_zero_iff hr).1 e)
      omega
    obtain ⟨ht, ho⟩ := drB_odd h h0
    have hd : dRt (oM (sval na A)) (oE (sval na A) (x + n)) = false := by
      unfold dRt
      rw [if_neg (oM_ne _ h0).1, oE_ne _ _ h0, ht, decide_eq_false (show ¬ (-16384 ≤ x + n + ((0 : Nat) : Int) ∧ x + n + ((0 : Nat) : Int) ≤ 16384) by omega), Bool.and_false]
    refine ⟨fun h => ?_, fun _ => make_far _ _ hin⟩
    rw [hd] at h
    exact absurd h (by decide)

end Go.Proofs.YtinlddkdkgepjaaDoor

/- The law DyadicProducts, walked. -/
namespace Go.Proofs.YtinlddkdkgepjaaDoor
open Go.RowKit
attribute [local go_sem ↓] Go.wp_at_zero Go.wp_at_succ

/-- Mul and form of two numbers of few limbs, and what told asks. -/
theorem prod_ways (na nb : Bool) (ao bo : Option Addr) (ca cb : Nat) (A B : List Nat) (x y : Int) (la : A.length ≤ 30) (lb : B.length ≤ 30) (fA : Fits A) (fB : Fits B) : ∃ e1 m1 x1 f1 om ox : Int,
    (∀ w, LimbsAt w ao ca A → LimbsAt w bo cb B → Tab w → Calls Tryd.prog 25 #[.agg #[.bool na, .slice ao A.length ca, .int .i64 x], .agg #[.bool nb, .slice bo B.length cb, .int .i64 y]] w fun r w' => DyR w' r e1 m1 x1 ∧ Below w.heap.size w w') ∧
    (∀ w, LimbsAt w ao ca A → LimbsAt w bo cb B → Calls Tryd.prog 21 #[.agg #[.bool na, .slice ao A.length ca, .int .i64 x], .agg #[.bool nb, .slice bo B.length cb, .int .i64 y]] w fun r w' => r = .returned (.int .i64 f1) ∧ Below w.heap.size w w') ∧
    (∀ w, LimbsAt w ao ca A → LimbsAt w bo cb B → Calls Tryd.prog 27 #[.agg #[.bool na, .slice ao A.length ca, .int .i64 x], .agg #[.bool nb, .slice bo B.length cb, .int .i64 y]] w fun r w' => ∃ v, r = .returned v ∧ IsDy w' v om ox ∧ Below w.heap.size w w') ∧
    om.natAbs < TOP ∧ (f1 ≠ 0 → e1 = f1 ∧ m1 = 0 ∧ x1 = 0) ∧ (f1 = 0 → dRt om ox = true → e1 = 0 ∧ m1 = om ∧ x1 = ox) ∧ (f1 = 0 → dRt om ox = false → e1 = 2 ∧ m1 = 0 ∧ x1 = 0) := by
  have hz := mul_TOP na nb A B fA fB la lb
  have ho : (oM (sval na A * sval nb B)).natAbs < TOP := Nat.lt_of_le_of_lt (oM_le _) hz
  by_cases hr : (drB na A x && drB nb B y) = true
  · have hr' := hr
    rw [Bool.and_eq_true] at hr
    obtain ⟨ra, rb⟩ := hr
    obtain ⟨_, _, a1, a2, _⟩ := drB_bounds ra
    obtain ⟨_, _, b1, b2, _⟩ := drB_bounds rb
    have ht := told_make (sval na A * sval nb B) (x + y) (by omega)
    have hox : (if sval na A * sval nb B = 0 then 0 else IntKind.i64.wrap (IntKind.i64.wrap (x + y) + tz (sval na A * sval nb B).natAbs)) = oE (sval na A * sval nb B) (x + y) := by
      unfold oE
      split
      · rfl
      · rename_i h0
        have := lowZ_le _ hz
        rw [lowZ_pos _ (by omega)] at this
        rw [wrap_small (x + y) (by omega)]
        exact wrap_small _ (by omega)
    refine ⟨_, _, _, 0, _, _, fun w h h' t => dmul_right na nb ao bo ca cb A B x y w h h' ra rb hz t, fun w h h' => ?_, fun w h h' => ?_, ho, fun h => absurd rfl h, fun _ => ht.1, fun _ => ht.2⟩
    · have := form2_any na nb ao bo ca cb A B x y w h h' (by omega) (by omega)
      unfold drE2 at this
      rw [hr'] at this
      exact this
    · have := rmul_any na nb ao bo ca cb A B x y w h h' la lb
      rwa [hox] at this
  · have hr' : (drB na A x && drB nb B y) = false := by simpa using hr
    refine ⟨1, 0, 0, 1, _, _, fun w h h' t => dmul_wrong na nb ao bo ca cb A B x y w h h' (by omega) (by omega) hr' t, fun w h h' => ?_, fun w h h' => rmul_any na nb ao bo ca cb A B x y w h h' la lb, ho, fun _ => ⟨rfl, rfl, rfl⟩, fun h => absurd h (by decide), fun h => absurd h (by decide)⟩
    have := form2_any na nb ao bo ca cb A B x y w h h' (by omega) (by omega)
    unfold drE2 at this
    rw [hr'] at this
    exact this

/-- Scale and form of a number of few limbs, and what told asks. -/
theorem scale_ways (na : Bool) (ao : Option Addr) (ca : Nat) (A : List Nat) (x n : Int) (la : A.length ≤ 30) (fA : Fits A) : ∃ e2 m2 x2 ga om ox : Int,
    (∀ w, LimbsAt w ao ca A → Tab w → Calls Tryd.prog 26 #[.agg #[.bool na, .slice ao A.length ca, .int .i64 x], .int .i64 n] w fun r w' => DyR w' r e2 m2 x2 ∧ Below w.heap.size w w') ∧
    (∀ w, LimbsAt w ao ca A → Calls Tryd.prog 21 #[.agg #[.bool na, .slice ao A.length ca, .int .i64 x], .agg #[.bool na, .slice ao A.length ca, .int .i64 x]] w fun r w' => r = .returned (.int .i64 ga) ∧ Below w.heap.size w w') ∧
    ((ga = 1 ∧ e2 = 1 ∧ m2 = 0 ∧ x2 = 0) ∨ (ga = 0 ∧ ¬ (-32768 ≤ n ∧ n ≤ 32768) ∧ e2 = 2 ∧ m2 = 0 ∧ x2 = 0) ∨
     (ga = 0 ∧ (-32768 ≤ n ∧ n ≤ 32768) ∧ (∀ w, LimbsAt w ao ca A → Calls Tryd.prog 28 #[.agg #[.bool na, .slice ao A.length ca, .int .i64 x], .int .i64 n] w fun r w' => ∃ v, r = .returned v ∧ IsDy w' v om ox ∧ Below w.heap.size w w') ∧ om.natAbs < TOP ∧ (dRt om ox = true → e2 = 0 ∧ m2 = om ∧ x2 = ox) ∧ (dRt om ox = false → e2 = 2 ∧ m2 = 0 ∧ x2 = 0))) := by
  by_cases hr : drB na A x = true
  · have hf : ∀ w, LimbsAt w ao ca A → Calls Tryd.prog 21 #[.agg #[.bool na, .slice ao A.length ca, .int .i64 x], .agg #[.bool na, .slice ao A.length ca, .int .i64 x]] w fun r w' => r = .returned (.int .i64 0) ∧ Below w.heap.size w w' := fun w h => by
      have := form2_any na na ao ao ca ca A A x x w h h (by omega) (by omega)
      unfold drE2 at this
      rw [hr] at this
      exact this
    by_cases hn : -32768 ≤ n ∧ n ≤ 32768
    · obtain ⟨ra, _, a1, a2, _⟩ := drB_bounds hr
      have ht := told_scale hr hn
      have hT : (sval na A).natAbs < TOP := by rw [natAbs_sval]; exact (val_lt_TOP A fA (right_canon ra).2.1).2 (right_canon ra).1
      exact ⟨_, _, _, 0, _, _, fun w h t => dscale_right na ao ca A x n w h hr hn t, hf, .inr (.inr ⟨rfl, hn, fun w h => rscale_any na ao ca A x n w h ra ⟨a1, a2⟩ hn, Nat.lt_of_le_of_lt (oM_le _) hT, ht.1, ht.2⟩)⟩
    · exact ⟨2, 0, 0, 0, 0, 0, fun w h t => dscale_far na ao ca A x n w h hr hn t, hf, .inr (.inl ⟨rfl, hn, rfl, rfl, rfl⟩)⟩
  · have hr' : drB na A x = false := by simpa using hr
    refine ⟨1, 0, 0, 1, 0, 0, fun w h t => dscale_wrong na ao ca A x n w h (by omega) hr' t, fun w h => ?_, .inl ⟨rfl, rfl, rfl, rfl⟩⟩
    have := form2_any na na ao ao ca ca A A x x w h h (by omega) (by omega)
    unfold drE2 at this
    rw [hr'] at this
    exact this

set_option maxHeartbeats 4000000 in
theorem dproducts_walk (na nb : Bool) (ao bo : Option Addr) (ca cb : Nat) (A B : List Nat) (x y n : Int) (w : World) (hA : LimbsAt w ao ca A) (hB : LimbsAt w bo cb B) (_la : A.length ≤ 35184372087808) (_lb : B.length ≤ 35184372087808) (_bx : -9223372036854775808 ≤ x ∧ x ≤ 9223372036854775807) (_by : -9223372036854775808 ≤ y ∧ y ≤ 9223372036854775807) (bn : -9223372036854775808 ≤ n ∧ n ≤ 9223372036854775807) (hT : Tab w) :
    Calls Tryd.prog 6 #[.agg #[.bool na, .slice ao A.length ca, .int .i64 x], .agg #[.bool nb, .slice bo B.length cb, .int .i64 y], .int .i64 n] w fun e w' => e = .returned (.bool true) ∧ Below w.heap.size w w' := by
  have CL := hide (fun w' => light2_any na nb ao bo ca cb A.length B.length x y w')
  have hb0 : Below w.heap.size w ((w.alloc (.cells #[.bool na, .slice ao A.length ca, .int .i64 x] 26)).alloc (.cells #[.bool nb, .slice bo B.length cb, .int .i64 y] 26)) := ((Below.refl _ _).alloc (Nat.le_refl _) _).alloc (by simp) _
  have x0 : Box3 ((w.alloc (.cells #[.bool na, .slice ao A.length ca, .int .i64 x] 26)).alloc (.cells #[.bool nb, .slice bo B.length cb, .int .i64 y] 26)) w.heap.size (.bool na) (.slice ao A.length ca) (.int .i64 x) := (Box3.new _ _ _ _).old _
  have x1 : Box3 ((w.alloc (.cells #[.bool na, .slice ao A.length ca, .int .i64 x] 26)).alloc (.cells #[.bool nb, .slice bo B.length cb, .int .i64 y] 26)) (w.heap.size + 1) (.bool nb) (.slice bo B.length cb) (.int .i64 y) := by
    have := Box3.new (w.alloc (.cells #[.bool na, .slice ao A.length ca, .int .i64 x] 26)) (.bool nb) (.slice bo B.length cb) (.int .i64 y)
    simpa using this
  have B0 := hide hb0; have X0 := hide x0; have X1 := hide x1
  clear hb0 x0 x1
  by_cases hl : A.length ≤ 30 ∧ B.length ≤ 30
  case neg =>
    rw [decide_eq_false hl] at CL
    clear hl
    go_enter Tryd.func6, Tryd.ntmps6
    go_wp2_with fail
    refine (unhide CL _).mono ?_
    rintro e w1 ⟨rfl, hb1⟩
    have B1 := hide ((unhide B0).trans (hb1.mono (unhide B0).size))
    clear hb1
    go_wp2_with (go_at_call 13; refine (awake2_any _ (hT.all (unhide B1))).mono ?_; rintro e w4 ⟨rfl, hb2⟩)
    go_ret
    exact ⟨rfl, (unhide B1).trans (hb2.mono (unhide B1).size)⟩
  rw [decide_eq_true hl] at CL
  obtain ⟨e1, m1, ex1, f1, om, ox, cM, cF, cRM, hTOP, t1, t2, t3⟩ := prod_ways na nb ao bo ca cb A B x y hl.1 hl.2 hA.2.1 hB.2.1
  obtain ⟨e2, m2, ex2, ga, om2, ox2, cS, cG, ways⟩ := scale_ways na ao ca A x n hl.1 hA.2.1
  have CM := hide cM; have CF := hide cF; have CRM := hide cRM; have HTOP := hide (fun _ : Unit => hTOP); have T1 := hide t1; have T2 := hide t2; have T3 := hide t3
  have CS := hide cS; have CG := hide cG; have WAYS := hide ways
  clear cM cF cRM hTOP t1 t2 t3 cS cG ways hl _la _lb _bx _by
  obtain ⟨bn1, bn2⟩ := bn
  go_enter Tryd.func6, Tryd.ntmps6
  go_wp2_with fail
  -- light(a, b)
  refine (unhide CL _).mono ?_
  rintro e w1 ⟨rfl, hb1⟩
  have y0 := (unhide X0).all hb1; have y1 := (unhide X1).all hb1
  have b1 := (unhide B0).trans (hb1.mono (unhide B0).size)
  have p0 := y0.c0; have p1 := y0.c1; have p2 := y0.c2
  have q0 := y1.c0; have q1 := y1.c1; have q2 := y1.c2
  have X0' := hide y0; have X1' := hide y1; have B1 := hide b1
  clear hb1 y0 y1 b1 X0 X1 B0 CL
  go_wp2_with fail
  -- p, e := Mul(a, b)
  refine (unhide CM _ (hA.below (unhide B1)) (hB.below (unhide B1)) (hT.all (unhide B1))).mono ?_
  rintro r w2 ⟨⟨v, rfl, iv⟩, hb1⟩
  obtain ⟨n3, a3, c3, L3, rfl, i3⟩ := iv.num
  have bN : Below w2.heap.size w2 (w2.alloc (.cells #[.bool n3, .slice a3 L3.length c3, .int .i64 ex1] 26)) := (Below.refl _ _).alloc (Nat.le_refl _) _
  have y0 := ((unhide X0').all hb1).all bN; have y1 := ((unhide X1').all hb1).all bN
  have b1 := (unhide B1).trans (hb1.mono (unhide B1).size)
  have b2 := b1.trans (bN.mono b1.size)
  have z0 := Box3.new w2 (.bool n3) (.slice a3 L3.length c3) (.int .i64 ex1)
  have IP := hide (iv.below bN)
  clear p0 p1 p2 q0 q1 q2 X0' X1' B1 hb1 iv i3 bN CM
  have p0 := y0.c0; have p1 := y0.c1; have p2 := y0.c2
  have X0' := hide y0; have X1' := hide y1; have Z0 := hide z0; have B1 := hide b2
  clear y0 y1 z0 b1 b2
  go_wp2_with fail
  -- s, f := Scale(a, n)
  refine (unhide CS _ (hA.below (unhide B1)) (hT.all (unhide B1))).mono ?_
  rintro r w3 ⟨⟨v, rfl, iv⟩, hb1⟩
  obtain ⟨n4, a4, c4, L4, rfl, i4⟩ := iv.num
  have bN : Below w3.heap.size w3 (w3.alloc (.cells #[.bool n4, .slice a4 L4.length c4, .int .i64 ex2] 26)) := (Below.refl _ _).alloc (Nat.le_refl _) _
  have y0 := ((unhide X0').all hb1).all bN; have y1 := ((unhide X1').all hb1).all bN; have z0 := ((unhide Z0).all hb1).all bN
  have b1 := (unhide B1).trans (hb1.mono (unhide B1).size)
  have b2 := b1.trans (bN.mono b1.size)
  have z1 := Box3.new w3 (.bool n4) (.slice a4 L4.length c4) (.int .i64 ex2)
  have IP' := hide (((unhide IP).below hb1).below bN); have IS := hide (iv.below bN)
  clear p0 p1 p2 X0' X1' Z0 B1 hb1 iv i4 bN CS IP b1
  have X0' := hide y0; have X1' := hide y1; have Z0 := hide z0; have Z1 := hide z1; have B1 := hide b2; have IP := IP'
  clear y0 y1 z0 z1 b2 IP'
  go_wp2_with fail
  -- told(p, e, Mul(a, b), form(a, b))
  refine at_world (fun W => Below w.heap.size w W ∧ Box3 W w.heap.size (.bool na) (.slice ao A.length ca) (.int .i64 x) ∧ Box3 W (w.heap.size + 1) (.bool nb) (.slice bo B.length cb) (.int .i64 y) ∧ Box3 W w2.heap.size (.bool n3) (.slice a3 L3.length c3) (.int .i64 ex1) ∧ Box3 W w3.heap.size (.bool n4) (.slice a4 L4.length c4) (.int .i64 ex2) ∧ IsDy W (.agg #[.bool n3, .slice a3 L3.length c3, .int .i64 ex1]) m1 ex1 ∧ IsDy W (.agg #[.bool n4, .slice a4 L4.length c4, .int .i64 ex2]) m2 ex2) ⟨unhide B1, unhide X0', unhide X1', unhide Z0, unhide Z1, unhide IP, unhide IS⟩ ?_
  clear B1 X0' X1' Z0 Z1 IP IS
  rintro W0 ⟨b0, x0, x1, z0, z1, ip, is'⟩
  have hK : ∀ w', Below W0.heap.size W0 w' → Below W0.heap.size W0 w' ∧ w'.cell? ⟨w.heap.size, 0, none⟩ = some (.bool na) ∧ w'.cell? ⟨w.heap.size, 1, none⟩ = some (.slice ao A.length ca) ∧ w'.cell? ⟨w.heap.size, 2, none⟩ = some (.int .i64 x) ∧ w'.cell? ⟨w.heap.size + 1, 0, none⟩ = some (.bool nb) ∧ w'.cell? ⟨w.heap.size + 1, 1, none⟩ = some (.slice bo B.length cb) ∧ w'.cell? ⟨w.heap.size + 1, 2, none⟩ = some (.int .i64 y) ∧ w'.cell? ⟨w2.heap.size, 0, none⟩ = some (.bool n3) ∧ w'.cell? ⟨w2.heap.size, 1, none⟩ = some (.slice a3 L3.length c3) ∧ w'.cell? ⟨w2.heap.size, 2, none⟩ = some (.int .i64 ex1) ∧ w'.cell? ⟨w3.heap.size, 0, none⟩ = some (.bool n4) ∧ w'.cell? ⟨w3.heap.size, 1, none⟩ = some (.slice a4 L4.length c4) ∧ w'.cell? ⟨w3.heap.size, 2, none⟩ = some (.int .i64 ex2) := fun w' h =>
    ⟨h, (x0.all h).c0, (x0.all h).c1, (x0.all h).c2, (x1.all h).c0, (x1.all h).c1, (x1.all h).c2, (z0.all h).c0, (z0.all h).c1, (z0.all h).c2, (z1.all h).c0, (z1.all h).c1, (z1.all h).c2⟩
  have HK := hide hK
  have HA := hide (hA.below b0); have HB := hide (hB.below b0); have BB := hide b0; have IP := hide ip; have IS := hide is'; have X0 := hide x0; have X1 := hide x1; have Z0 := hide z0; have Z1 := hide z1
  clear hK b0 x0 x1 z0 z1 ip is'
  go_region_held3 (fun w' => Below W0.heap.size W0 w' ∧ w'.cell? ⟨w.heap.size, 0, none⟩ = some (.bool na) ∧ w'.cell? ⟨w.heap.size, 1, none⟩ = some (.slice ao A.length ca) ∧ w'.cell? ⟨w.heap.size, 2, none⟩ = some (.int .i64 x) ∧ w'.cell? ⟨w.heap.size + 1, 0, none⟩ = some (.bool nb) ∧ w'.cell? ⟨w.heap.size + 1, 1, none⟩ = some (.slice bo B.length cb) ∧ w'.cell? ⟨w.heap.size + 1, 2, none⟩ = some (.int .i64 y) ∧ w'.cell? ⟨w2.heap.size, 0, none⟩ = some (.bool n3) ∧ w'.cell? ⟨w2.heap.size, 1, none⟩ = some (.slice a3 L3.length c3) ∧ w'.cell? ⟨w2.heap.size, 2, none⟩ = some (.int .i64 ex1) ∧ w'.cell? ⟨w3.heap.size, 0, none⟩ = some (.bool n4) ∧ w'.cell? ⟨w3.heap.size, 1, none⟩ = some (.slice a4 L4.length c4) ∧ w'.cell? ⟨w3.heap.size, 2, none⟩ = some (.int .i64 ex2))
    (first | exact unhide HK _ (Below.refl _ _).drew | exact unhide HK _ (by assumption))
    (first | (go_at_call 27; refine (unhide CRM _ ((unhide HA).below (And.left (by assumption))) ((unhide HB).below (And.left (by assumption)))).mono ?_; rintro e wn ⟨u, rfl, iu, hb1⟩; have hB : Below W0.heap.size W0 wn := Below.trans (And.left (by assumption)) (hb1.mono (Below.size (And.left (by assumption)))); obtain ⟨n5, a5, c5, L5, rfl, i5⟩ := iu.num; have J := hide iu; clear hb1 iu i5) | (go_at_call 21; refine (unhide CF _ ((unhide HA).below (And.left (by assumption))) ((unhide HB).below (And.left (by assumption)))).mono ?_; rintro e wn ⟨rfl, hb1⟩; have hB : Below W0.heap.size W0 wn := Below.trans (And.left (by assumption)) (hb1.mono (Below.size (And.left (by assumption)))); have J2 := hide ((unhide J).below hb1); clear hb1) | (go_at_call 16; refine (told2_any ((unhide IP).below (And.left (by assumption))) (unhide J2) (unhide HTOP ()) (unhide T1) (unhide T2) (unhide T3)).mono ?_; rintro e wn ⟨rfl, hb1⟩; have hB : Below W0.heap.size W0 wn := Below.trans (And.left (by assumption)) (hb1.mono (Below.size (And.left (by assumption)))); clear hb1))
  go_wp2_with fail
  -- g := form(a, a)
  have hn : Below W0.heap.size W0 wn := And.left (by assumption)
  refine (unhide CG _ ((unhide HA).below hn)).mono ?_
  rintro r w5 ⟨rfl, hb1⟩
  have hn5 : Below W0.heap.size W0 w5 := hn.trans (hb1.mono hn.size)
  have b0 := (unhide BB).trans (hn5.mono (unhide BB).size); have x0 := (unhide X0).all hn5; have x1 := (unhide X1).all hn5; have z0 := (unhide Z0).all hn5; have z1 := (unhide Z1).all hn5; have is' := (unhide IS).below hn5
  clear HK HA HB BB IP IS X0 X1 Z0 Z1 hn CRM CF T1 T2 T3 HTOP hn5 hb1 CG
  have B1 := hide b0; have IS := hide is'; have HA := hide (hA.below b0); have HT := hide (hT.all b0)
  rcases unhide WAYS with ⟨rfl, rfl, rfl, rfl⟩ | ⟨rfl, hfar, rfl, rfl, rfl⟩ | ⟨rfl, hin, cRS, hTOP2, u2, u3⟩
  · have p0 := z1.c0; have p1 := z1.c1; have p2 := z1.c2
    clear WAYS b0 x0 x1 z0 z1 is'
    go_wp2_with (first | (go_at_call 16; refine (told2_any (unhide IS) (IsDy.zero _ none 0) TOP_pos (fun _ => ⟨rfl, rfl, rfl⟩) (fun h => absurd h (by decide)) (fun h => absurd h (by decide))).mono ?_; rintro e w6 ⟨rfl, hb1⟩; have B4 := hide ((unhide B1).trans (hb1.mono (unhide B1).size)); clear hb1) | (go_at_call 13; refine (awake2_any _ (hT.all (unhide B4))).mono ?_; rintro e w7 ⟨rfl, hb2⟩))
    go_ret
    exact ⟨rfl, (unhide B4).trans (hb2.mono (unhide B4).size)⟩
  · have p0 := z1.c0; have p1 := z1.c1; have p2 := z1.c2
    clear WAYS b0 x0 x1 z0 z1 is'
    rcases (show n < -32768 ∨ (¬ n < -32768 ∧ 32768 < n) by omega) with hx | ⟨hx, hx'⟩
    all_goals
      clear hfar
      go_wp2_with (first | (go_at_call 16; refine (told2_any (unhide IS) (IsDy.zero _ none 0) TOP_pos (fun _ => ⟨rfl, rfl, rfl⟩) (fun h => absurd h (by decide)) (fun h => absurd h (by decide))).mono ?_; rintro e w6 ⟨rfl, hb1⟩; have B4 := hide ((unhide B1).trans (hb1.mono (unhide B1).size)); clear hb1) | (go_at_call 13; refine (awake2_any _ (hT.all (unhide B4))).mono ?_; rintro e w7 ⟨rfl, hb2⟩))
      go_ret
      exact ⟨rfl, (unhide B4).trans (hb2.mono (unhide B4).size)⟩
  have hx1 : ¬ n < -32768 := by omega
  have hx2 : ¬ 32768 < n := by omega
  have CRS := hide cRS; have HTOP2 := hide (fun _ : Unit => hTOP2); have U2 := hide u2; have U3 := hide u3
  have X0' := hide x0; have Z1 := hide z1
  clear WAYS hin cRS hTOP2 u2 u3 b0 x0 x1 z0 z1 is'
  go_wp2
  refine at_world (fun W => Below w.heap.size w W ∧ Box3 W w.heap.size (.bool na) (.slice ao A.length ca) (.int .i64 x) ∧ Box3 W w3.heap.size (.bool n4) (.slice a4 L4.length c4) (.int .i64 ex2) ∧ IsDy W (.agg #[.bool n4, .slice a4 L4.length c4, .int .i64 ex2]) m2 ex2) ⟨unhide B1, unhide X0', unhide Z1, unhide IS⟩ ?_
  clear B1 X0' Z1 IS HA HT
  rintro W0 ⟨b0, x0, z1, is'⟩
  have hK : ∀ w', Below W0.heap.size W0 w' → Below W0.heap.size W0 w' ∧ w'.cell? ⟨w.heap.size, 0, none⟩ = some (.bool na) ∧ w'.cell? ⟨w.heap.size, 1, none⟩ = some (.slice ao A.length ca) ∧ w'.cell? ⟨w.heap.size, 2, none⟩ = some (.int .i64 x) ∧ w'.cell? ⟨w3.heap.size, 0, none⟩ = some (.bool n4) ∧ w'.cell? ⟨w3.heap.size, 1, none⟩ = some (.slice a4 L4.length c4) ∧ w'.cell? ⟨w3.heap.size, 2, none⟩ = some (.int .i64 ex2) := fun w' h =>
    ⟨h, (x0.all h).c0, (x0.all h).c1, (x0.all h).c2, (z1.all h).c0, (z1.all h).c1, (z1.all h).c2⟩
  have HK := hide hK
  have HA := hide (hA.below b0); have BB := hide b0; have HT := hide (hT.all b0); have IS := hide is'
  clear hK b0 x0 z1 is'
  go_region_held3 (fun w' => Below W0.heap.size W0 w' ∧ w'.cell? ⟨w.heap.size, 0, none⟩ = some (.bool na) ∧ w'.cell? ⟨w.heap.size, 1, none⟩ = some (.slice ao A.length ca) ∧ w'.cell? ⟨w.heap.size, 2, none⟩ = some (.int .i64 x) ∧ w'.cell? ⟨w3.heap.size, 0, none⟩ = some (.bool n4) ∧ w'.cell? ⟨w3.heap.size, 1, none⟩ = some (.slice a4 L4.length c4) ∧ w'.cell? ⟨w3.heap.size, 2, none⟩ = some (.int .i64 ex2))
    (first | exact unhide HK _ (Below.refl _ _).drew | exact unhide HK _ (by assumption))
    (first | (go_at_call 28; refine (unhide CRS _ ((unhide HA).below (And.left (by assumption)))).mono ?_; rintro e wn ⟨u, rfl, iu, hb1⟩; have hB : Below W0.heap.size W0 wn := Below.trans (And.left (by assumption)) (hb1.mono (Below.size (And.left (by assumption)))); obtain ⟨n6, a6, c6, L6, rfl, i6⟩ := iu.num; have J3 := hide iu; clear hb1 iu i6) | (go_at_call 16; refine (told2_any ((unhide IS).below (And.left (by assumption))) (unhide J3) (unhide HTOP2 ()) (fun h => absurd rfl h) (fun _ h => unhide U2 h) (fun _ h => unhide U3 h)).mono ?_; rintro e wn ⟨rfl, hb1⟩; have hB : Below W0.heap.size W0 wn := Below.trans (And.left (by assumption)) (hb1.mono (Below.size (And.left (by assumption)))); clear hb1) | (go_at_call 13; refine (awake2_any _ ((unhide HT).all (And.left (by assumption)))).mono ?_; rintro e wn ⟨rfl, hb1⟩; have hB : Below W0.heap.size W0 wn := Below.trans (And.left (by assumption)) (hb1.mono (Below.size (And.left (by assumption)))); clear hb1))
  go_wp2
  go_ret
  exact ⟨rfl, (unhide BB).trans (Below.mono (And.left (by assumption)) (unhide BB).size)⟩

end Go.Proofs.YtinlddkdkgepjaaDoor

/- A struct of a sign and limbs that came in, opened. -/
namespace Go.Proofs.YtinlddkdkgepjaaDoor
open Go.ChangeShapes Go.WideShapes Go.ChangeAt Go.RowKit Go.Joins

theorem Tryd.own : ownKnob Tryd.prog.godebug = none := by kernel_rfl
theorem Tryd.laidOut : laidOutB Tryd.prog = true := by kernel_rfl
theorem Tryd.cellsW : Tryd.prog.cellsOf 24 = 2 := by kernel_rfl
theorem Tryd.cellsU : Tryd.prog.cellsOf 53 = 1 := by kernel_rfl
theorem Tryd.bytesU : Tryd.prog.bytesOf 53 = 4 := by kernel_rfl

theorem bounds_of_u32 {x : Int} (h : (Lit.int .u32 x).wf = true) : 0 ≤ x ∧ x < 4294967296 := by
  simp [Lit.wf, IntKind.min, IntKind.max, IntKind.signed, IntKind.bits] at h
  omega

theorem limbs_of_ints {W : World} {a : Addr} {len cap : Nat} {zs : List Int} (hl : len ≤ cap) (hz : zs.length = cap) (hc : ∀ i, i < zs.length → W.cell? (a.add i) = some (.int .u32 (zs.getD i 0))) (hw : ∀ n ∈ zs, (Lit.int .u32 n).wf = true) :
    LimbsAt W (some a) cap ((zs.take len).map Int.toNat) ∧ ((zs.take len).map Int.toNat).length = len := by
  have hlen : ((zs.take len).map Int.toNat).length = len := by simp; omega
  refine ⟨⟨by omega, ?_, ?_⟩, hlen⟩
  · intro x hx
    obtain ⟨y, hy, rfl⟩ := List.mem_map.1 hx
    have := bounds_of_u32 (hw y (List.mem_of_mem_take hy))
    omega
  · rcases Nat.eq_zero_or_pos len with rfl | hp
    · left; simp
    · right
      obtain ⟨b, off, spot⟩ := a
      have h0 := hc 0 (by omega)
      have hspot : spot = none := by simpa [Addr.add] using World.cell?_spot h0
      subst hspot
      have hb : b < W.heap.size := by
        have := World.block_lt_of_cell? W _ h0
        simpa [Addr.add] using this
      refine ⟨b, off, rfl, hb, fun i hi => ?_⟩
      have h1 := hc i (by omega)
      have h2 : (0 : Int) ≤ zs[i]'(by omega) := (bounds_of_u32 (hw _ (List.getElem_mem _))).1
      have h3 : (⟨b, off, none⟩ : Addr).add i = ⟨b, off + i, none⟩ := by simp [Addr.add]
      rw [h3] at h1
      rw [h1]
      have e : ((zs.take len).map Int.toNat)[i]?.getD 0 = (zs[i]'(by omega)).toNat := by
        rw [List.getElem?_map, List.getElem?_take, if_pos (by omega), List.getElem?_eq_getElem (by omega)]; rfl
      rw [e, List.getD_eq_getElem?_getD, List.getElem?_eq_getElem (by omega)]
      simp only [Option.getD_some, Option.some.injEq, Value.int.injEq, true_and]
      omega

/-- A number that came in: its sign, its limbs, where they lie; by the row's own reach they are not too many. -/
theorem open_whole {H : Type} {enc : TypeId × Value → H} {W : World} {base : Nat} {v : Value} {d : DataW H} {p : List MemPlace} (hval : Value.okWide Tryd.prog W .any base 24 v) (h : DataW.Trod enc Tryd.prog W 0 (fun _ => true) true 24 v d p)
    (hs : ∀ n ∈ d.weights Tryd.prog 24, n ≤ reachBytes) :
    ∃ neg ao cap L, v = .agg #[.bool neg, .slice ao L.length cap] ∧ LimbsAt W ao cap L ∧ L.length ≤ 35184372087808 := by
  obtain ⟨c0, c1, y0, y1, m, rfl, rfl, rfl, hy0, hy1⟩ := open_agg2 Tryd.underlying24 (by kernel_rfl) Tryd.cellsW hval h
  obtain ⟨neg, e0, rfl⟩ := DataW.trod_bool Tryd.underlying4 hy0
  simp at e0
  subst e0
  rcases open_ints Tryd.underlying22 Tryd.underlying53 Tryd.cellsU hy1 with ⟨hcs, _⟩ | ⟨a, len, cap, zs, hcs, _, hl, hm, hz, rfl, hcell, hwz⟩
  · simp at hcs
    subst hcs
    exact ⟨neg, none, 0, [], rfl, LimbsAt.nil _ _ _, by simp⟩
  · simp at hcs
    subst hcs
    obtain ⟨h1, h2⟩ := limbs_of_ints hl (by simpa using hz) hcell hwz
    refine ⟨neg, some a, cap, _, by rw [h2], h1, ?_⟩
    have hk := hs ((zs.length) * 4) (by
      simp only [DataW.weights, Tryd.underlying24, DataW.weightsEach, List.map, Tryd.underlying22, List.nil_append, List.append_nil, List.mem_cons, Tryd.bytesU, lits, List.length_map, List.length_take, List.length_drop]
      left
      omega)
    simp only [reachBytes] at hk
    rw [h2]
    have : zs.length = cap := by simpa using hz
    omega

end Go.Proofs.YtinlddkdkgepjaaDoor

/- The bounds of an int or int64 that came in. -/
namespace Go.Proofs.YtinlddkdkgepjaaDoor

theorem bounds_of_i64 {x : Int} (h : (Lit.int .i64 x).wf = true) : -9223372036854775808 ≤ x ∧ x ≤ 9223372036854775807 := by
  simp [Lit.wf, IntKind.min, IntKind.max, IntKind.signed, IntKind.bits] at h
  omega

end Go.Proofs.YtinlddkdkgepjaaDoor

