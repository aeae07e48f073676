/- Part 30 of the texts. -/
import Derived.Test.YtceofkjefmilfaaGreatDoorPartd25
import Derived.Test.YtceofkjefmilfaaGreatDoorPartd21
import Derived.Laws.Cover2
import Derived.Laws.Externs
import Derived.Test.YtceofkjefmilfaaGreatDoorPartd04
import Derived.Laws.FloatArith
import Derived.Test.YtceofkjefmilfaaGreatDoorPartd23
import Derived.Test.YtceofkjefmilfaaGreatDoorPartd20
import Derived.Test.YtceofkjefmilfaaGreatDoorPartd22
import Derived.Test.YtceofkjefmilfaaGreatDoorPartd14
import Derived.Test.YtceofkjefmilfaaGreatDoorPartd29
import Derived.Test.YtceofkjefmilfaaGreatDoorPartd28
import Derived.Test.YtceofkjefmilfaaGreatDoorPartd01
/- Halfway between two numbers; products of such. -/
namespace Go.Proofs.YtceofkjefmilfaaGreatDoor
open Go.RowKit
/-- A product, at its numbers' own powers. -/
theorem mul_level7 (z1 z2 lo1 lo2 : Int) (h1 : z1 ≠ 0) (h2 : z2 ≠ 0) (l1 : lo1 ≤ oE z1 lo1) (l2 : lo2 ≤ oE z2 lo2) :
    oM (z1 * z2) = oM (oM z1 * oM z2) ∧ oE (z1 * z2) (lo1 + lo2) = oE (oM z1 * oM z2) (oE z1 lo1 + oE z2 lo2) := by
  have x1 := oM_level z1 lo1 h1
  have x2 := oM_level z2 lo2 h2
  obtain ⟨i, hi⟩ : ∃ i : Nat, oE z1 lo1 = lo1 + i := ⟨(oE z1 lo1 - lo1).toNat, by omega⟩
  obtain ⟨j, hj⟩ : ∃ j : Nat, oE z2 lo2 = lo2 + j := ⟨(oE z2 lo2 - lo2).toNat, by omega⟩
  rw [hi, show (lo1 + (i : Int) - lo1).toNat = i by omega] at x1
  rw [hj, show (lo2 + (j : Int) - lo2).toNat = j by omega] at x2
  have e : z1 * z2 = oM z1 * oM z2 * 2 ^ (i + j) := by
    rw [Int.pow_add, show oM z1 * oM z2 * (2 ^ i * 2 ^ j) = oM z1 * 2 ^ i * (oM z2 * 2 ^ j) by ac_rfl, x1, x2]
  have s := oM_scale (oM z1 * oM z2) (i + j) (lo1 + lo2)
  rw [← e] at s
  refine ⟨s.1, ?_⟩
  rw [s.2, hi, hj]
  congr 1
  omega
theorem oE_ge (z lo : Int) (h : z ≠ 0) : lo ≤ oE z lo := by
  rw [oE_ne _ _ h]; omega

/-- The reference's product of two that are not long. -/
theorem rmul7 {w : World} {v u : Value} {m1 m2 e1 e2 : Int} (hv : IsDy w v m1 e1) (hu : IsDy w u m2 e2) (h1 : m1.natAbs < 1152921504606846976) (h2 : m2.natAbs < 1152921504606846976) (b1 : -3000 ≤ e1 ∧ e1 ≤ 3000) (b2 : -3000 ≤ e2 ∧ e2 ≤ 3000) :
    Calls Tryz.prog 58 #[v, u] w fun r w' => ∃ q, r = .returned q ∧ IsDy w' q (oM (m1 * m2)) (oE (m1 * m2) (e1 + e2)) ∧ Below w.heap.size w w' := by
  have p30 : (1152921504606846976 : Nat) ≤ 4294967296 ^ 30 := by decide +kernel
  obtain ⟨n, a, c, L, rfl, g1, g2, g3, g4, g5⟩ := hv.right (small_TOP _ (by omega))
  obtain ⟨n', a', c', L', rfl, k1, k2, k3, k4, k5⟩ := hu.right (small_TOP _ (by omega))
  have v1 : val L = m1.natAbs := by rw [← g3, natAbs_sval]
  have v2 : val L' = m2.natAbs := by rw [← k3, natAbs_sval]
  have l1 : L.length ≤ 30 := (length_le_iff L g1.2.1 (right_canon g2).2.1 30).2 (by rw [v1]; exact Nat.lt_of_lt_of_le h1 p30)
  have l2 : L'.length ≤ 30 := (length_le_iff L' k1.2.1 (right_canon k2).2.1 30).2 (by rw [v2]; exact Nat.lt_of_lt_of_le h2 p30)
  have := rmul_any n n' a a' c c' L L' e1 e2 w g1 k1 l1 l2
  rw [g3, k3] at this
  have hm : (m1 * m2).natAbs < 2 ^ 120 := by
    rw [Int.natAbs_mul]
    have : m1.natAbs * m2.natAbs < 1152921504606846976 * 1152921504606846976 := Nat.mul_lt_mul_of_lt_of_le h1 (Nat.le_of_lt h2) (by decide)
    exact Nat.lt_of_lt_of_le this (by decide)
  have hE : (if m1 * m2 = 0 then 0 else IntKind.i64.wrap (IntKind.i64.wrap (e1 + e2) + tz (m1 * m2).natAbs)) = oE (m1 * m2) (e1 + e2) := by
    by_cases h0 : m1 * m2 = 0
    · rw [if_pos h0, h0, oE_zero]
    · have ht : tz (m1 * m2).natAbs < 120 := tz_lt _ 120 (by omega) hm
      rw [if_neg h0, oE_ne _ _ h0, wrap_small (e1 + e2) (by omega), wrap_small _ (by omega)]
  rwa [hE] at this

end Go.Proofs.YtceofkjefmilfaaGreatDoor

/- Exact numbers at a level: the reference's values, products, powers of two. -/
namespace Go.Proofs.YtceofkjefmilfaaGreatDoor
open Go.RowKit

/-- The number z times 2^lo. -/
def IsLv (w : World) (v : Value) (lo z : Int) : Prop := IsDy w v (oM z) (oE z lo)
theorem IsLv.below {w w' : World} {v : Value} {lo z : Int} (h : IsLv w v lo z) (hb : Below w.heap.size w w') : IsLv w' v lo z := IsDy.below h hb
theorem IsLv.zero (w : World) (lo : Int) : IsLv w (.agg #[.bool false, .slice none 0 0, .int .i64 0]) lo 0 := by
  unfold IsLv
  rw [oM_zero, oE_zero]
  exact IsDy.zero w none 0
/-- The same number at a lower level. -/
theorem IsLv.lower {w : World} {v : Value} {lo z : Int} (h : IsLv w v lo z) (k : Nat) : IsLv w v (lo - k) (z * 2 ^ k) := by
  unfold IsLv
  have s := oM_scale z k (lo - k)
  rw [show lo - (k : Int) + k = lo by omega] at s
  rw [s.1, s.2]
  exact h
theorem oM_neg_iff (z : Int) : oM z < 0 ↔ z < 0 := by
  by_cases h : z = 0
  · subst h; rw [oM_zero]
  · have x := oM_level z 0 h
    have hp : (0 : Int) < 2 ^ (oE z 0 - 0).toNat := Int.pow_pos (by decide)
    constructor
    · intro g
      rw [← x]
      exact Int.mul_neg_of_neg_of_pos g hp
    · intro g
      rcases Int.lt_or_le (oM z) 0 with k | k
      · exact k
      · have := Int.mul_nonneg k (Int.le_of_lt hp)
        omega
theorem dy_sign {w : World} {n : Bool} {a : Option Addr} {l c : Nat} {X M Y : Int} (h : IsDy w (.agg #[.bool n, .slice a l c, .int .i64 X]) M Y) : n = decide (M < 0) := by
  obtain ⟨n', a', c', L', e1, _, _, e4, _⟩ := h.parts
  simp only [Value.agg.injEq, Array.mk.injEq, List.cons.injEq, Value.bool.injEq] at e1
  rw [e1.1]; exact e4

theorem rvalueN (b : Nat) (w : World) (h : b < 18446744073709551616) (hf : fFin b = true) :
    Calls Tryz.prog 25 #[.int .u64 b] w fun r w' => ∃ u, r = .returned u ∧ IsLv w' u (-1074) (fZ b) ∧ Below w.heap.size w w' := by
  obtain ⟨d1, d2⟩ := fZ_level b h hf
  unfold IsLv
  rw [d1, d2]
  exact rvalue_any b w h

theorem fZ_ne {b : Nat} (h : fZ b ≠ 0) : fK b ≠ 0 := fun e => h (by
  have := fZ_abs b
  rw [(fK_zero b).1 e, rv_zero] at this
  omega)
theorem fD_few (b : Nat) (h : b < 18446744073709551616) (hf : fFin b = true) : (oM (fZ b)).natAbs < 9007199254740992 ∧ -1074 ≤ oE (fZ b) (-1074) ∧ oE (fZ b) (-1074) ≤ 1024 := by
  by_cases h0 : fZ b = 0
  · rw [h0, oM_zero, oE_zero]; decide
  · obtain ⟨d1, d2⟩ := fZ_level b h hf
    obtain ⟨z1, z2, z3, z4, z5, z6, z7, z8, z9⟩ := sc_facts b h hf (fZ_ne h0)
    rw [d1, d2]
    exact ⟨z2, z5, z6⟩

/-- The product of two numbers' values. -/
theorem rmulV {a b : Nat} {w : World} {v u : Value} (ha : a < 18446744073709551616) (hb : b < 18446744073709551616) (fa : fFin a = true) (fb : fFin b = true) (hv : IsLv w v (-1074) (fZ a)) (hu : IsLv w u (-1074) (fZ b)) :
    Calls Tryz.prog 58 #[v, u] w fun r w' => ∃ q, r = .returned q ∧ IsLv w' q (-2148) (fZ a * fZ b) ∧ Below w.heap.size w w' := by
  obtain ⟨x1, x2, x3⟩ := fD_few a ha fa
  obtain ⟨y1, y2, y3⟩ := fD_few b hb fb
  have := rmul7 hv hu (by omega) (by omega) (by omega) (by omega)
  unfold IsLv
  by_cases h0 : fZ a = 0
  · rw [h0] at this ⊢
    rw [oM_zero, Int.zero_mul, oM_zero, oE_zero] at this
    rw [Int.zero_mul, oM_zero, oE_zero]
    exact this
  by_cases h1 : fZ b = 0
  · rw [h1] at this ⊢
    rw [oM_zero, Int.mul_zero, oM_zero, oE_zero] at this
    rw [Int.mul_zero, oM_zero, oE_zero]
    exact this
  obtain ⟨m1, m2⟩ := mul_level7 (fZ a) (fZ b) (-1074) (-1074) h0 h1 (oE_ge _ _ h0) (oE_ge _ _ h1)
  rw [show (-1074 : Int) + -1074 = -2148 by decide] at m2
  rw [m1, m2]
  exact this

/-- A power of two. -/
theorem rscaleL {w : World} {v : Value} {lo : Int} {W : Nat} {z : Int} (n : Int) (hv : IsLv w v lo z) (h1 : Lvl lo W z) (hn : -32768 ≤ n ∧ n ≤ 32768) :
    Calls Tryz.prog 28 #[v, .int .i64 n] w fun r w' => ∃ q, r = .returned q ∧ IsLv w' q (lo + n) z ∧ Below w.heap.size w w' := by
  unfold IsLv at *
  obtain ⟨na, ao, ca, A, rfl, a1, a2, a3, a4, a5⟩ := hv.right h1.right.2
  have x1 := dRt_in h1.right.1
  have := rscale_any na ao ca A _ n w a1 a2 x1 hn
  rw [a3, oM_oM] at this
  by_cases h0 : z = 0
  · subst h0
    rw [oM_zero, oE_zero] at *
    exact this
  · rw [oE_oM _ _ h0] at this
    have hx : oE z (lo + n) = oE z lo + n := by rw [oE_ne _ _ h0, oE_ne _ _ h0]; omega
    rw [hx]
    exact this

set_option maxRecDepth 20000 in
set_option maxHeartbeats 4000000 in
theorem near_neg (n1 n2 : Bool) (a1 a2 : Option Addr) (l1 l2 c1 c2 : Nat) (X1 X2 k : Int) (w : World) (M X M2 Y2 MS YS o : Int) (hM : M < 0) (hk : -5000 ≤ k ∧ k ≤ 5000)
    (C1 : ∀ w', Below w.heap.size w w' → Calls Tryz.prog 30 #[.agg #[.bool n1, .slice a1 l1 c1, .int .i64 X1], .agg #[.bool n2, .slice a2 l2 c2, .int .i64 X2]] w' fun r w'' => ∃ q, r = .returned q ∧ IsDy w'' q M X ∧ Below w'.heap.size w' w'')
    (C2 : ∀ w' v, IsDy w' v M X → Calls Tryz.prog 56 #[v] w' fun r w'' => ∃ q, r = .returned q ∧ IsDy w'' q M2 Y2 ∧ Below w'.heap.size w' w'')
    (C3 : ∀ w', Below w.heap.size w w' → Calls Tryz.prog 28 #[.agg #[.bool n2, .slice a2 l2 c2, .int .i64 X2], .int .i64 (-k)] w' fun r w'' => ∃ q, r = .returned q ∧ IsDy w'' q MS YS ∧ Below w'.heap.size w' w'')
    (C4 : ∀ w' v u, IsDy w' v M2 Y2 → IsDy w' u MS YS → Calls Tryz.prog 29 #[v, u] w' fun r w'' => r = .returned (.int .i64 o) ∧ Below w'.heap.size w' w'') :
    Calls Tryz.prog 20 #[.agg #[.bool n1, .slice a1 l1 c1, .int .i64 X1], .agg #[.bool n2, .slice a2 l2 c2, .int .i64 X2], .int .i64 k] w fun r w' => r = .returned (.bool (decide (o ≤ 0))) ∧ Below w.heap.size w w' := by
  have K1 := hide C1; have K2 := hide C2; have K3 := hide C3; have K4 := hide C4
  have hw : IntKind.i64.wrap (-k) = -k := by simp only [IntKind.wrap_i64]; omega
  have B0 := hide ((below_alloc9 w (.cells #[.bool n1, .slice a1 l1 c1, .int .i64 X1] 52)).alloc (by simp) (.cells #[.bool n2, .slice a2 l2 c2, .int .i64 X2] 52))
  have xb := Box3.new (w.alloc (.cells #[.bool n1, .slice a1 l1 c1, .int .i64 X1] 52)) (.bool n2) (.slice a2 l2 c2) (.int .i64 X2)
  rw [size_alloc9] at xb
  have XB := hide xb
  clear C1 C2 C3 C4 xb
  go_enter Tryz.func20, Tryz.ntmps20
  go_wp2_with fail
  refine (unhide K1 _ (unhide B0)).mono ?_
  rintro e w2 ⟨q, rfl, ⟨n3, a3, c3, L3, rfl, i3⟩, hb2⟩
  have H3 : IsDy w2 (.agg #[.bool n3, .slice a3 L3.length c3, .int .i64 X]) M X := ⟨n3, a3, c3, L3, rfl, i3⟩
  have hs := dy_sign H3
  rw [decide_eq_true hM] at hs
  subst hs
  have XB2 := hide ((unhide XB).all hb2)
  have B2 := hide ((unhide B0).trans (hb2.mono (unhide B0).size))
  generalize L3.length = l3 at *
  have H3' := hide H3
  clear i3 hb2 K1 XB B0 H3
  have hlt2 : w.heap.size + 1 ≠ w2.heap.size := by have := (unhide XB2).lt; omega
  have hsz2 : w.heap.size ≤ w2.heap.size := (unhide B2).size
  have x3 := Box3.new w2 (.bool true) (.slice a3 l3 c3) (.int .i64 X)
  have X3 := hide x3
  have XB3 := hide ((unhide XB2).old (.cells #[.bool true, .slice a3 l3 c3, .int .i64 X] 52))
  have B3 := hide ((unhide B2).alloc hsz2 (.cells #[.bool true, .slice a3 l3 c3, .int .i64 X] 52))
  have H3a := hide ((unhide H3').below (below_alloc9 w2 (.cells #[.bool true, .slice a3 l3 c3, .int .i64 X] 52)))
  have HL := hide hlt2; have HZ := hide hsz2
  clear x3 XB2 B2 H3' hlt2 hsz2
  go_wp2_with fail
  refine (unhide K2 _ _ (unhide H3a)).mono ?_
  rintro e w3 ⟨q, rfl, ⟨n4, a4, c4, L4, rfl, i4⟩, hb3⟩
  have H4 : IsDy w3 (.agg #[.bool n4, .slice a4 L4.length c4, .int .i64 Y2]) M2 Y2 := ⟨n4, a4, c4, L4, rfl, i4⟩
  generalize L4.length = l4 at *
  have x3 := (unhide X3).all hb3
  have y0 := x3.c0; have y1 := x3.c1; have y2 := x3.c2; have f0 := x3.free 0; have f1 := x3.free 1; have f2 := x3.free 2
  have X4 := hide (x3.put (.bool n4) (.slice a4 l4 c4) (.int .i64 Y2))
  have H5 := hide (H4.put3 x3 (.bool n4) (.slice a4 l4 c4) (.int .i64 Y2))
  have B4 := hide ((unhide B3).trans (hb3.mono (unhide B3).size))
  have B5 := hide ((((unhide B4).setCell (p := ⟨w2.heap.size, 0, none⟩) (unhide HZ) (.bool n4)).setCell (p := ⟨w2.heap.size, 1, none⟩) (unhide HZ) (.slice a4 l4 c4)).setCell (p := ⟨w2.heap.size, 2, none⟩) (unhide HZ) (.int .i64 Y2))
  have XB4 := hide (((((unhide XB3).all hb3).other (p := ⟨w2.heap.size, 0, none⟩) (unhide HL) (.bool n4)).other (p := ⟨w2.heap.size, 1, none⟩) (unhide HL) (.slice a4 l4 c4)).other (p := ⟨w2.heap.size, 2, none⟩) (unhide HL) (.int .i64 Y2))
  clear i4 hb3 K2 XB3 B3 B4 H4 H3a X3 x3
  go_wp2_with fail
  refine at_world (fun W => Below w.heap.size w W ∧ Box3 W w2.heap.size (.bool n4) (.slice a4 l4 c4) (.int .i64 Y2) ∧ Box3 W (w.heap.size + 1) (.bool n2) (.slice a2 l2 c2) (.int .i64 X2) ∧ IsDy W (.agg #[.bool n4, .slice a4 l4 c4, .int .i64 Y2]) M2 Y2) ⟨unhide B5, unhide X4, unhide XB4, unhide H5⟩ ?_
  rintro W0 ⟨b0, x4, x5, h5⟩
  have HK := hide (fun w' (h : Below W0.heap.size W0 w') => (show Below W0.heap.size W0 w' ∧ w'.cell? ⟨w2.heap.size, 0, none⟩ = some (.bool n4) ∧ w'.cell? ⟨w2.heap.size, 1, none⟩ = some (.slice a4 l4 c4) ∧ w'.cell? ⟨w2.heap.size, 2, none⟩ = some (.int .i64 Y2) ∧ w'.cell? ⟨w.heap.size + 1, 0, none⟩ = some (.bool n2) ∧ w'.cell? ⟨w.heap.size + 1, 1, none⟩ = some (.slice a2 l2 c2) ∧ w'.cell? ⟨w.heap.size + 1, 2, none⟩ = some (.int .i64 X2) from
    ⟨h, (x4.all h).c0, (x4.all h).c1, (x4.all h).c2, (x5.all h).c0, (x5.all h).c1, (x5.all h).c2⟩))
  have BB := hide b0; have HH := hide h5
  have K3' := hide (fun w' (h : Below W0.heap.size W0 w') => unhide K3 w' (b0.trans (h.mono b0.size)))
  clear b0 x4 x5 h5 B5 X4 XB4 H5 K3
  generalize w2.heap.size = gx at *
  generalize w.heap.size + 1 = gy at *
  go_region_held3 (fun w' => Below W0.heap.size W0 w' ∧ w'.cell? ⟨gx, 0, none⟩ = some (.bool n4) ∧ w'.cell? ⟨gx, 1, none⟩ = some (.slice a4 l4 c4) ∧ w'.cell? ⟨gx, 2, none⟩ = some (.int .i64 Y2) ∧ w'.cell? ⟨gy, 0, none⟩ = some (.bool n2) ∧ w'.cell? ⟨gy, 1, none⟩ = some (.slice a2 l2 c2) ∧ w'.cell? ⟨gy, 2, none⟩ = some (.int .i64 X2))
    (first | exact unhide HK _ (Below.refl _ _).drew | exact unhide HK _ (by assumption) | fail "KK")
    (first | (go_at_call 28; refine (unhide K3' _ (And.left (by assumption))).mono ?_; rintro e w5 ⟨q, rfl, hq, hb5⟩; have hB5 : Below W0.heap.size W0 w5 := Below.trans (And.left (by assumption)) (hb5.mono (Below.size (And.left (by assumption)))); have HQ := hide hq; clear hb5 hq) | (go_at_call 29; refine (unhide K4 _ _ _ ((unhide HH).below (by assumption)) (unhide HQ)).mono ?_; rintro e w6 ⟨rfl, hb6⟩; have hB6 : Below W0.heap.size W0 w6 := Below.trans (And.left (by assumption)) (hb6.mono (Below.size (And.left (by assumption)))); clear hb6) | fail "NO ARM")
  go_wp2
  go_ret
  exact ⟨rfl, (unhide BB).trans (Below.mono (And.left (by assumption)) (unhide BB).size)⟩

set_option maxRecDepth 20000 in
set_option maxHeartbeats 4000000 in
theorem near_pos (n1 n2 : Bool) (a1 a2 : Option Addr) (l1 l2 c1 c2 : Nat) (X1 X2 k : Int) (w : World) (M X MS YS o : Int) (hM : 0 ≤ M) (hk : -5000 ≤ k ∧ k ≤ 5000)
    (C1 : ∀ w', Below w.heap.size w w' → Calls Tryz.prog 30 #[.agg #[.bool n1, .slice a1 l1 c1, .int .i64 X1], .agg #[.bool n2, .slice a2 l2 c2, .int .i64 X2]] w' fun r w'' => ∃ q, r = .returned q ∧ IsDy w'' q M X ∧ Below w'.heap.size w' w'')
    (C3 : ∀ w', Below w.heap.size w w' → Calls Tryz.prog 28 #[.agg #[.bool n2, .slice a2 l2 c2, .int .i64 X2], .int .i64 (-k)] w' fun r w'' => ∃ q, r = .returned q ∧ IsDy w'' q MS YS ∧ Below w'.heap.size w' w'')
    (C4 : ∀ w' v u, IsDy w' v M X → IsDy w' u MS YS → Calls Tryz.prog 29 #[v, u] w' fun r w'' => r = .returned (.int .i64 o) ∧ Below w'.heap.size w' w'') :
    Calls Tryz.prog 20 #[.agg #[.bool n1, .slice a1 l1 c1, .int .i64 X1], .agg #[.bool n2, .slice a2 l2 c2, .int .i64 X2], .int .i64 k] w fun r w' => r = .returned (.bool (decide (o ≤ 0))) ∧ Below w.heap.size w w' := by
  have K1 := hide C1; have K3 := hide C3; have K4 := hide C4
  have hw : IntKind.i64.wrap (-k) = -k := by simp only [IntKind.wrap_i64]; omega
  have B0 := hide ((below_alloc9 w (.cells #[.bool n1, .slice a1 l1 c1, .int .i64 X1] 52)).alloc (by simp) (.cells #[.bool n2, .slice a2 l2 c2, .int .i64 X2] 52))
  have xb := Box3.new (w.alloc (.cells #[.bool n1, .slice a1 l1 c1, .int .i64 X1] 52)) (.bool n2) (.slice a2 l2 c2) (.int .i64 X2)
  rw [size_alloc9] at xb
  have XB := hide xb
  clear C1 C3 C4 xb
  go_enter Tryz.func20, Tryz.ntmps20
  go_wp2_with fail
  refine (unhide K1 _ (unhide B0)).mono ?_
  rintro e w2 ⟨q, rfl, ⟨n3, a3, c3, L3, rfl, i3⟩, hb2⟩
  have H3 : IsDy w2 (.agg #[.bool n3, .slice a3 L3.length c3, .int .i64 X]) M X := ⟨n3, a3, c3, L3, rfl, i3⟩
  have hs := dy_sign H3
  rw [decide_eq_false (show ¬ M < 0 by omega)] at hs
  subst hs
  have XB2 := hide ((unhide XB).all hb2)
  have B2 := hide ((unhide B0).trans (hb2.mono (unhide B0).size))
  generalize L3.length = l3 at *
  have H3' := hide H3
  clear i3 hb2 K1 XB B0 H3
  have hsz2 : w.heap.size ≤ w2.heap.size := (unhide B2).size
  have x3 := Box3.new w2 (.bool false) (.slice a3 l3 c3) (.int .i64 X)
  have X3 := hide x3
  have XB3 := hide ((unhide XB2).old (.cells #[.bool false, .slice a3 l3 c3, .int .i64 X] 52))
  have B3 := hide ((unhide B2).alloc hsz2 (.cells #[.bool false, .slice a3 l3 c3, .int .i64 X] 52))
  have H3a := hide ((unhide H3').below (below_alloc9 w2 (.cells #[.bool false, .slice a3 l3 c3, .int .i64 X] 52)))
  clear x3 XB2 B2 H3' hsz2
  have X4 := X3; have H5 := H3a; have B5 := B3; have XB4 := XB3
  clear X3 H3a B3 XB3
  go_wp2_with fail
  refine at_world (fun W => Below w.heap.size w W ∧ Box3 W w2.heap.size (.bool false) (.slice a3 l3 c3) (.int .i64 X) ∧ Box3 W (w.heap.size + 1) (.bool n2) (.slice a2 l2 c2) (.int .i64 X2) ∧ IsDy W (.agg #[.bool false, .slice a3 l3 c3, .int .i64 X]) M X) ⟨unhide B5, unhide X4, unhide XB4, unhide H5⟩ ?_
  rintro W0 ⟨b0, x4, x5, h5⟩
  have HK := hide (fun w' (h : Below W0.heap.size W0 w') => (show Below W0.heap.size W0 w' ∧ w'.cell? ⟨w2.heap.size, 0, none⟩ = some (.bool false) ∧ w'.cell? ⟨w2.heap.size, 1, none⟩ = some (.slice a3 l3 c3) ∧ w'.cell? ⟨w2.heap.size, 2, none⟩ = some (.int .i64 X) ∧ w'.cell? ⟨w.heap.size + 1, 0, none⟩ = some (.bool n2) ∧ w'.cell? ⟨w.heap.size + 1, 1, none⟩ = some (.slice a2 l2 c2) ∧ w'.cell? ⟨w.heap.size + 1, 2, none⟩ = some (.int .i64 X2) from
    ⟨h, (x4.all h).c0, (x4.all h).c1, (x4.all h).c2, (x5.all h).c0, (x5.all h).c1, (x5.all h).c2⟩))
  have BB := hide b0; have HH := hide h5
  have K3' := hide (fun w' (h : Below W0.heap.size W0 w') => unhide K3 w' (b0.trans (h.mono b0.size)))
  clear b0 x4 x5 h5 B5 X4 XB4 H5 K3
  generalize w2.heap.size = gx at *
  generalize w.heap.size + 1 = gy at *
  go_region_held3 (fun w' => Below W0.heap.size W0 w' ∧ w'.cell? ⟨gx, 0, none⟩ = some (.bool false) ∧ w'.cell? ⟨gx, 1, none⟩ = some (.slice a3 l3 c3) ∧ w'.cell? ⟨gx, 2, none⟩ = some (.int .i64 X) ∧ w'.cell? ⟨gy, 0, none⟩ = some (.bool n2) ∧ w'.cell? ⟨gy, 1, none⟩ = some (.slice a2 l2 c2) ∧ w'.cell? ⟨gy, 2, none⟩ = some (.int .i64 X2))
    (first | exact unhide HK _ (Below.refl _ _).drew | exact unhide HK _ (by assumption) | fail "KK")
    (first | (go_at_call 28; refine (unhide K3' _ (And.left (by assumption))).mono ?_; rintro e w5 ⟨q, rfl, hq, hb5⟩; have hB5 : Below W0.heap.size W0 w5 := Below.trans (And.left (by assumption)) (hb5.mono (Below.size (And.left (by assumption)))); have HQ := hide hq; clear hb5 hq) | (go_at_call 29; refine (unhide K4 _ _ _ ((unhide HH).below (by assumption)) (unhide HQ)).mono ?_; rintro e w6 ⟨rfl, hb6⟩; have hB6 : Below W0.heap.size W0 w6 := Below.trans (And.left (by assumption)) (hb6.mono (Below.size (And.left (by assumption)))); clear hb6) | fail "NO ARM")
  go_wp2
  go_ret
  exact ⟨rfl, (unhide BB).trans (Below.mono (And.left (by assumption)) (unhide BB).size)⟩

end Go.Proofs.YtceofkjefmilfaaGreatDoor

/- The reference's Near and Squares, at a level. -/
namespace Go.Proofs.YtceofkjefmilfaaGreatDoor
open Go.RowKit
attribute [local go_sem ↓] Go.wp_at_zero Go.wp_at_succ

theorem cmpI_le (x y : Int) : cmpI x y ≤ 0 ↔ x ≤ y := by
  rcases (show x < y ∨ x = y ∨ y < x by omega) with g | g | g
  · rw [cmpI8_lt g]; omega
  · rw [cmpI8_eq g]; omega
  · rw [cmpI8_gt g]; omega

theorem Lvl.diff {lo : Int} {W : Nat} {z1 z2 : Int} (h1 : Lvl lo W z1) (h2 : Lvl lo W z2) (hW : lo + W + 1 ≤ 16384) (hW2 : W + 1 ≤ 16384) : Lvl lo (W + 1) (z1 - z2) := by
  refine ⟨?_, h1.2.1, by have := h1.2.2; omega, hW2⟩
  have a := h1.1
  have b := h2.1
  rw [Nat.pow_succ]
  omega
theorem Lvl.low {lo : Int} {W : Nat} {z : Int} (h : Lvl lo W z) (k : Nat) (hlo : -16384 ≤ lo - k) (hW : W + k ≤ 16384) : Lvl (lo - k) (W + k) (z * 2 ^ k) := by
  refine ⟨?_, hlo, by have := h.2.2.1; omega, hW⟩
  rw [Int.natAbs_mul, Int.natAbs_pow, Nat.pow_add]
  exact (Nat.mul_lt_mul_right (Nat.two_pow_pos k)).2 h.1
theorem Lvl.at {lo lo' : Int} {W : Nat} {z : Int} (h : Lvl lo W z) (h1 : -16384 ≤ lo') (h2 : lo' + W ≤ 16384) : Lvl lo' W z := ⟨h.1, h1, h2, h.2.2.2⟩

theorem near_any {w : World} {v u : Value} {lo : Int} {W : Nat} {z1 z2 : Int} (k : Nat) (hv : IsLv w v lo z1) (hu : IsLv w u lo z2) (h1 : Lvl lo W z1) (h2 : Lvl lo W z2) (hk : k ≤ 100) (b1 : -16384 ≤ lo - k) (b2 : lo + W + 1 ≤ 16384) (b3 : W + 1 + k ≤ 16384) :
    Calls Tryz.prog 20 #[v, u, .int .i64 (k : Nat)] w fun r w' => r = .returned (.bool (decide (((z1 - z2).natAbs : Int) * 2 ^ k ≤ z2))) ∧ Below w.heap.size w w' := by
  have hv0 := hv; have hu0 := hu
  obtain ⟨n1, a1, c1, L1, rfl, i1⟩ := hv
  obtain ⟨n2, a2, c2, L2, rfl, i2⟩ := hu
  have ld := h1.diff h2 b2 (by omega)
  have C1 := fun w' (hb : Below w.heap.size w w') => rsubN (hv0.below hb) (hu0.below hb) h1 h2
  have C3 := fun w' (hb : Below w.heap.size w w') => rscaleL (-(k : Int)) (hu0.below hb) h2 (by omega)
  have hc : ∀ d : Int, Lvl lo (W + 1) d → ∀ w' v u, IsDy w' v (oM d) (oE d lo) → IsDy w' u (oM z2) (oE z2 (lo + -(k : Int))) → Calls Tryz.prog 29 #[v, u] w' fun r w'' => r = .returned (.int .i64 (cmpI (d * 2 ^ k) z2)) ∧ Below w'.heap.size w' w'' := by
    intro d hd w' v u hv hu
    have e1 : IsLv w' v (lo - k) (d * 2 ^ k) := IsLv.lower hv k
    have e2 : IsLv w' u (lo - k) z2 := hu
    have l2 : Lvl (lo - k) (W + 1 + k) z2 := ⟨Nat.lt_of_lt_of_le h2.1 (Nat.pow_le_pow_right (by decide) (by omega)), b1, by omega, b3⟩
    exact rcmpN e1 e2 (hd.low k b1 b3) l2
  by_cases hd : z1 - z2 < 0
  · have e : (((z1 - z2).natAbs : Int) * 2 ^ k ≤ z2) ↔ cmpI (-(z1 - z2) * 2 ^ k) z2 ≤ 0 := by
      rw [cmpI_le, show ((z1 - z2).natAbs : Int) = -(z1 - z2) by omega]
    rw [decide_eq_decide.2 e]
    exact near_neg n1 n2 a1 a2 _ _ c1 c2 _ _ k w (oM (z1 - z2)) (oE (z1 - z2) lo) (oM (-(z1 - z2))) (oE (-(z1 - z2)) lo) (oM z2) (oE z2 (lo + -(k : Int))) _ ((oM_neg_iff _).2 hd) (by omega) C1 (fun w' v hv => rnegN hv ld) C3 (hc _ ld.neg)
  · have e : (((z1 - z2).natAbs : Int) * 2 ^ k ≤ z2) ↔ cmpI ((z1 - z2) * 2 ^ k) z2 ≤ 0 := by
      rw [cmpI_le, show ((z1 - z2).natAbs : Int) = z1 - z2 by omega]
    rw [decide_eq_decide.2 e]
    exact near_pos n1 n2 a1 a2 _ _ c1 c2 _ _ k w (oM (z1 - z2)) (oE (z1 - z2) lo) (oM z2) (oE z2 (lo + -(k : Int))) _ (by have := (oM_neg_iff (z1 - z2)).1; omega) (by omega) C1 C3 (hc _ ld)

/-- The exact sum of squares, in units of 2^-2148. -/
def sqK (I : List Int) : Nat → Int
  | 0 => 0
  | k + 1 => sqK I k + fZ (atB I k) * fZ (atB I k)

/-- A bound on squares. -/
def B96 : Nat := 2 ^ 4196
theorem B96_mul : B96 = 2 ^ 2098 * 2 ^ 2098 := by decide +kernel
theorem B96_lt : 64 * B96 < 2 ^ 4203 := by decide +kernel
theorem sq_nonnegI (x : Int) : 0 ≤ x * x := by
  rcases Int.le_total 0 x with h | h
  · exact Int.mul_nonneg h h
  · exact Int.mul_nonneg_of_nonpos_of_nonpos h h
theorem fZ_few (b : Nat) (hf : fFin b = true) : (fZ b * fZ b).natAbs < B96 := by
  rw [Int.natAbs_mul, B96_mul]
  have h := fZ_lt b hf
  generalize (2 : Nat) ^ 2098 = P at *
  exact Nat.mul_lt_mul'' h h
theorem sqK_le (I : List Int) (n : Nat) (h : fnK I n = true) : ∀ k, k ≤ n → 0 ≤ sqK I k ∧ (sqK I k).natAbs ≤ k * B96 := by
  intro k
  induction k with
  | zero => intro _; exact ⟨Int.le_refl _, by rw [Nat.zero_mul]; exact Nat.le_refl _⟩
  | succ k ih =>
    intro hk
    obtain ⟨i1, i2⟩ := ih (by omega)
    have hf : fFin (atB I k) = true := by
      have h2 : (fnK I k && fFin (atB I k)) = true := fnK_down I n (k + 1) hk h
      rw [Bool.and_eq_true] at h2
      exact h2.2
    have h3 := fZ_few (atB I k) hf
    have h4 : 0 ≤ fZ (atB I k) * fZ (atB I k) := sq_nonnegI _
    show 0 ≤ sqK I k + fZ (atB I k) * fZ (atB I k) ∧ (sqK I k + fZ (atB I k) * fZ (atB I k)).natAbs ≤ (k + 1) * B96
    generalize fZ (atB I k) * fZ (atB I k) = q at *
    generalize sqK I k = s at *
    rw [Nat.succ_mul]
    generalize B96 = P at *
    omega
theorem sqK_lvl (I : List Int) (n : Nat) (hn : n ≤ 64) (h : fnK I n = true) (k : Nat) (hk : k ≤ n) : Lvl (-2148) 4203 (sqK I k) := by
  obtain ⟨h1, h2⟩ := sqK_le I n h k hk
  refine ⟨?_, by decide, by decide, by decide⟩
  exact Nat.lt_of_le_of_lt (Nat.le_trans h2 (Nat.mul_le_mul_right _ (by omega))) B96_lt
theorem fZ_lvl2 (b : Nat) (hf : fFin b = true) : Lvl (-2148) 4203 (fZ b * fZ b) := by
  have h := fZ_few b hf
  refine ⟨?_, by decide, by decide, by decide⟩
  exact Nat.lt_of_lt_of_le h (Nat.le_trans (show B96 ≤ 64 * B96 by omega) (Nat.le_of_lt B96_lt))

set_option maxRecDepth 20000 in
set_option maxHeartbeats 4000000 in
theorem r9squares_any (ao : Option Addr) (c : Nat) (I : List Int) (w : World) (hI : BitsAt w ao c I) (hn : I.length ≤ 64) (hf : fnK I I.length = true) :
    Calls Tryz.prog 21 #[.slice ao I.length c] w fun e w' => ∃ v, e = .returned v ∧ IsLv w' v (-2148) (sqK I I.length) ∧ Below w.heap.size w w' := by
  have HI := hide hI
  obtain ⟨n, hnn⟩ : ∃ n, I.length = n := ⟨_, rfl⟩
  rw [hnn] at hn hf ⊢
  have HN := hide hnn
  have HF := hide hf
  have HL := hide (fun k hk => sqK_lvl I n hn hf k hk)
  have XR := hide ((Box3.new w (.bool false) (.slice none 0 0) (.int .i64 0)).old (.cells #[.bool false, .slice none 0 0, .int .i64 0] 52))
  have xs := Box3.new (w.alloc (.cells #[.bool false, .slice none 0 0, .int .i64 0] 52)) (.bool false) (.slice none 0 0) (.int .i64 0)
  rw [size_alloc9] at xs
  have XS := hide xs
  have B0 := hide ((below_alloc9 w (.cells #[.bool false, .slice none 0 0, .int .i64 0] 52)).alloc (by simp) (.cells #[.bool false, .slice none 0 0, .int .i64 0] 52))
  clear hI hnn xs hf
  go_enter Tryz.func21, Tryz.ntmps21
  go_wp2_with fail
  go_loopw [4] (fun i wr => ∃ (k : Nat) (nn : Bool) (aa : Option Addr) (ll cc : Nat) (X : Int), k ≤ n ∧ i = .int .i64 k ∧ Hid (Box3 wr w.heap.size (.bool false) (.slice none 0 0) (.int .i64 0)) ∧ Hid (Box3 wr (w.heap.size + 1) (.bool nn) (.slice aa ll cc) (.int .i64 X)) ∧ Hid (IsLv wr (.agg #[.bool nn, .slice aa ll cc, .int .i64 X]) (-2148) (sqK I k)) ∧ Hid (Below w.heap.size w wr)) (fun i _ => n - (intOf i).toNat)
  case atStart => exact ⟨0, false, none, 0, 0, 0, Nat.zero_le _, rfl, XR, XS, IsLv.zero _ _, B0⟩
  case round =>
    clear XR XS B0
    obtain ⟨k, nn, aa, ll, cc, X, hk, rfl, xr, xs, hs, hB⟩ := hrel
    by_cases hlt : k < n
    · have hkI : (k : Int) < (n : Int) := by omega
      obtain ⟨b, off, hao, hb, hc⟩ := ((unhide HI).below hB.out).ne (by rw [unhide HN]; omega)
      have hck := hc k (by rw [unhide HN]; exact hlt)
      have x64 := (unhide HI).lt k
      have hfx : fFin (atB I k) = true := by
        have h2 : (fnK I k && fFin (atB I k)) = true := fnK_down I n (k + 1) (by omega) (unhide HF)
        rw [Bool.and_eq_true] at h2
        exact h2.2
      have C1 := hide (fun w' => rvalueN (atB I k) w' x64 hfx)
      have C2 := hide (fun w' v (hv : IsLv w' v (-1074) (fZ (atB I k))) => rmulV x64 x64 hfx hfx hv hv)
      have l1 := unhide HL k (by omega)
      have C3 := hide (fun w' v u (hv : IsLv w' v (-2148) (sqK I k)) (hu : IsLv w' u (-2148) (fZ (atB I k) * fZ (atB I k))) => (show Calls Tryz.prog 57 #[v, u] w' fun r w'' => ∃ q, r = .returned q ∧ IsLv w'' q (-2148) (sqK I k + fZ (atB I k) * fZ (atB I k)) ∧ Below w'.heap.size w' w'' from raddN hv hu l1 (fZ_lvl2 _ hfx)))
      have eV : Hid (sqK I (k + 1) = sqK I k + fZ (atB I k) * fZ (atB I k)) := rfl
      subst hao
      clear hc x64 hfx l1
      generalize sqK I k + fZ (atB I k) * fZ (atB I k) = s2 at *
      generalize fZ (atB I k) * fZ (atB I k) = p at *
      generalize fZ (atB I k) = z at *
      generalize atB I k = x at *
      go_wp2_with fail
      refine (unhide C1 _).mono ?_
      rintro e wv ⟨q, rfl, ⟨n1, a1, c1, L1, rfl, i1⟩, hb1⟩
      have hv : IsLv wv (.agg #[.bool n1, .slice a1 L1.length c1, .int .i64 (oE z (-1074))]) (-1074) z := ⟨n1, a1, c1, L1, rfl, i1⟩
      generalize L1.length = l1 at *
      generalize oE z (-1074) = X1 at *
      have HV := hide (hv.below (below_alloc9 wv (.cells #[.bool n1, .slice a1 l1 c1, .int .i64 X1] 52)))
      have bv := hB.out.trans (hb1.mono hB.out.size)
      have BV := hide (bv.alloc bv.size (.cells #[.bool n1, .slice a1 l1 c1, .int .i64 X1] 52))
      have HS := hide (((unhide hs).below hb1).below (below_alloc9 wv (.cells #[.bool n1, .slice a1 l1 c1, .int .i64 X1] 52)))
      have XR := hide (((unhide xr).all hb1).old (.cells #[.bool n1, .slice a1 l1 c1, .int .i64 X1] 52))
      have XS := hide (((unhide xs).all hb1).old (.cells #[.bool n1, .slice a1 l1 c1, .int .i64 X1] 52))
      have XV := hide (Box3.new wv (.bool n1) (.slice a1 l1 c1) (.int .i64 X1))
      clear i1 hv hb1 bv hB hs xr xs C1
      go_wp2_with fail
      refine at_world (fun W => Below w.heap.size w W ∧ Box3 W w.heap.size (.bool false) (.slice none 0 0) (.int .i64 0) ∧ Box3 W (w.heap.size + 1) (.bool nn) (.slice aa ll cc) (.int .i64 X) ∧ Box3 W wv.heap.size (.bool n1) (.slice a1 l1 c1) (.int .i64 X1) ∧ IsLv W (.agg #[.bool nn, .slice aa ll cc, .int .i64 X]) (-2148) (sqK I k) ∧ IsLv W (.agg #[.bool n1, .slice a1 l1 c1, .int .i64 X1]) (-1074) z) ⟨unhide BV, unhide XR, unhide XS, unhide XV, unhide HS, unhide HV⟩ ?_
      rintro W0 ⟨b0, x0, x1, x2, h1, h2⟩
      have b0 := b0.drew; have x0 := x0.drew; have x1 := x1.drew; have x2 := x2.drew
      have h1 := h1.below ((Below.refl W0.heap.size W0).drew); have h2 := h2.below ((Below.refl W0.heap.size W0).drew)
      clear BV XR XS XV HS HV
      have hgs : w.heap.size ≤ w.heap.size + 1 := by omega
      have hne : w.heap.size ≠ w.heap.size + 1 := by omega
      have HZ := hide hgs; have HNE := hide hne
      clear hgs hne
      generalize wv.heap.size = gv at *
      have y0 := x1.c0; have y1 := x1.c1; have y2 := x1.c2; have f0 := x1.free 0; have f1 := x1.free 1; have f2 := x1.free 2
      have v0 := x2.c0; have v1 := x2.c1; have v2 := x2.c2
      have X0 := hide x0; have XX1 := hide x1; have XX2 := hide x2; have H1 := hide h1; have H2 := hide h2; have BB := hide b0
      clear x0 x1 x2 h1 h2 b0
      go_region_with (first | (go_at_call 58; refine (unhide C2 _ _ (unhide H2)).mono ?_; rintro e w4 ⟨q, rfl, ⟨n4, a4, c4, L4, rfl, i4⟩, hb4⟩; clear y0 y1 y2 f0 f1 f2 v0 v1 v2; have Q4 := hide (show IsLv w4 (.agg #[.bool n4, .slice a4 L4.length c4, .int .i64 (oE p (-2148))]) (-2148) p from ⟨n4, a4, c4, L4, rfl, i4⟩); generalize L4.length = l4 at *; generalize oE p (-2148) = X4 at *; have x1 := (unhide XX1).all hb4; have BB := hide ((unhide BB).trans (hb4.mono (unhide BB).size)); have X0 := hide ((unhide X0).all hb4); have H1 := hide ((unhide H1).below hb4); have XX1 := hide x1; have y0 := x1.c0; have y1 := x1.c1; have y2 := x1.c2; have f0 := x1.free 0; have f1 := x1.free 1; have f2 := x1.free 2; clear i4 hb4 x1) | (go_at_call 57; refine (unhide C3 _ _ _ (unhide H1) (unhide Q4)).mono ?_; rintro e w5 ⟨q, rfl, ⟨n5, a5, c5, L5, rfl, i5⟩, hb5⟩; clear y0 y1 y2 f0 f1 f2; have Q5 := hide (show IsLv w5 (.agg #[.bool n5, .slice a5 L5.length c5, .int .i64 (oE s2 (-2148))]) (-2148) s2 from ⟨n5, a5, c5, L5, rfl, i5⟩); generalize L5.length = l5 at *; generalize oE s2 (-2148) = X5 at *; have x1 := (unhide XX1).all hb5; have BB := hide ((unhide BB).trans (hb5.mono (unhide BB).size)); have X0 := hide ((unhide X0).all hb5); have XX1 := hide x1; have y0 := x1.c0; have y1 := x1.c1; have y2 := x1.c2; have f0 := x1.free 0; have f1 := x1.free 1; have f2 := x1.free 2; clear i5 hb5 x1) | fail "NO ARM")
      all_goals
        have X0' := hide ((((unhide X0).other (p := ⟨w.heap.size + 1, 0, none⟩) (unhide HNE) (.bool n5)).other (p := ⟨w.heap.size + 1, 1, none⟩) (unhide HNE) (.slice a5 l5 c5)).other (p := ⟨w.heap.size + 1, 2, none⟩) (unhide HNE) (.int .i64 X5))
        have X1' := hide ((unhide XX1).put (.bool n5) (.slice a5 l5 c5) (.int .i64 X5))
        have Q' := hide (IsDy.put3 (unhide Q5) (unhide XX1) (.bool n5) (.slice a5 l5 c5) (.int .i64 X5))
        have B' := hide ((((unhide BB).setCell (p := ⟨w.heap.size + 1, 0, none⟩) (unhide HZ) (.bool n5)).setCell (p := ⟨w.heap.size + 1, 1, none⟩) (unhide HZ) (.slice a5 l5 c5)).setCell (p := ⟨w.heap.size + 1, 2, none⟩) (unhide HZ) (.int .i64 X5))
        clear X0 XX1 Q5 BB
        go_wp2_with fail
        go_round
        case rel => exact ⟨k + 1, n5, a5, l5, c5, X5, by omega, by go_num, X0', X1', by rw [unhide eV]; exact Q', B'⟩
        case measure => simp [intOf]; omega
    · have hkk : k = n := by omega
      subst hkk
      have y0 := (unhide xs).c0
      have y1 := (unhide xs).c1
      have y2 := (unhide xs).c2
      have r0 := (unhide xr).c0
      have r1 := (unhide xr).c1
      have r2 := (unhide xr).c2
      have f0 := (unhide xr).free 0
      have f1 := (unhide xr).free 1
      have f2 := (unhide xr).free 2
      have hb1 : w.heap.size + 1 ≠ w.heap.size := by omega
      have HS := hide (IsDy.put3 (unhide hs) (unhide xr) (.bool nn) (.slice aa ll cc) (.int .i64 X))
      have BE := hide (((hB.out.setCell (p := ⟨w.heap.size, 0, none⟩) (Nat.le_refl _) (.bool nn)).setCell (p := ⟨w.heap.size, 1, none⟩) (Nat.le_refl _) (.slice aa ll cc)).setCell (p := ⟨w.heap.size, 2, none⟩) (Nat.le_refl _) (.int .i64 X))
      have xe := (unhide xr).put (.bool nn) (.slice aa ll cc) (.int .i64 X)
      have e0 := xe.c0; have e1 := xe.c1; have e2 := xe.c2
      clear xe hb1 xr xs hs hB
      go_wp2_with fail
      exact bodyPost_ret (v := .agg #[.bool nn, .slice aa ll cc, .int .i64 X]) (by simp [results, Tryz.results21, go_sem, e0, e1, e2]) rfl ⟨_, rfl, unhide HS, unhide BE⟩

end Go.Proofs.YtceofkjefmilfaaGreatDoor

/- Rows of exact numbers that a call itself makes by appending: no limb lies in such a row. -/
namespace Go.Proofs.YtceofkjefmilfaaGreatDoor
open Go.RowKit

/-- Is a cell no limb? -/
def noLimb : Value → Bool
  | .int .u32 _ => false
  | _ => true

/-- The block that v lies in holds no limb. -/
def Clear (w : World) (v : Value) : Prop := ∀ g, v.ownBlock = some g → ∃ cur e, w.heap[g]? = some (.cells cur e (0, 0)) ∧ ∀ u ∈ cur.toList, noLimb u = true

theorem Clear.below {w w' : World} {v : Value} (h : Clear w v) (hb : Below w.heap.size w w') : Clear w' v := by
  intro g hg
  obtain ⟨cur, e, h1, h2⟩ := h g hg
  exact ⟨cur, e, (hb.block g (Array.getElem?_eq_some_iff.1 h1).1).trans h1, h2⟩

theorem Clear.alloc {w : World} {v : Value} (h : Clear w v) (o : Obj) : Clear (w.alloc o) v := h.below ((Below.refl _ _).alloc (Nat.le_refl _) o)

theorem Clear.nil (w : World) (n c : Nat) : Clear w (.slice none n c) := fun g hg => by cases hg

/-- Limbs lie elsewhere. -/
theorem Clear.limbs {w : World} {v : Value} (h : Clear w v) {ao : Option Addr} {cap : Nat} {L : List Nat} (hL : LimbsAt w ao cap L) : L = [] ∨ ∃ b off, ao = some ⟨b, off, none⟩ ∧ b < w.heap.size ∧ some b ≠ v.ownBlock ∧ ∀ i, i < L.length → w.cell? ⟨b, off + i, none⟩ = some (.int .u32 ((L[i]?.getD 0 : Nat) : Int)) := by
  rcases hL.2.2 with e | ⟨b, off, h1, h2, h3⟩
  · exact .inl e
  · by_cases he : L = []
    · exact .inl he
    · refine .inr ⟨b, off, h1, h2, fun hb => ?_, h3⟩
      obtain ⟨cur, e, g1, g2⟩ := h b hb.symm
      have hp : 0 < L.length := List.length_pos_iff.2 he
      have h4 := h3 0 hp
      rw [cell_of_row w b (off + 0) _ _ _ g1] at h4
      have hm := Array.mem_of_getElem? h4
      have := g2 _ (Array.mem_toList_iff.2 hm)
      cases this

end Go.Proofs.YtceofkjefmilfaaGreatDoor

/- Determinants by the first row, over whole numbers: rows are functions of the column, columns a list. No program. -/
namespace Go.Proofs.YtceofkjefmilfaaGreatDoor

/-- The sum over the places of cs, the sign turning: r there, times D of the rest. -/
def exD (r : Nat → Int) : List Nat → (List Nat → Int) → Int
  | [], _ => 0
  | c :: cs, D => r c * D cs - exD r cs (fun l => D (c :: l))

def detD : List (Nat → Int) → List Nat → Int
  | [], _ => 1
  | r :: rs, cs => exD r cs (detD rs)

theorem exD_congr (r : Nat → Int) : ∀ (cs : List Nat) (D E : List Nat → Int), (∀ l, l.Sublist cs → l.length + 1 = cs.length → D l = E l) → exD r cs D = exD r cs E
  | [], _, _, _ => rfl
  | c :: cs, D, E, h => by
    unfold exD
    rw [h cs (List.sublist_cons_self c cs) rfl, exD_congr r cs (fun l => D (c :: l)) (fun l => E (c :: l)) (fun l h1 h2 => h (c :: l) (h1.cons_cons c) (by simp; omega))]

theorem exD_lin (r : Nat → Int) (p q : Int) : ∀ (cs : List Nat) (D E : List Nat → Int), exD r cs (fun l => p * D l + q * E l) = p * exD r cs D + q * exD r cs E
  | [], _, _ => by simp [exD]
  | c :: cs, D, E => by
    unfold exD
    rw [exD_lin r p q cs (fun l => D (c :: l)) (fun l => E (c :: l))]
    grind

theorem exD_smul (r : Nat → Int) (p : Int) (cs : List Nat) (D : List Nat → Int) : exD r cs (fun l => p * D l) = p * exD r cs D := by
  have := exD_lin r p 0 cs D D
  simpa using this

theorem exD_zero (r : Nat → Int) (cs : List Nat) : exD r cs (fun _ => 0) = 0 := by
  have := exD_smul r 0 cs (fun _ => 0)
  simpa using this

/-- Two rows that follow one another change places: the sign turns. -/
theorem exD_swap (r s : Nat → Int) : ∀ (cs : List Nat) (D : List Nat → Int), exD r cs (fun l => exD s l D) = - exD s cs (fun l => exD r l D)
  | [], _ => by simp [exD]
  | c :: cs, D => by
    have step : ∀ r s : Nat → Int, exD r (c :: cs) (fun l => exD s l D) = r c * exD s cs D - s c * exD r cs D + exD r cs (fun l => exD s l (fun m => D (c :: m))) := by
      intro r s
      have e : exD r cs (fun l => exD s (c :: l) D) = s c * exD r cs D + -1 * exD r cs (fun l => exD s l (fun m => D (c :: m))) := by
        rw [← exD_lin]
        congr 1
        funext l
        show s c * D l - exD s l (fun m => D (c :: m)) = _
        omega
      show r c * exD s cs D - exD r cs (fun l => exD s (c :: l) D) = _
      rw [e]
      omega
    rw [step r s, step s r, exD_swap r s cs (fun m => D (c :: m))]
    omega

theorem detD_swap (r s : Nat → Int) (rs : List (Nat → Int)) (cs : List Nat) : detD (r :: s :: rs) cs = - detD (s :: r :: rs) cs := by
  show exD r cs (fun l => exD s l (detD rs)) = - exD s cs (fun l => exD r l (detD rs))
  exact exD_swap r s cs (detD rs)

theorem detD_same (r : Nat → Int) (rs : List (Nat → Int)) (cs : List Nat) : detD (r :: r :: rs) cs = 0 := by
  have := detD_swap r r rs cs
  omega

/-- What holds behind a beginning holds with it: a factor. -/
theorem detD_pre (p : Int) (rs ss : List (Nat → Int)) (h : ∀ cs, detD rs cs = p * detD ss cs) : ∀ (pre : List (Nat → Int)) (cs : List Nat), detD (pre ++ rs) cs = p * detD (pre ++ ss) cs
  | [], cs => h cs
  | r :: pre, cs => by
    show exD r cs (detD (pre ++ rs)) = p * exD r cs (detD (pre ++ ss))
    rw [← exD_smul]
    congr 1
    funext l
    exact detD_pre p rs ss h pre l

/-- The other order of rows: the same but for the sign. -/
theorem detD_perm {rs ss : List (Nat → Int)} (h : rs.Perm ss) : ∃ p : Int, (p = 1 ∨ p = -1) ∧ ∀ cs, detD rs cs = p * detD ss cs := by
  induction h with
  | nil => exact ⟨1, .inl rfl, fun cs => by simp⟩
  | cons r _ ih =>
    obtain ⟨p, hp, h⟩ := ih
    exact ⟨p, hp, fun cs => detD_pre p _ _ h [r] cs⟩
  | swap r s l => exact ⟨-1, .inr rfl, fun cs => by rw [detD_swap s r l cs]; omega⟩
  | trans _ _ ih1 ih2 =>
    obtain ⟨p, hp, h⟩ := ih1
    obtain ⟨q, hq, g⟩ := ih2
    refine ⟨p * q, ?_, fun cs => by rw [h cs, g cs, Int.mul_assoc]⟩
    rcases hp with rfl | rfl <;> rcases hq with rfl | rfl <;> simp

/-- A row that stands twice: 0. -/
theorem detD_twice (r : Nat → Int) (rs : List (Nat → Int)) (pre mid : List (Nat → Int)) (cs : List Nat) : detD (pre ++ r :: (mid ++ r :: rs)) cs = 0 := by
  have hp : (pre ++ r :: (mid ++ r :: rs)).Perm (r :: r :: (pre ++ (mid ++ rs))) := by
    have h1 : (mid ++ r :: rs).Perm (r :: (mid ++ rs)) := List.perm_middle
    have h2 : (pre ++ r :: (mid ++ r :: rs)).Perm (r :: (pre ++ (mid ++ r :: rs))) := List.perm_middle
    refine h2.trans (List.Perm.cons r ?_)
    refine (List.Perm.append_left pre h1).trans ?_
    exact List.perm_middle
  obtain ⟨p, _, h⟩ := detD_perm hp
  rw [h cs, detD_same]
  simp

end Go.Proofs.YtceofkjefmilfaaGreatDoor

