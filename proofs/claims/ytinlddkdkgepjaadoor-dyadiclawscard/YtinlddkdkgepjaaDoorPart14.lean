/- Part 14 of the texts. -/
import Derived.Test.YtinlddkdkgepjaaDoorPart13
/- Contracts of the reference's Mul, Scale. -/
namespace Go.Proofs.YtinlddkdkgepjaaDoor
open Go.RowKit
attribute [local go_sem ↓] Go.wp_at_zero Go.wp_at_succ

theorem IsNum.toM {B : Nat} {w : World} {v : Value} {z : Int} (h : IsNum B w v z) (hz : z.natAbs < TOP) : IsNumM 512 B w v z := by
  obtain ⟨n, a, c, L, rfl, h1, h2, h3, h4, h5, h6⟩ := h
  exact ⟨n, a, c, L, rfl, h1, h2, h3, h4, h5, (val_lt_TOP L h1.2.1 h3).1 (by omega)⟩

theorem wrap_range (x : Int) : -9223372036854775808 ≤ IntKind.i64.wrap x ∧ IntKind.i64.wrap x ≤ 9223372036854775807 := by
  simp only [IntKind.wrap, IntKind.signed, IntKind.bits]
  simp
  split <;> omega

theorem val_lt_pow (L : List Nat) (hf : Fits L) (k : Nat) (h : L.length ≤ k) : val L < 2 ^ (32 * k) := by
  have h1 := val_lt L hf
  rw [show (4294967296 : Nat) = 2 ^ 32 by decide, ← Nat.pow_mul] at h1
  exact Nat.lt_of_lt_of_le h1 (Nat.pow_le_pow_right (by decide) (by omega))

theorem TOP_eq : TOP = 2 ^ (32 * TOPN) := by
  unfold TOP
  rw [show (4294967296 : Nat) = 2 ^ 32 by decide, ← Nat.pow_mul]

theorem lt_TOP {v k : Nat} (h : v < 2 ^ k) (hk : k ≤ 16384) : v < TOP := by
  rw [TOP_eq]
  exact Nat.lt_of_lt_of_le h (Nat.pow_le_pow_right (by decide) hk)

theorem mul_lt_pow {a b j k : Nat} (h1 : a < 2 ^ j) (h2 : b < 2 ^ k) : a * b < 2 ^ (j + k) := by
  rw [Nat.pow_add]
  exact Nat.mul_lt_mul_of_lt_of_le h1 (Nat.le_of_lt h2) (Nat.pow_pos (by decide))

theorem mul_TOP (na nb : Bool) (A B : List Nat) (fA : Fits A) (fB : Fits B) (la : A.length ≤ 30) (lb : B.length ≤ 30) : (sval na A * sval nb B).natAbs < TOP := by
  rw [Int.natAbs_mul, natAbs_sval, natAbs_sval]
  exact lt_TOP (mul_lt_pow (val_lt_pow A fA 30 la) (val_lt_pow B fB 30 lb)) (by decide)

set_option maxHeartbeats 2000000 in
theorem rmul_any (na nb : Bool) (ao bo : Option Addr) (ca cb : Nat) (A B : List Nat) (x y : Int) (w : World) (hA : LimbsAt w ao ca A) (hB : LimbsAt w bo cb B) (la : A.length ≤ 30) (lb : B.length ≤ 30) :
    Calls Tryd.prog 27 #[.agg #[.bool na, .slice ao A.length ca, .int .i64 x], .agg #[.bool nb, .slice bo B.length cb, .int .i64 y]] w fun r w' => ∃ v, r = .returned v ∧ IsDy w' v (oM (sval na A * sval nb B)) (if sval na A * sval nb B = 0 then 0 else IntKind.i64.wrap (IntKind.i64.wrap (x + y) + tz (sval na A * sval nb B).natAbs)) ∧ Below w.heap.size w w' := by
  have hz := mul_TOP na nb A B hA.2.1 hB.2.1 la lb
  have CM := hide (fun w' h h' => refMul_any na nb ao bo ca cb A B w' h h' (by omega) (by omega))
  have CO := hide (fun e' w' u B' (iu : IsNum B' w' u (sval na A * sval nb B)) (he : e' = IntKind.i64.wrap (x + y)) => show Calls Tryd.prog 17 #[u, .int .i64 e'] w' fun r w'' => ∃ u, r = .returned u ∧ IsDy w'' u (oM (sval na A * sval nb B)) (if sval na A * sval nb B = 0 then 0 else IntKind.i64.wrap (IntKind.i64.wrap (x + y) + tz (sval na A * sval nb B).natAbs)) ∧ Below w'.heap.size w' w'' by
    subst he
    exact rof_num _ (iu.toM hz) (by decide) (wrap_range _))
  clear hz
  generalize sval na A * sval nb B = z at *
  generalize (if z = 0 then 0 else IntKind.i64.wrap (IntKind.i64.wrap (x + y) + tz z.natAbs)) = ox at *
  generalize oM z = om at *
  have hb0 : Below w.heap.size w (((w.alloc (.cells #[.bool na, .slice ao A.length ca, .int .i64 x] 26)).alloc (.cells #[.bool nb, .slice bo B.length cb, .int .i64 y] 26)).alloc (.cells #[.bool false, .slice none 0 0, .int .i64 0] 26)) :=
    (((Below.refl _ _).alloc (Nat.le_refl _) _).alloc (by simp) _).alloc (by simp; omega) _
  have x0 : Box3 (((w.alloc (.cells #[.bool na, .slice ao A.length ca, .int .i64 x] 26)).alloc (.cells #[.bool nb, .slice bo B.length cb, .int .i64 y] 26)).alloc (.cells #[.bool false, .slice none 0 0, .int .i64 0] 26)) w.heap.size (.bool na) (.slice ao A.length ca) (.int .i64 x) := ((Box3.new _ _ _ _).old _).old _
  have x1 : Box3 (((w.alloc (.cells #[.bool na, .slice ao A.length ca, .int .i64 x] 26)).alloc (.cells #[.bool nb, .slice bo B.length cb, .int .i64 y] 26)).alloc (.cells #[.bool false, .slice none 0 0, .int .i64 0] 26)) (w.heap.size + 1) (.bool nb) (.slice bo B.length cb) (.int .i64 y) := by
    have := (Box3.new (w.alloc (.cells #[.bool na, .slice ao A.length ca, .int .i64 x] 26)) (.bool nb) (.slice bo B.length cb) (.int .i64 y)).old (.cells #[.bool false, .slice none 0 0, .int .i64 0] 26)
    simpa using this
  have x2 : Box3 (((w.alloc (.cells #[.bool na, .slice ao A.length ca, .int .i64 x] 26)).alloc (.cells #[.bool nb, .slice bo B.length cb, .int .i64 y] 26)).alloc (.cells #[.bool false, .slice none 0 0, .int .i64 0] 26)) (w.heap.size + 1 + 1) (.bool false) (.slice none 0 0) (.int .i64 0) := by
    have := Box3.new ((w.alloc (.cells #[.bool na, .slice ao A.length ca, .int .i64 x] 26)).alloc (.cells #[.bool nb, .slice bo B.length cb, .int .i64 y] 26)) (.bool false) (.slice none 0 0) (.int .i64 0)
    simpa using this
  have B0 := hide hb0; have X0 := hide x0; have X1 := hide x1; have X2 := hide x2
  clear hb0 x0 x1 x2
  go_enter Tryd.func27, Tryd.ntmps27
  go_wp2_with fail
  refine at_world (fun W => Below w.heap.size w W ∧ Box3 W w.heap.size (.bool na) (.slice ao A.length ca) (.int .i64 x) ∧ Box3 W (w.heap.size + 1) (.bool nb) (.slice bo B.length cb) (.int .i64 y) ∧ Box3 W (w.heap.size + 1 + 1) (.bool false) (.slice none 0 0) (.int .i64 0)) ⟨unhide B0, unhide X0, unhide X1, unhide X2⟩ ?_
  clear B0 X0 X1 X2
  rintro W0 ⟨b0, x0, x1, x2⟩
  have s0 : w.heap.size + 1 + 1 < W0.heap.size := x2.lt
  have hK : ∀ w', Below (w.heap.size + 1 + 1) W0 w' → Below (w.heap.size + 1 + 1) W0 w' ∧ w'.cell? ⟨w.heap.size, 0, none⟩ = some (.bool na) ∧ w'.cell? ⟨w.heap.size, 1, none⟩ = some (.slice ao A.length ca) ∧ w'.cell? ⟨w.heap.size, 2, none⟩ = some (.int .i64 x) ∧ w'.cell? ⟨w.heap.size + 1, 0, none⟩ = some (.bool nb) ∧ w'.cell? ⟨w.heap.size + 1, 1, none⟩ = some (.slice bo B.length cb) ∧ w'.cell? ⟨w.heap.size + 1, 2, none⟩ = some (.int .i64 y) := fun w' h =>
    ⟨h, (x0.below h (by omega)).c0, (x0.below h (by omega)).c1, (x0.below h (by omega)).c2, (x1.below h (by omega)).c0, (x1.below h (by omega)).c1, (x1.below h (by omega)).c2⟩
  have HK := hide hK; have BB := hide b0; have X2 := hide x2
  clear hK b0 x0 x1 x2
  go_region_held3 (fun w' => Below (w.heap.size + 1 + 1) W0 w' ∧ w'.cell? ⟨w.heap.size, 0, none⟩ = some (.bool na) ∧ w'.cell? ⟨w.heap.size, 1, none⟩ = some (.slice ao A.length ca) ∧ w'.cell? ⟨w.heap.size, 2, none⟩ = some (.int .i64 x) ∧ w'.cell? ⟨w.heap.size + 1, 0, none⟩ = some (.bool nb) ∧ w'.cell? ⟨w.heap.size + 1, 1, none⟩ = some (.slice bo B.length cb) ∧ w'.cell? ⟨w.heap.size + 1, 2, none⟩ = some (.int .i64 y))
    (first | exact unhide HK _ (Below.refl _ _).drew | exact unhide HK _ (by assumption) | exact unhide HK _ (below_put3 hB2 (by omega) _ _ _))
    (first | (go_at_call 52; refine (unhide CM _ (hA.below ((unhide BB).trans ((Below.refl _ _).drew))) (hB.below ((unhide BB).trans ((Below.refl _ _).drew)))).mono ?_; rintro e w3 ⟨v, rfl, ⟨n4, a4, c4, L4, rfl, i4⟩, hb1⟩; have hB1 : Below (w.heap.size + 1 + 1) W0 w3 := ((Below.refl _ _).drew).trans (hb1.mono (by simp; omega)); have X3 := hide ((unhide X2).drew.below hb1 (by simp; omega)); have IZ := hide (show IsNum 0 w3 (.agg #[.bool n4, .slice a4 L4.length c4]) z from ⟨n4, a4, c4, L4, rfl, i4⟩); have s1 := hb1.size; have BB1 := hide ((unhide BB).trans (hB1.mono (by omega))); clear hb1 i4) | (go_at_call 17; refine (unhide CO _ _ _ _ (unhide IZ) (by first | rfl | exact (wrap64_is _))).mono ?_; rintro e w4 ⟨u, rfl, iu, hb2⟩; obtain ⟨n5, a5, c5, L5, rfl, i5⟩ := iu.num; have hB2 : Below (w.heap.size + 1 + 1) W0 w4 := hB1.trans (hb2.mono (by simp at s1; omega)); have X4 := (unhide X3).below hb2 (by simp at s1; omega); have y0 := X4.c0; have y1 := X4.c1; have y2 := X4.c2; have f0 := X4.free 0; have f1 := X4.free 1; have f2 := X4.free 2; have IU := hide iu; have X5 := hide X4; have BB2 := hide ((unhide BB1).trans (hb2.mono (by simp at s1; omega))); clear hb2 iu i5 X4))
  go_wp2
  refine bodyPost_ret (v := .agg #[.bool n5, .slice a5 L5.length c5, .int .i64 ox]) (by simp [results, Tryd.results27, go_sem, y0, y1, y2]) rfl ⟨_, rfl, (unhide IU).put3 (unhide X5) _ _ _, below_put3 (unhide BB2) (by omega) _ _ _⟩

end Go.Proofs.YtinlddkdkgepjaaDoor

/- Contract of the reference's Scale; what told asks of it. -/
namespace Go.Proofs.YtinlddkdkgepjaaDoor
open Go.RowKit
attribute [local go_sem ↓] Go.wp_at_zero Go.wp_at_succ

set_option maxHeartbeats 2000000 in
theorem rscale_any (na : Bool) (ao : Option Addr) (ca : Nat) (A : List Nat) (x n : Int) (w : World) (hA : LimbsAt w ao ca A) (hr : rightB na A = true) (hx : -16384 ≤ x ∧ x ≤ 16384) (hn : -32768 ≤ n ∧ n ≤ 32768) :
    Calls Tryd.prog 28 #[.agg #[.bool na, .slice ao A.length ca, .int .i64 x], .int .i64 n] w fun r w' => ∃ v, r = .returned v ∧ IsDy w' v (oM (sval na A)) (oE (sval na A) (x + n)) ∧ Below w.heap.size w w' := by
  have hz := sval_TOP hA hr
  have CO := hide (fun w' (h : LimbsAt w' ao ca A) => rof_small (x + n) ((right_num h hr (NewAt.zero h)).toM hz) (by decide) (by omega))
  clear hz hr
  generalize oE (sval na A) (x + n) = ox at *
  generalize oM (sval na A) = om at *
  obtain ⟨hx1, hx2⟩ := hx
  obtain ⟨hn1, hn2⟩ := hn
  have hb0 : Below w.heap.size w ((w.alloc (.cells #[.bool na, .slice ao A.length ca, .int .i64 x] 26)).alloc (.cells #[.bool false, .slice none 0 0, .int .i64 0] 26)) := ((Below.refl _ _).alloc (Nat.le_refl _) _).alloc (by simp) _
  have x0 : Box3 ((w.alloc (.cells #[.bool na, .slice ao A.length ca, .int .i64 x] 26)).alloc (.cells #[.bool false, .slice none 0 0, .int .i64 0] 26)) w.heap.size (.bool na) (.slice ao A.length ca) (.int .i64 x) := (Box3.new _ _ _ _).old _
  have x2 : Box3 ((w.alloc (.cells #[.bool na, .slice ao A.length ca, .int .i64 x] 26)).alloc (.cells #[.bool false, .slice none 0 0, .int .i64 0] 26)) (w.heap.size + 1) (.bool false) (.slice none 0 0) (.int .i64 0) := by
    have := Box3.new (w.alloc (.cells #[.bool na, .slice ao A.length ca, .int .i64 x] 26)) (.bool false) (.slice none 0 0) (.int .i64 0)
    simpa using this
  have B0 := hide hb0; have X0 := hide x0; have X2 := hide x2
  clear hb0 x0 x2
  go_enter Tryd.func28, Tryd.ntmps28
  go_wp2_with fail
  refine (unhide CO _ (hA.below (unhide B0))).mono ?_
  rintro r w4 ⟨v, rfl, iv, hb1⟩
  obtain ⟨n3, a3, c3, L3, rfl, i3⟩ := iv.num
  have x2 := (unhide X2).all hb1
  have b2 := (unhide B0).trans (hb1.mono (unhide B0).size)
  have y0 := x2.c0; have y1 := x2.c1; have y2 := x2.c2; have f0 := x2.free 0; have f1 := x2.free 1; have f2 := x2.free 2
  have X3 := hide x2; have B2 := hide b2; have IV := hide iv
  clear x2 b2 hb1 iv i3
  go_wp2
  refine bodyPost_ret (v := .agg #[.bool n3, .slice a3 L3.length c3, .int .i64 ox]) (by simp [results, Tryd.results28, go_sem, y0, y1, y2]) rfl ⟨_, rfl, (unhide IV).put3 (unhide X3) _ _ _, below_put3 (unhide B2) (by omega) _ _ _⟩

theorem drB_odd {neg : Bool} {L : List Nat} {e : Int} (h : drB neg L e = true) (h0 : sval neg L ≠ 0) : tz (sval neg L).natAbs = 0 ∧ sval neg L % 2 = 1 := by
  have hr := (drB_bounds h).1
  have hl : L.length ≠ 0 := fun e => h0 ((sval_zero_iff hr).2 e)
  unfold drB at h
  rw [if_neg hl, Bool.and_eq_true, Bool.and_eq_true] at h
  have ho : val L % 2 = 1 := of_decide_eq_true h.2.1
  refine ⟨by rw [natAbs_sval]; exact tz_odd _ ho, ?_⟩
  have := natAbs_sval neg L
  omega

theorem told_scale {na : Bool} {A : List Nat} {x n : Int} (h : drB na A x = true) (hn : -32768 ≤ n ∧ n ≤ 32768) :
    (dRt (oM (sval na A)) (oE (sval na A) (x + n)) = true → dErr (sval na A) (x + n) = 0 ∧ dM (sval na A) (x + n) = oM (sval na A) ∧ dX (sval na A) (x + n) = oE (sval na A) (x + n)) ∧ (dRt (oM (sval na A)) (oE (sval na A) (x + n)) = false → dErr (sval na A) (x + n) = 2 ∧ dM (sval na A) (x + n) = 0 ∧ dX (sval na A) (x + n) = 0) := by
  by_cases hin : -32768 ≤ x + n ∧ x + n ≤ 32768
  · exact told_make _ _ hin
  · obtain ⟨hr, hl, h1, h2, h3⟩ := drB_bounds h
    have h0 : sval na A ≠ 0 := fun e => by
      have := h3 ((sval_zero_iff hr).1 e)
      omega
    obtain ⟨ht, ho⟩ := drB_odd h h0
    have hd : dRt (oM (sval na A)) (oE (sval na A) (x + n)) = false := by
      unfold dRt
      rw [if_neg (oM_ne _ h0).1, oE_ne _ _ h0, ht, decide_eq_false (show ¬ (-16384 ≤ x + n + ((0 : Nat) : Int) ∧ x + n + ((0 : Nat) : Int) ≤ 16384) by omega), Bool.and_false]
    refine ⟨fun h => ?_, fun _ => make_far _ _ hin⟩
    rw [hd] at h
    exact absurd h (by decide)

end Go.Proofs.YtinlddkdkgepjaaDoor

/- How many bits a number has; when one is too wide. -/
namespace Go.Proofs.YtinlddkdkgepjaaDoor
open Go.RowKit

theorem bitLen_spec : ∀ (t : Nat), 0 < t → t < 4294967296 → 1 ≤ Lib.bitLen t ∧ 2 ^ (Lib.bitLen t - 1) ≤ t ∧ t < 2 ^ Lib.bitLen t := by
  intro t
  induction t using Nat.strongRecOn with
  | ind t ih =>
    intro h0 h1
    have hb := bitLen_half t h0 h1
    by_cases h2 : t = 1
    · subst h2; decide
    · obtain ⟨i1, i2, i3⟩ := ih (t / 2) (by omega) (by omega) (by omega)
      rw [hb]
      refine ⟨by omega, ?_, ?_⟩
      · rw [show 1 + Lib.bitLen (t / 2) - 1 = (Lib.bitLen (t / 2) - 1) + 1 by omega, Nat.pow_succ]
        omega
      · rw [show 1 + Lib.bitLen (t / 2) = Lib.bitLen (t / 2) + 1 by omega, Nat.pow_succ]
        omega

/-- The number of bits, as a natural number. -/
def bits1 (L : List Nat) : Nat := if L.length = 0 then 0 else 32 * (L.length - 1) + Lib.bitLen (L[L.length - 1]?.getD 0)

theorem lenL_bits (L : List Nat) : lenL L = (bits1 L : Int) := by
  unfold lenL bits1
  by_cases h : L.length = 0
  · rw [if_pos h, if_pos h]; rfl
  · rw [if_neg h, if_neg h]; omega

theorem bits_spec (L : List Nat) (hf : Fits L) (hc : Canon L) (h0 : L ≠ []) : 1 ≤ bits1 L ∧ 2 ^ (bits1 L - 1) ≤ val L ∧ val L < 2 ^ bits1 L := by
  have hl : 0 < L.length := List.length_pos_iff.2 h0
  have ht : L[L.length - 1]?.getD 0 ≠ 0 := by
    rcases hc with h | h
    · exact absurd h h0
    · exact h
  have htl : L[L.length - 1]?.getD 0 < 4294967296 := by
    rw [List.getElem?_eq_getElem (by omega)]
    exact hf _ (List.getElem_mem _)
  obtain ⟨s1, s2, s3⟩ := bitLen_spec (L[L.length - 1]?.getD 0) (by omega) htl
  have hv := val_take_succ L (L.length - 1)
  rw [show L.length - 1 + 1 = L.length by omega, List.take_length] at hv
  have hr := val_take_lt L hf (L.length - 1)
  rw [show (4294967296 : Nat) = 2 ^ 32 by decide, ← Nat.pow_mul] at hr hv
  unfold bits1
  rw [if_neg (by omega)]
  generalize L[L.length - 1]?.getD 0 = t at *
  generalize Lib.bitLen t = b at *
  generalize val (L.take (L.length - 1)) = r at *
  generalize hk : 32 * (L.length - 1) = k at *
  refine ⟨by omega, ?_, ?_⟩
  · rw [show k + b - 1 = k + (b - 1) by omega, Nat.pow_add, hv]
    have : 2 ^ k * 2 ^ (b - 1) ≤ 2 ^ k * t := Nat.mul_le_mul_left _ s2
    omega
  · rw [Nat.pow_add, hv]
    have : 2 ^ k * (t + 1) ≤ 2 ^ k * 2 ^ b := Nat.mul_le_mul_left _ s3
    rw [Nat.mul_add] at this
    omega

/-- A number of n bits times 2^d has n + d bits. -/
theorem bits_up (v n d k : Nat) (h1 : 1 ≤ n) (h2 : 2 ^ (n - 1) ≤ v) (h3 : v < 2 ^ n) : v * 2 ^ d < 2 ^ k ↔ n + d ≤ k := by
  constructor
  · intro h
    apply Nat.le_of_not_lt
    intro hlt
    have e1 : 2 ^ (n - 1) * 2 ^ d ≤ v * 2 ^ d := Nat.mul_le_mul_right _ h2
    rw [← Nat.pow_add] at e1
    have e2 : 2 ^ k ≤ 2 ^ (n - 1 + d) := Nat.pow_le_pow_right (by decide) (by omega)
    omega
  · intro h
    have e1 : v * 2 ^ d < 2 ^ n * 2 ^ d := Nat.mul_lt_mul_of_pos_right h3 (Nat.pow_pos (by decide))
    rw [← Nat.pow_add] at e1
    exact Nat.lt_of_lt_of_le e1 (Nat.pow_le_pow_right (by decide) h)

theorem natAbs_up (n : Bool) (L : List Nat) (x l : Int) : (up (sval n L) x l).natAbs = val L * 2 ^ (x - l).toNat := by
  unfold up
  rw [Int.natAbs_mul, natAbs_sval, Int.natAbs_pow]
  rfl

/-- Too wide, by bits. -/
theorem up_bits (n : Bool) (L : List Nat) (x l : Int) (hf : Fits L) (hr : rightB n L = true) (h0 : L ≠ []) (hl : l ≤ x) : upE (sval n L) x l = 0 ↔ (x - l ≤ 16384 ∧ lenL L + x - l ≤ 16384) := by
  obtain ⟨s1, s2, s3⟩ := bits_spec L hf (right_canon hr).2.1 h0
  have hb := bits_up (val L) (bits1 L) (x - l).toNat (32 * TOPN) s1 s2 s3
  rw [← TOP_eq, ← natAbs_up n L x l] at hb
  have e2 : 32 * TOPN = 16384 := rfl
  rw [lenL_bits]
  constructor
  · intro h
    have := hb.1 (upE_TOP h)
    omega
  · intro h
    exact upE_ok _ _ _ (hb.2 (by omega)) h.1

end Go.Proofs.YtinlddkdkgepjaaDoor

/- Contracts of the reference's Low, wide, Wide. -/
namespace Go.Proofs.YtinlddkdkgepjaaDoor
open Go.RowKit
attribute [local go_sem ↓] Go.wp_at_zero Go.wp_at_succ

def lowR (n m : Nat) (x y : Int) : Int := if n = 0 then y else if m = 0 then x else min x y

theorem lowR_E {na nb : Bool} {A B : List Nat} {x y : Int} (ra : rightB na A = true) (rb : rightB nb B = true) : lowR A.length B.length x y = lowE (sval na A) x (sval nb B) y := by
  unfold lowR lowE
  by_cases h1 : A.length = 0
  · rw [if_pos h1, if_pos ((sval_zero_iff ra).2 h1)]
  · rw [if_neg h1, if_neg (fun e => h1 ((sval_zero_iff ra).1 e))]
    by_cases h2 : B.length = 0
    · rw [if_pos h2, if_pos ((sval_zero_iff rb).2 h2)]
    · rw [if_neg h2, if_neg (fun e => h2 ((sval_zero_iff rb).1 e))]

set_option maxHeartbeats 1000000 in
theorem low_any (na nb : Bool) (ao bo : Option Addr) (ca cb n m : Nat) (x y : Int) (w : World) :
    Calls Tryd.prog 46 #[.agg #[.bool na, .slice ao n ca, .int .i64 x], .agg #[.bool nb, .slice bo m cb, .int .i64 y]] w fun r w' => r = .returned (.int .i64 (lowR n m x y)) ∧ Below w.heap.size w w' := by
  have hb0 : Below w.heap.size w ((w.alloc (.cells #[.bool na, .slice ao n ca, .int .i64 x] 26)).alloc (.cells #[.bool nb, .slice bo m cb, .int .i64 y] 26)) := ((Below.refl _ _).alloc (Nat.le_refl _) _).alloc (by simp) _
  have B0 := hide hb0
  clear hb0
  by_cases h1 : n = 0
  · have hl : lowR n m x y = y := by unfold lowR; rw [if_pos h1]
    rw [hl]
    subst h1
    clear hl
    go_enter Tryd.func46, Tryd.ntmps46
    go_wp2
    go_ret
    exact ⟨rfl, unhide B0⟩
  have h1' : ((n : Int) == 0) = false := by rw [beq_eq_false_iff_ne]; omega
  by_cases h2 : m = 0
  · have hl : lowR n m x y = x := by unfold lowR; rw [if_neg h1, if_pos h2]
    rw [hl]
    subst h2
    clear hl h1
    go_enter Tryd.func46, Tryd.ntmps46
    go_wp2
    go_ret
    exact ⟨rfl, unhide B0⟩
  have h2' : ((m : Int) == 0) = false := by rw [beq_eq_false_iff_ne]; omega
  have HL := hide (show lowR n m x y = min x y by unfold lowR; rw [if_neg h1, if_neg h2])
  generalize lowR n m x y = l at *
  clear h1 h2
  rcases (show x < y ∨ x = y ∨ y < x by omega) with hxy | hxy | hxy
  · have hl : l = x := by rw [unhide HL]; omega
    subst hl
    clear HL
    go_enter Tryd.func46, Tryd.ntmps46
    go_wp2
    go_ret
    exact ⟨rfl, unhide B0⟩
  · have hl : l = x := by rw [unhide HL]; omega
    subst hxy
    subst hl
    clear HL
    go_enter Tryd.func46, Tryd.ntmps46
    go_wp2
    go_ret
    exact ⟨rfl, unhide B0⟩
  · have hl : l = y := by rw [unhide HL]; omega
    subst hl
    clear HL
    go_enter Tryd.func46, Tryd.ntmps46
    go_wp2
    go_ret
    exact ⟨rfl, unhide B0⟩

/-- Is a right number too wide with the power l? -/
def widB (L : List Nat) (x l : Int) : Bool := decide (L.length ≠ 0 ∧ (16384 < x - l ∨ 16384 < lenL L + x - l))

set_option maxHeartbeats 1000000 in
theorem wide_any (na : Bool) (ao : Option Addr) (ca : Nat) (A : List Nat) (x l : Int) (w : World) (hA : LimbsAt w ao ca A) (la : A.length ≤ 512) (hx : -16384 ≤ x ∧ x ≤ 16384) (hl : -16384 ≤ l ∧ l ≤ 16384) :
    Calls Tryd.prog 47 #[.agg #[.bool na, .slice ao A.length ca, .int .i64 x], .int .i64 l] w fun r w' => r = .returned (.bool (widB A x l)) ∧ Below w.heap.size w w' := by
  have HR := hide (fun w' h' => refLen_any na ao ca A w' h' (by omega))
  have hn : 0 ≤ lenL A ∧ lenL A ≤ 20000 := by
    unfold lenL
    split
    · omega
    · have := bitLen_le (A[A.length - 1]?.getD 0)
      omega
  have HW := hide (show widB A x l = decide (A.length ≠ 0 ∧ (16384 < x - l ∨ 16384 < lenL A + x - l)) from rfl)
  generalize widB A x l = wb at *
  generalize lenL A = n at *
  obtain ⟨hx1, hx2⟩ := hx
  obtain ⟨hl1, hl2⟩ := hl
  obtain ⟨hn1, hn2⟩ := hn
  have hb0 : Below w.heap.size w (w.alloc (.cells #[.bool na, .slice ao A.length ca, .int .i64 x] 26)) := (Below.refl _ _).alloc (Nat.le_refl _) _
  have x0 := Box3.new w (.bool na) (.slice ao A.length ca) (.int .i64 x)
  have B0 := hide hb0; have X0 := hide x0
  clear hb0 x0
  by_cases h0 : A.length = 0
  · have hw : wb = false := by rw [unhide HW]; exact decide_eq_false (fun h => h.1 h0)
    subst hw
    have hA0 : A = [] := List.length_eq_zero_iff.1 h0
    subst hA0
    clear HW h0 HR X0 hA
    go_enter Tryd.func47, Tryd.ntmps47
    go_wp2
    go_quiet (fail)
    go_wp2
    go_ret
    exact ⟨by first | rfl | exact ret_bool (decide_eq_false (by omega)), below_drewN (unhide B0) _⟩
  have h0' : (0 : Int) < (A.length : Int) := by omega
  have hp : 0 < A.length := by omega
  by_cases h1 : 16384 < x - l
  · have hw : wb = true := by rw [unhide HW]; exact decide_eq_true ⟨h0, .inl h1⟩
    subst hw
    clear HW h0 HR
    go_enter Tryd.func47, Tryd.ntmps47
    go_wp2
    go_quiet (fail)
    go_wp2
    go_ret
    exact ⟨by first | rfl | exact ret_bool (decide_eq_true (by omega)), below_drewN (unhide B0) _⟩
  · have hw : wb = decide (16384 < n + x - l) := by
      rw [unhide HW, decide_eq_decide]
      constructor
      · intro h; rcases h.2 with h | h
        · exact absurd h h1
        · exact h
      · intro h; exact ⟨h0, .inr h⟩
    have g1 : decide (16384 < x - l) = false := decide_eq_false h1
    have hw1 : IntKind.i64.wrap (x - l) = x - l := wrap_small _ (by omega)
    have hw2 : IntKind.i64.wrap (n + x) = n + x := wrap_small _ (by omega)
    have hw3 : IntKind.i64.wrap (n + x - l) = n + x - l := wrap_small _ (by omega)
    subst hw
    clear HW h0
    go_enter Tryd.func47, Tryd.ntmps47
    go_wp2
    refine at_world (fun W => Below w.heap.size w W ∧ Box3 W w.heap.size (.bool na) (.slice ao A.length ca) (.int .i64 x)) ⟨unhide B0, unhide X0⟩ ?_
    clear B0 X0
    rintro W0 ⟨b0, x0⟩
    have hK : ∀ w', Below W0.heap.size W0 w' → Below W0.heap.size W0 w' ∧ w'.cell? ⟨w.heap.size, 0, none⟩ = some (.bool na) ∧ w'.cell? ⟨w.heap.size, 1, none⟩ = some (.slice ao A.length ca) ∧ w'.cell? ⟨w.heap.size, 2, none⟩ = some (.int .i64 x) := fun w' h =>
      ⟨h, (x0.all h).c0, (x0.all h).c1, (x0.all h).c2⟩
    have HK := hide hK
    have HA := hide (hA.below b0); have BB := hide b0
    clear hK x0 b0
    go_region_held3 (fun w' => Below W0.heap.size W0 w' ∧ w'.cell? ⟨w.heap.size, 0, none⟩ = some (.bool na) ∧ w'.cell? ⟨w.heap.size, 1, none⟩ = some (.slice ao A.length ca) ∧ w'.cell? ⟨w.heap.size, 2, none⟩ = some (.int .i64 x))
      (first | exact unhide HK _ (Below.refl _ _).drew | exact unhide HK _ (by assumption))
      (first | (go_at_call 39; refine (unhide HR _ ((unhide HA).below (And.left (by assumption)))).mono ?_; rintro e wn ⟨rfl, hb1⟩; have hB : Below W0.heap.size W0 wn := Below.trans (And.left (by assumption)) (hb1.mono (Below.size (And.left (by assumption)))); clear hb1))
    go_wp2
    go_ret
    exact ⟨by first | rfl | exact ret_bool (by congr 1), (unhide BB).trans (Below.mono (And.left (by assumption)) (unhide BB).size)⟩

end Go.Proofs.YtinlddkdkgepjaaDoor

/- Contracts of the reference's Wide, Level, Neg. -/
namespace Go.Proofs.YtinlddkdkgepjaaDoor
open Go.RowKit
attribute [local go_sem ↓] Go.wp_at_zero Go.wp_at_succ

theorem lowR_bounds (n m : Nat) (x y : Int) (hx : -16384 ≤ x ∧ x ≤ 16384) (hy : -16384 ≤ y ∧ y ≤ 16384) : -16384 ≤ lowR n m x y ∧ lowR n m x y ≤ 16384 := by
  unfold lowR
  split
  · omega
  · split <;> omega

set_option maxHeartbeats 2000000 in
theorem Wide_any (na nb : Bool) (ao bo : Option Addr) (ca cb : Nat) (A B : List Nat) (x y : Int) (w : World) (hA : LimbsAt w ao ca A) (hB : LimbsAt w bo cb B) (la : A.length ≤ 512) (lb : B.length ≤ 512) (hx : -16384 ≤ x ∧ x ≤ 16384) (hy : -16384 ≤ y ∧ y ≤ 16384) :
    Calls Tryd.prog 22 #[.agg #[.bool na, .slice ao A.length ca, .int .i64 x], .agg #[.bool nb, .slice bo B.length cb, .int .i64 y]] w fun r w' => r = .returned (.bool (widB A x (lowR A.length B.length x y) || widB B y (lowR A.length B.length x y))) ∧ Below w.heap.size w w' := by
  have CL := hide (fun w' => low_any na nb ao bo ca cb A.length B.length x y w')
  have hl := lowR_bounds A.length B.length x y hx hy
  generalize lowR A.length B.length x y = l at *
  have CA := hide (fun w' h => wide_any na ao ca A x l w' h la hx hl)
  have CB := hide (fun w' h => wide_any nb bo cb B y l w' h lb hy hl)
  generalize widB A x l = wa at *
  generalize widB B y l = wb at *
  clear hl hx hy
  have hb0 : Below w.heap.size w ((w.alloc (.cells #[.bool na, .slice ao A.length ca, .int .i64 x] 26)).alloc (.cells #[.bool nb, .slice bo B.length cb, .int .i64 y] 26)) := ((Below.refl _ _).alloc (Nat.le_refl _) _).alloc (by simp) _
  have x0 : Box3 ((w.alloc (.cells #[.bool na, .slice ao A.length ca, .int .i64 x] 26)).alloc (.cells #[.bool nb, .slice bo B.length cb, .int .i64 y] 26)) w.heap.size (.bool na) (.slice ao A.length ca) (.int .i64 x) := (Box3.new _ _ _ _).old _
  have x1 : Box3 ((w.alloc (.cells #[.bool na, .slice ao A.length ca, .int .i64 x] 26)).alloc (.cells #[.bool nb, .slice bo B.length cb, .int .i64 y] 26)) (w.heap.size + 1) (.bool nb) (.slice bo B.length cb) (.int .i64 y) := by
    have := Box3.new (w.alloc (.cells #[.bool na, .slice ao A.length ca, .int .i64 x] 26)) (.bool nb) (.slice bo B.length cb) (.int .i64 y)
    simpa using this
  have B0 := hide hb0; have X0 := hide x0; have X1 := hide x1
  clear hb0 x0 x1
  go_enter Tryd.func22, Tryd.ntmps22
  go_wp2_with fail
  refine (unhide CL _).mono ?_
  rintro r w1 ⟨rfl, hb1⟩
  have x0 := (unhide X0).all hb1; have x1 := (unhide X1).all hb1
  have b1 := (unhide B0).trans (hb1.mono (unhide B0).size)
  have p0 := x0.c0; have p1 := x0.c1; have p2 := x0.c2
  have X1' := hide x1; have B1 := hide b1
  clear hb1 x0 x1 b1 X0 X1 B0 CL
  go_wp2_with fail
  refine (unhide CA _ (hA.below (unhide B1))).mono ?_
  rintro r w2 ⟨rfl, hb1⟩
  have x1 := (unhide X1').all hb1
  have b1 := (unhide B1).trans (hb1.mono (unhide B1).size)
  clear p0 p1 p2 X1' B1
  have p0 := x1.c0; have p1 := x1.c1; have p2 := x1.c2
  have B1 := hide b1
  clear hb1 x1 b1 CA
  cases wa
  · go_wp2_with fail
    refine (unhide CB _ (hB.below (unhide B1))).mono ?_
    rintro r w3 ⟨rfl, hb1⟩
    go_wp2
    go_ret
    exact ⟨rfl, (unhide B1).trans (hb1.mono (unhide B1).size)⟩
  · go_wp2
    go_ret
    exact ⟨rfl, unhide B1⟩

set_option maxHeartbeats 2000000 in
theorem level_any (na : Bool) (ao : Option Addr) (ca : Nat) (A : List Nat) (x l : Int) (w : World) (hA : LimbsAt w ao ca A) (ra : rightB na A = true) (h : A.length ≠ 0 → l ≤ x ∧ x - l ≤ 16384) (hx : -16384 ≤ x ∧ x ≤ 16384) (hl : -16384 ≤ l ∧ l ≤ 16384) :
    Calls Tryd.prog 49 #[.agg #[.bool na, .slice ao A.length ca, .int .i64 x], .int .i64 l] w fun r w' => ∃ v, r = .returned v ∧ IsNum 0 w' v (up (sval na A) x l) ∧ Below w.heap.size w w' := by
  have la := (right_canon ra).1
  have HZ := hide (show A.length = 0 → up (sval na A) x l = 0 ∧ na = false from fun h0 => by
    refine ⟨by rw [(sval_zero_iff ra).2 h0, up_zero], ?_⟩
    cases na
    · rfl
    · exact absurd (List.length_eq_zero_iff.1 h0) ((right_canon ra).2.2 rfl))
  have CS := hide (fun w' h' (h0 : A.length ≠ 0) => show Calls Tryd.prog 68 #[.agg #[.bool na, .slice ao A.length ca], .int .i64 (x - l)] w' fun e w'' => ∃ v, e = .returned v ∧ IsNum 0 w'' v (up (sval na A) x l) ∧ Below w'.heap.size w' w'' by
    have := refShift_any na ao ca A (x - l) w' h' ra (by have := h h0; omega)
    rwa [shV_upto na A (x - l) (by have := h h0; omega)] at this)
  clear h ra
  generalize up (sval na A) x l = z at *
  obtain ⟨hx1, hx2⟩ := hx
  obtain ⟨hl1, hl2⟩ := hl
  have hb0 : Below w.heap.size w ((w.alloc (.cells #[.bool na, .slice ao A.length ca, .int .i64 x] 26)).alloc (.cells #[.bool false, .slice none 0 0] 24)) := ((Below.refl _ _).alloc (Nat.le_refl _) _).alloc (by simp) _
  have x0 : Box3 ((w.alloc (.cells #[.bool na, .slice ao A.length ca, .int .i64 x] 26)).alloc (.cells #[.bool false, .slice none 0 0] 24)) w.heap.size (.bool na) (.slice ao A.length ca) (.int .i64 x) := (Box3.new _ _ _ _).old _
  have x2 : Box2 ((w.alloc (.cells #[.bool na, .slice ao A.length ca, .int .i64 x] 26)).alloc (.cells #[.bool false, .slice none 0 0] 24)) (w.heap.size + 1) (.bool false) (.slice none 0 0) := by
    have := Box2.new (w.alloc (.cells #[.bool na, .slice ao A.length ca, .int .i64 x] 26)) (.bool false) (.slice none 0 0)
    simpa using this
  have B0 := hide hb0; have X0 := hide x0; have X2 := hide x2
  clear hb0 x0 x2
  by_cases h0 : A.length = 0
  · obtain ⟨rfl, rfl⟩ := unhide HZ h0
    have hA0 : A = [] := List.length_eq_zero_iff.1 h0
    subst hA0
    clear HZ CS h0
    go_enter Tryd.func49, Tryd.ntmps49
    go_wp2
    refine bodyPost_ret (v := .agg #[.bool false, .slice ao 0 ca]) (by simp [results, Tryd.results49, go_sem]) rfl ⟨_, rfl, IsNum.zero _ _ _ _, ?_⟩
    exact ((Below.refl w.heap.size w).alloc (Nat.le_refl _) _).alloc (by simp) _
  have h0' : ((A.length : Int) == 0) = false := by rw [beq_eq_false_iff_ne]; omega
  have CS' := hide (fun w' h' => unhide CS w' h' h0)
  clear HZ CS h0
  go_enter Tryd.func49, Tryd.ntmps49
  go_wp2_with fail
  refine (unhide CS' _ (hA.below (unhide B0))).mono ?_
  rintro r w2 ⟨v, rfl, ⟨n3, a3, c3, L3, rfl, i3⟩, hb1⟩
  have x2 := (unhide X2).all hb1
  have b2 := (unhide B0).trans (hb1.mono (unhide B0).size)
  have y0 := x2.c0; have y1 := x2.c1; have f0 := x2.free 0; have f1 := x2.free 1
  have X3 := hide x2; have B2 := hide b2; have I3 := hide i3
  clear x2 b2 hb1 i3
  go_wp2
  refine bodyPost_ret (v := .agg #[.bool n3, .slice a3 L3.length c3]) (by simp [results, Tryd.results49, go_sem, y0, y1]) rfl ⟨_, rfl, ⟨n3, a3, c3, L3, rfl, (unhide I3).1.box (unhide X3) _ _, (unhide I3).2⟩, below_put2 (unhide B2) (by omega) _ _⟩

set_option maxHeartbeats 2000000 in
theorem rneg_any (na : Bool) (ao : Option Addr) (ca : Nat) (A : List Nat) (x : Int) (w : World) (hA : LimbsAt w ao ca A) (la : A.length ≤ 512) :
    Calls Tryd.prog 50 #[.agg #[.bool na, .slice ao A.length ca, .int .i64 x]] w fun r w' => ∃ v, r = .returned v ∧ IsDy w' v (- sval na A) x ∧ Below w.heap.size w w' := by
  have CN := hide (fun w' h => refNeg_any na ao ca A w' h (by omega))
  generalize - sval na A = z at *
  have hb0 : Below w.heap.size w ((w.alloc (.cells #[.bool na, .slice ao A.length ca, .int .i64 x] 26)).alloc (.cells #[.bool false, .slice none 0 0, .int .i64 0] 26)) := ((Below.refl _ _).alloc (Nat.le_refl _) _).alloc (by simp) _
  have x0 : Box3 ((w.alloc (.cells #[.bool na, .slice ao A.length ca, .int .i64 x] 26)).alloc (.cells #[.bool false, .slice none 0 0, .int .i64 0] 26)) w.heap.size (.bool na) (.slice ao A.length ca) (.int .i64 x) := (Box3.new _ _ _ _).old _
  have x2 : Box3 ((w.alloc (.cells #[.bool na, .slice ao A.length ca, .int .i64 x] 26)).alloc (.cells #[.bool false, .slice none 0 0, .int .i64 0] 26)) (w.heap.size + 1) (.bool false) (.slice none 0 0) (.int .i64 0) := by
    have := Box3.new (w.alloc (.cells #[.bool na, .slice ao A.length ca, .int .i64 x] 26)) (.bool false) (.slice none 0 0) (.int .i64 0)
    simpa using this
  have B0 := hide hb0; have X0 := hide x0; have X2 := hide x2
  clear hb0 x0 x2
  go_enter Tryd.func50, Tryd.ntmps50
  go_wp2_with fail
  refine at_world (fun W => Below w.heap.size w W ∧ Box3 W w.heap.size (.bool na) (.slice ao A.length ca) (.int .i64 x) ∧ Box3 W (w.heap.size + 1) (.bool false) (.slice none 0 0) (.int .i64 0)) ⟨unhide B0, unhide X0, unhide X2⟩ ?_
  clear B0 X0 X2
  rintro W0 ⟨b0, x0, x2⟩
  have s0 : w.heap.size + 1 < W0.heap.size := x2.lt
  have hK : ∀ w', Below (w.heap.size + 1) W0 w' → Below (w.heap.size + 1) W0 w' ∧ w'.cell? ⟨w.heap.size, 0, none⟩ = some (.bool na) ∧ w'.cell? ⟨w.heap.size, 1, none⟩ = some (.slice ao A.length ca) ∧ w'.cell? ⟨w.heap.size, 2, none⟩ = some (.int .i64 x) := fun w' h =>
    ⟨h, (x0.below h (by omega)).c0, (x0.below h (by omega)).c1, (x0.below h (by omega)).c2⟩
  have HK := hide hK; have BB := hide b0; have X2 := hide x2
  clear hK b0 x0 x2
  go_region_held3 (fun w' => Below (w.heap.size + 1) W0 w' ∧ w'.cell? ⟨w.heap.size, 0, none⟩ = some (.bool na) ∧ w'.cell? ⟨w.heap.size, 1, none⟩ = some (.slice ao A.length ca) ∧ w'.cell? ⟨w.heap.size, 2, none⟩ = some (.int .i64 x))
    (first | exact unhide HK _ (Below.refl _ _).drew | exact unhide HK _ (by assumption) | exact unhide HK _ (below_put3 hB1 (by omega) _ _ _))
    (first | (go_at_call 69; refine (unhide CN _ (hA.below ((unhide BB).trans ((Below.refl _ _).drew)))).mono ?_; rintro e w3 ⟨v, rfl, ⟨n4, a4, c4, L4, rfl, i4⟩, hb1⟩; have hB1 : Below (w.heap.size + 1) W0 w3 := ((Below.refl _ _).drew).trans (hb1.mono (by simp; omega)); have X4 := ((unhide X2).drew.below hb1 (by simp; omega)); have IZ := hide (show IsNum 0 w3 (.agg #[.bool n4, .slice a4 L4.length c4]) z from ⟨n4, a4, c4, L4, rfl, i4.1, i4.2.1, i4.2.2.1, i4.2.2.2.1, i4.2.2.2.2.1, by have := i4.2.2.2.2.2; omega⟩); have y0 := X4.c0; have y1 := X4.c1; have y2 := X4.c2; have f0 := X4.free 0; have f1 := X4.free 1; have f2 := X4.free 2; have X5 := hide X4; have BB1 := hide ((unhide BB).trans (hB1.mono (by omega))); clear hb1 i4 X4))
  go_wp2
  have j2 : IsDy w3 (.agg #[.bool n4, .slice a4 L4.length c4, .int .i64 x]) z x := ⟨n4, a4, c4, L4, rfl, unhide IZ⟩
  refine bodyPost_ret (v := .agg #[.bool n4, .slice a4 L4.length c4, .int .i64 x]) (by simp [results, Tryd.results50, go_sem, y0, y1, y2]) rfl ⟨_, rfl, j2.put3 (unhide X5) _ _ _, below_put3 (unhide BB1) (by omega) _ _ _⟩

end Go.Proofs.YtinlddkdkgepjaaDoor

