/- Part 20 of the texts. -/
import Derived.Test.YtkmkjeoblkdmnaaDoorPart19
import Derived.Test.YtkmkjeoblkdmnaaDoorPart17
import Derived.Test.YtkmkjeoblkdmnaaDoorPart16
import Derived.Deep.Cut
import Derived.BigQuiet
/- Contracts of the reference's small, signed, bits, flags. -/
namespace Go.Proofs.YtkmkjeoblkdmnaaDoor
open Go.RowKit

set_option maxHeartbeats 2000000 in
theorem rsmall_0 (ng : Bool) (ao : Option Addr) (ca : Nat) (w : World) :
    Calls Tryd.prog 62 #[.agg #[.bool ng, .slice ao 0 ca]] w fun e w' => e = .returned (.int .u64 0) ∧ Below w.heap.size w w' := by
  go_enter Tryd.func62, Tryd.ntmps62
  go_wp2
  refine wp_loop_rounds 1 ?_
  rw [rounds_succ]
  go_wp2
  go_ret
  exact ⟨rfl, (Below.refl _ _).alloc (Nat.le_refl _) _⟩

set_option maxHeartbeats 2000000 in
theorem rsmall_1 (ng : Bool) (b off ca x : Nat) (w : World) (hx : (x : Int) < 4294967296) (c0 : (w.alloc (.cells #[.bool ng, .slice (some ⟨b, off, none⟩) 1 ca] 30)).cell? ⟨b, off, none⟩ = some (.int .u32 x)) :
    Calls Tryd.prog 62 #[.agg #[.bool ng, .slice (some ⟨b, off, none⟩) 1 ca]] w fun e w' => e = .returned (.int .u64 x) ∧ Below w.heap.size w w' := by
  have hx0 : (0 : Int) ≤ x := by omega
  go_enter Tryd.func62, Tryd.ntmps62
  go_wp2
  refine wp_loop_rounds 2 ?_
  rw [rounds_succ]
  go_wp2
  rw [rounds_succ]
  go_wp2
  go_ret
  exact ⟨by simp, (Below.refl _ _).alloc (Nat.le_refl _) _⟩

set_option maxHeartbeats 2000000 in
theorem rsmall_2 (ng : Bool) (b off ca x y : Nat) (w : World) (hx : (x : Int) < 4294967296) (hy : (y : Int) < 2147483648) (c0 : (w.alloc (.cells #[.bool ng, .slice (some ⟨b, off, none⟩) 2 ca] 30)).cell? ⟨b, off, none⟩ = some (.int .u32 x)) (c1 : (w.alloc (.cells #[.bool ng, .slice (some ⟨b, off, none⟩) 2 ca] 30)).cell? ⟨b, off + 1, none⟩ = some (.int .u32 y)) :
    Calls Tryd.prog 62 #[.agg #[.bool ng, .slice (some ⟨b, off, none⟩) 2 ca]] w fun e w' => e = .returned (.int .u64 (y * 4294967296 + x)) ∧ Below w.heap.size w w' := by
  have hx0 : (0 : Int) ≤ x := by omega
  have hy0 : (0 : Int) ≤ y := by omega
  go_enter Tryd.func62, Tryd.ntmps62
  go_wp2
  refine wp_loop_rounds 3 ?_
  rw [rounds_succ]
  go_wp2
  rw [rounds_succ]
  go_wp2
  rw [rounds_succ]
  go_wp2
  go_ret
  exact ⟨rfl, (Below.refl _ _).alloc (Nat.le_refl _) _⟩

set_option maxHeartbeats 1000000 in
theorem signed_any (b : Nat) (ng : Bool) (w : World) (h : b < 9223372036854775808) :
    Calls Tryd.prog 43 #[.int .u64 b, .bool ng] w fun e w' => e = .returned (.int .u64 (wrd ng b : Nat)) ∧ w = w' := by
  have CM := hide (fun w' => rminus4_any b w' (by omega))
  rw [fN_wrd b h] at CM
  have hw := wrd_false b
  cases ng
  · rw [hw]
    clear CM hw h
    go_enter Tryd.func43, Tryd.ntmps43
    go_wp2
    go_ret
    exact ⟨rfl, rfl⟩
  · generalize wrd true b = c at *
    clear hw h
    go_enter Tryd.func43, Tryd.ntmps43
    go_wp2_with (go_at_call 16; refine (unhide CM _).mono ?_; rintro e w2 ⟨rfl, rfl⟩)
    go_ret
    exact ⟨rfl, rfl⟩

set_option maxHeartbeats 1000000 in
theorem flags_any (b : Nat) (ex : Bool) (w : World) (h : b < 18446744073709551616) :
    Calls Tryd.prog 47 #[.int .u64 b, .bool ex] w fun e w' => e = .returned (.int .u8 (if fK b = 3 then 5 else if ex then 0 else if fK b = 2 then 1 else 3)) ∧ w = w' := by
  have CK := hide (fun w' => rkind_any b w' h)
  have hc := fK_cases b
  generalize fK b = k at *
  clear h
  by_cases h1 : k = 3
  · subst h1
    rw [if_pos rfl]
    go_enter Tryd.func47, Tryd.ntmps47
    go_wp2_with (go_at_call 10; refine (unhide CK _).mono ?_; rintro e w2 ⟨rfl, rfl⟩)
    go_ret
    exact ⟨rfl, rfl⟩
  · rw [if_neg h1]
    have g1 : (k == 3) = false := by simp; omega
    clear hc h1
    cases ex
    · by_cases h2 : k = 2
      · subst h2
        go_enter Tryd.func47, Tryd.ntmps47
        go_wp2_with (go_at_call 10; refine (unhide CK _).mono ?_; rintro e w2 ⟨rfl, rfl⟩)
        go_ret
        exact ⟨rfl, rfl⟩
      · rw [if_neg h2]
        have g2 : (k == 2) = false := by simp; omega
        clear h2
        go_enter Tryd.func47, Tryd.ntmps47
        go_wp2_with (go_at_call 10; refine (unhide CK _).mono ?_; rintro e w2 ⟨rfl, rfl⟩)
        go_ret
        exact ⟨rfl, rfl⟩
    · go_enter Tryd.func47, Tryd.ntmps47
      go_wp2_with (go_at_call 10; refine (unhide CK _).mono ?_; rintro e w2 ⟨rfl, rfl⟩)
      go_ret
      exact ⟨rfl, rfl⟩

set_option maxHeartbeats 1000000 in
theorem bits_low (m : Nat) (e : Int) (w : World) (h : (m : Int) < 4503599627370496) :
    Calls Tryd.prog 46 #[.int .u64 m, .int .i64 e] w fun r w' => r = .returned (.int .u64 m) ∧ w = w' := by
  have g1 : decide ((m : Int) < 4503599627370496) = true := decide_eq_true h
  clear h
  go_enter Tryd.func46, Tryd.ntmps46
  go_wp2
  go_ret
  exact ⟨rfl, rfl⟩

set_option maxHeartbeats 1000000 in
theorem bits_inf (m : Nat) (e : Int) (w : World) (h : 4503599627370496 ≤ (m : Int)) (he : 972 ≤ e ∧ e ≤ 100000) :
    Calls Tryd.prog 46 #[.int .u64 m, .int .i64 e] w fun r w' => r = .returned (.int .u64 9218868437227405312) ∧ w = w' := by
  have g1 : decide ((m : Int) < 4503599627370496) = false := decide_eq_false (by omega)
  have w1 : IntKind.i64.wrap (e + 1075) = e + 1075 := by simp only [IntKind.wrap_i64]; omega
  have g2 : decide (2047 ≤ e + 1075) = true := decide_eq_true (by omega)
  clear h he
  go_enter Tryd.func46, Tryd.ntmps46
  go_wp2
  go_ret
  exact ⟨rfl, rfl⟩

set_option maxHeartbeats 1000000 in
theorem bits_mid (m k r : Nat) (e : Int) (w : World) (h : 4503599627370496 ≤ (m : Int)) (hm : (m : Int) ≤ 9007199254740992) (hk : e + 1074 = (k : Int)) (hk2 : (k : Int) ≤ 2045) (hr : r = m + k * 4503599627370496) :
    Calls Tryd.prog 46 #[.int .u64 m, .int .i64 e] w fun q w' => q = .returned (.int .u64 r) ∧ w = w' := by
  have g1 : decide ((m : Int) < 4503599627370496) = false := decide_eq_false (by omega)
  have w1 : IntKind.i64.wrap (e + 1075) = e + 1075 := by simp only [IntKind.wrap_i64]; omega
  have w2 : IntKind.u64.wrap (e + 1075) = e + 1075 := by simp only [IntKind.wrap_u64]; omega
  have w3 : IntKind.u64.wrap ((e + 1075) * 4503599627370496) = (e + 1075) * 4503599627370496 := by simp only [IntKind.wrap_u64]; omega
  have w4 : IntKind.u64.wrap ((e + 1075) * 4503599627370496 + (m : Int)) = (e + 1075) * 4503599627370496 + (m : Int) := by simp only [IntKind.wrap_u64]; omega
  have w5 : IntKind.u64.wrap ((e + 1075) * 4503599627370496 + (m : Int) - 4503599627370496) = (r : Int) := by simp only [IntKind.wrap_u64]; omega
  have g2 : decide (2047 ≤ e + 1075) = false := decide_eq_false (by omega)
  clear h hm hk hk2 hr
  go_enter Tryd.func46, Tryd.ntmps46
  go_wp2
  go_ret
  exact ⟨rfl, rfl⟩

end Go.Proofs.YtkmkjeoblkdmnaaDoor

/- The reference's dyadic numbers at a level: Sub, Compare, Scale by 1, Neg. -/
namespace Go.Proofs.YtkmkjeoblkdmnaaDoor
open Go.RowKit

theorem up_level (z lo : Int) (k : Nat) (h : z ≠ 0 → lo + k ≤ oE z lo) : up (oM z) (oE z lo) (lo + k) * 2 ^ k = z := by
  by_cases h0 : z = 0
  · subst h0; rw [oM_zero, up_zero]; simp
  · have h1 := h h0
    conv => rhs; rw [← oM_level z lo h0]
    unfold up
    rw [Int.mul_assoc, ← Int.pow_add]
    congr 2
    omega

theorem low_level {lo : Int} {W : Nat} {z1 z2 : Int} (h1 : Lvl lo W z1) (h2 : Lvl lo W z2) (h0 : ¬ (z1 = 0 ∧ z2 = 0)) :
    ∃ k : Nat, lowE (oM z1) (oE z1 lo) (oM z2) (oE z2 lo) = lo + k ∧ up (oM z1) (oE z1 lo) (lo + k) * 2 ^ k = z1 ∧ up (oM z2) (oE z2 lo) (lo + k) * 2 ^ k = z2 ∧ oE z1 lo - (lo + k) ≤ 16384 ∧ oE z2 lo - (lo + k) ≤ 16384 := by
  have b1 := h1.2.1
  have b2 := h1.2.2.1
  have b3 := h1.2.2.2
  have hb : ∀ z, Lvl lo W z → (z = 0 ∧ oM z = 0 ∧ oE z lo = 0) ∨ (z ≠ 0 ∧ oM z ≠ 0 ∧ oE z lo = lo + (tz z.natAbs : Int) ∧ tz z.natAbs < W) := fun z hz => by
    by_cases e : z = 0
    · left; subst e; exact ⟨rfl, oM_zero, oE_zero _⟩
    · right; exact ⟨e, (oM_ne z e).1, oE_ne z lo e, hz.tzs e⟩
  rcases hb z1 h1 with ⟨e1, m1, x1⟩ | ⟨e1, m1, x1, t1⟩
  · rcases hb z2 h2 with ⟨e2, m2, x2⟩ | ⟨e2, m2, x2, t2⟩
    · exact absurd ⟨e1, e2⟩ h0
    · refine ⟨tz z2.natAbs, ?_, up_level z1 lo _ (fun h => absurd e1 h), up_level z2 lo _ (fun _ => by omega), by omega, by omega⟩
      unfold lowE; rw [if_pos m1]; exact x2
  · rcases hb z2 h2 with ⟨e2, m2, x2⟩ | ⟨e2, m2, x2, t2⟩
    · refine ⟨tz z1.natAbs, ?_, up_level z1 lo _ (fun _ => by omega), up_level z2 lo _ (fun h => absurd e2 h), by omega, by omega⟩
      unfold lowE; rw [if_neg m1, if_pos m2]; exact x1
    · refine ⟨min (tz z1.natAbs) (tz z2.natAbs), ?_, up_level z1 lo _ (fun _ => by omega), up_level z2 lo _ (fun _ => by omega), by omega, by omega⟩
      rw [lowE_ne _ _ _ _ m1 m2, x1, x2]; omega

theorem le_scaled {u z : Int} {k : Nat} (h : u * 2 ^ k = z) : u.natAbs ≤ z.natAbs := by
  rw [← h, Int.natAbs_mul, Int.natAbs_pow]
  exact Nat.le_mul_of_pos_right _ (Nat.pow_pos (by decide))

theorem Lvl.neg {lo : Int} {W : Nat} {z : Int} (h : Lvl lo W z) : Lvl lo W (-z) := ⟨by rw [Int.natAbs_neg]; exact h.1, h.2⟩

theorem dRt_in {m e : Int} (h : dRt m e = true) : -16384 ≤ e ∧ e ≤ 16384 := by
  unfold dRt at h
  by_cases h0 : m = 0
  · rw [if_pos h0] at h; have := of_decide_eq_true h; omega
  · rw [if_neg h0, Bool.and_eq_true] at h; exact of_decide_eq_true h.2

theorem rsubN {w : World} {v u : Value} {lo : Int} {W : Nat} {z1 z2 : Int} (hv : IsDy w v (oM z1) (oE z1 lo)) (hu : IsDy w u (oM z2) (oE z2 lo)) (h1 : Lvl lo W z1) (h2 : Lvl lo W z2) :
    Calls Tryd.prog 49 #[v, u] w fun r w' => ∃ q, r = .returned q ∧ IsDy w' q (oM (z1 - z2)) (oE (z1 - z2) lo) ∧ Below w.heap.size w w' := by
  obtain ⟨na, ao, ca, A, rfl, a1, a2, a3, a4, a5⟩ := hv.right h1.right.2
  obtain ⟨nb, bo, cb, B, rfl, b1, b2, b3, b4, b5⟩ := hu.right h2.right.2
  have x1 := dRt_in h1.right.1
  have x2 := dRt_in h2.right.1
  have hn := oM_neg z2
  have hN := h2.neg
  have t1 := h1.tops
  have t2 := hN.tops
  by_cases h0 : z1 = 0 ∧ z2 = 0
  · obtain ⟨rfl, rfl⟩ := h0
    have hz : ∀ W : World, W = W := fun _ => rfl
    rw [oM_zero] at a3 b3
    rw [oE_zero] at *
    have eZ : sumZ 0 0 (-0) 0 = 0 := by decide
    have eU : upE 0 0 (lowE 0 0 (-0) 0) = 0 := upE_ok _ _ _ (by rw [up_zero]; exact TOP_pos) (by decide)
    have eU2 : upE (-0) 0 (lowE 0 0 (-0) 0) = 0 := upE_ok _ _ _ (by rw [Int.neg_zero, up_zero]; exact TOP_pos) (by decide)
    have := rsub_any na nb ao bo ca cb A B 0 0 w a1 b1 a2 b2 (by omega) (by omega) (by rw [a3, b3]; exact eU) (by rw [a3, b3]; exact eU2)
    rw [a3, b3, eZ, oM_zero, oE_zero] at this
    simpa [oM_zero, oE_zero] using this
  · obtain ⟨k, e1, e2, e3, e4, e5⟩ := low_level h1 hN (by omega)
    have hx : oE (-z2) lo = oE z2 lo := hn.2 lo
    rw [hn.1, hx] at e1
    have e3' := e3
    rw [hn.1, hx] at e3
    rw [hx] at e5
    have g1 : upE (oM z1) (oE z1 lo) (lo + k) = 0 := upE_ok _ _ _ (Nat.lt_of_le_of_lt (le_scaled e2) t1) e4
    have g2 : upE (-oM z2) (oE z2 lo) (lo + k) = 0 := upE_ok _ _ _ (Nat.lt_of_le_of_lt (le_scaled e3) t2) e5
    have := rsub_any na nb ao bo ca cb A B _ _ w a1 b1 a2 b2 x1 x2 (by rw [a3, b3, e1]; exact g1) (by rw [a3, b3, e1]; exact g2)
    rw [a3, b3, e1] at this
    have hZ : sumZ (oM z1) (oE z1 lo) (-oM z2) (oE z2 lo) * 2 ^ k = z1 - z2 := by
      unfold sumZ
      rw [e1, Int.add_mul, e2, e3, Int.sub_eq_add_neg]
    generalize sumZ (oM z1) (oE z1 lo) (-oM z2) (oE z2 lo) = Z at *
    have hs := oM_scale Z k lo
    rw [hZ] at hs
    rw [hs.1, hs.2]
    exact this

theorem cmpI_scale (u v : Int) (k : Nat) : cmpI (u * 2 ^ k) (v * 2 ^ k) = cmpI u v := by
  rw [cmpI_sgn, cmpI_sgn, ← Int.sub_mul, sgnI_mul_pow]

theorem rcmpN {w : World} {v u : Value} {lo : Int} {W : Nat} {z1 z2 : Int} (hv : IsDy w v (oM z1) (oE z1 lo)) (hu : IsDy w u (oM z2) (oE z2 lo)) (h1 : Lvl lo W z1) (h2 : Lvl lo W z2) :
    Calls Tryd.prog 24 #[v, u] w fun r w' => r = .returned (.int .i64 (cmpI z1 z2)) ∧ Below w.heap.size w w' := by
  obtain ⟨na, ao, ca, A, rfl, a1, a2, a3, a4, a5⟩ := hv.right h1.right.2
  obtain ⟨nb, bo, cb, B, rfl, b1, b2, b3, b4, b5⟩ := hu.right h2.right.2
  have := rcompare_any na nb ao bo ca cb A B _ _ w a1 b1 (a5.trans h1.right.1) (b5.trans h2.right.1)
  rw [a3, b3] at this
  have hc : cmpV (oM z1) (oE z1 lo) (oM z2) (oE z2 lo) = cmpI z1 z2 := by
    by_cases h0 : z1 = 0 ∧ z2 = 0
    · obtain ⟨rfl, rfl⟩ := h0
      rw [oM_zero, oE_zero]; rfl
    · obtain ⟨k, e1, e2, e3, _, _⟩ := low_level h1 h2 h0
      unfold cmpV
      rw [e1, ← cmpI_scale _ _ k, e2, e3]
  rwa [hc] at this

theorem oM_oM (z : Int) : oM (oM z) = oM z := by
  by_cases h : z = 0
  · subst h; rw [oM_zero, oM_zero]
  · have h1 := oM_ne z h
    have := (oddOf (oM z) h1.1).unique (m' := oM z) (k' := 0) ⟨by simp, h1.2⟩
    exact this.1

theorem oE_oM (z e : Int) (h : z ≠ 0) : oE (oM z) e = e := by
  have h1 := oM_ne z h
  have := (oddOf (oM z) h1.1).unique (m' := oM z) (k' := 0) ⟨by simp, h1.2⟩
  rw [oE_ne _ _ h1.1, this.2]; simp

theorem rscaleN {w : World} {v : Value} {lo : Int} {W : Nat} {z : Int} (hv : IsDy w v (oM z) (oE z lo)) (h1 : Lvl lo W z) :
    Calls Tryd.prog 64 #[v, .int .i64 1] w fun r w' => ∃ q, r = .returned q ∧ IsDy w' q (oM (z * 2)) (oE (z * 2) lo) ∧ Below w.heap.size w w' := by
  obtain ⟨na, ao, ca, A, rfl, a1, a2, a3, a4, a5⟩ := hv.right h1.right.2
  have x1 := dRt_in h1.right.1
  have := rscale_any na ao ca A _ 1 w a1 a2 x1 (by decide)
  rw [a3, oM_oM] at this
  have hs := oM_scale z 1 lo
  rw [Int.pow_one] at hs
  rw [hs.1, hs.2]
  by_cases h0 : z = 0
  · subst h0
    rw [oM_zero, oE_zero] at *
    exact this
  · rw [oE_oM _ _ h0] at this
    have hx : oE z (lo + (1 : Nat)) = oE z lo + 1 := by rw [oE_ne _ _ h0, oE_ne _ _ h0]; omega
    rw [hx]
    exact this

theorem rnegN {w : World} {v : Value} {lo : Int} {W : Nat} {z : Int} (hv : IsDy w v (oM z) (oE z lo)) (h1 : Lvl lo W z) :
    Calls Tryd.prog 51 #[v] w fun r w' => ∃ q, r = .returned q ∧ IsDy w' q (oM (-z)) (oE (-z) lo) ∧ Below w.heap.size w w' := by
  obtain ⟨na, ao, ca, A, rfl, a1, a2, a3, a4, a5⟩ := hv.right h1.right.2
  have := rneg_any na ao ca A (oE z lo) w a1 a4
  rw [a3] at this
  have hs := oM_neg z
  rw [hs.1, hs.2]
  exact this

end Go.Proofs.YtkmkjeoblkdmnaaDoor

/- Contracts of the reference's small of a number, abs. -/
namespace Go.Proofs.YtkmkjeoblkdmnaaDoor
open Go.RowKit

theorem rsmall_num {B : Nat} {w : World} {v : Value} {z : Int} (hv : IsNum B w v z) (n : Nat) (hz : z = (n : Int)) (hn : n < 9223372036854775808) :
    Calls Tryd.prog 62 #[v] w fun e w' => e = .returned (.int .u64 n) ∧ Below w.heap.size w w' := by
  obtain ⟨ng, ao, ca, L, rfl, h1, _, h3, _, h5, _⟩ := hv
  have hval : val L = n := by rw [h5, hz]; simp
  have hl : L.length ≤ 2 := (length_le_iff L h1.2.1 h3 2).2 (by
    have : (4294967296 : Nat) ^ 2 = 18446744073709551616 := by decide
    omega)
  have hb0 : ∀ o : Obj, Below w.heap.size w (w.alloc o) := fun o => (Below.refl _ _).alloc (Nat.le_refl _) o
  match L, hl, h1, hval with
  | [], _, h1, hval =>
    have : n = 0 := by rw [← hval]; rfl
    subst this
    exact rsmall_0 ng ao ca w
  | [x], _, h1, hval =>
    have hx : x = n := by simpa [val] using hval
    subst hx
    rcases h1.2.2 with h | ⟨b, off, rfl, h2, h4⟩
    · cases h
    · have hx := h1.2.1 x (by simp)
      have c0 := h4 0 (by simp)
      rw [← (hb0 (.cells #[.bool ng, .slice (some ⟨b, off, none⟩) 1 ca] 30)).cell (p := ⟨b, off + 0, none⟩) h2] at c0
      exact rsmall_1 ng b off ca x w (by omega) (by simpa using c0)
  | [x, y], _, h1, hval =>
    have hxy : y * 4294967296 + x = n := by
      simp only [val] at hval
      omega
    rcases h1.2.2 with h | ⟨b, off, rfl, h2, h4⟩
    · cases h
    · have hx := h1.2.1 x (by simp)
      have c0 := h4 0 (by simp)
      have c1 := h4 1 (by simp)
      rw [← (hb0 (.cells #[.bool ng, .slice (some ⟨b, off, none⟩) 2 ca] 30)).cell (p := ⟨b, off + 0, none⟩) h2] at c0
      rw [← (hb0 (.cells #[.bool ng, .slice (some ⟨b, off, none⟩) 2 ca] 30)).cell (p := ⟨b, off + 1, none⟩) h2] at c1
      have := rsmall_2 ng b off ca x y w (by omega) (by omega) (by simpa using c0) (by simpa using c1)
      rw [show ((y : Int) * 4294967296 + (x : Int)) = (n : Int) by omega] at this
      exact this

set_option maxHeartbeats 2000000 in
theorem rabs_any (na : Bool) (ao : Option Addr) (ca : Nat) (A : List Nat) (E : Int) (w : World) (hA : LimbsAt w ao ca A) (la : A.length ≤ 512) :
    Calls Tryd.prog 45 #[.agg #[.bool na, .slice ao A.length ca, .int .i64 E]] w fun r w' => ∃ v, r = .returned v ∧ IsDy w' v (val A : Int) E ∧ Below w.heap.size w w' := by
  have CN := hide (fun w' h => made_any 0 false ao ca A w' h (NewAt.zero h) (by omega))
  have hs : sval false A = (val A : Int) := rfl
  rw [hs] at CN
  generalize (val A : Int) = z at *
  have hb0 : Below w.heap.size w ((w.alloc (.cells #[.bool na, .slice ao A.length ca, .int .i64 E] 32)).alloc (.cells #[.bool false, .slice none 0 0, .int .i64 0] 32)) := ((Below.refl _ _).alloc (Nat.le_refl _) _).alloc (by simp) _
  have x0 : Box3 ((w.alloc (.cells #[.bool na, .slice ao A.length ca, .int .i64 E] 32)).alloc (.cells #[.bool false, .slice none 0 0, .int .i64 0] 32)) w.heap.size (.bool na) (.slice ao A.length ca) (.int .i64 E) := (Box3.new _ _ _ _).old _
  have x2 : Box3 ((w.alloc (.cells #[.bool na, .slice ao A.length ca, .int .i64 E] 32)).alloc (.cells #[.bool false, .slice none 0 0, .int .i64 0] 32)) (w.heap.size + 1) (.bool false) (.slice none 0 0) (.int .i64 0) := by
    have := Box3.new (w.alloc (.cells #[.bool na, .slice ao A.length ca, .int .i64 E] 32)) (.bool false) (.slice none 0 0) (.int .i64 0)
    simpa using this
  have B0 := hide hb0; have X0 := hide x0; have X2 := hide x2
  clear hb0 x0 x2 hs
  go_enter Tryd.func45, Tryd.ntmps45
  go_wp2_with fail
  refine at_world (fun W => Below w.heap.size w W ∧ Box3 W w.heap.size (.bool na) (.slice ao A.length ca) (.int .i64 E) ∧ Box3 W (w.heap.size + 1) (.bool false) (.slice none 0 0) (.int .i64 0)) ⟨unhide B0, unhide X0, unhide X2⟩ ?_
  clear B0 X0 X2
  rintro W0 ⟨b0, x0, x2⟩
  have s0 : w.heap.size + 1 < W0.heap.size := x2.lt
  have hK : ∀ w', Below (w.heap.size + 1) W0 w' → Below (w.heap.size + 1) W0 w' ∧ w'.cell? ⟨w.heap.size, 0, none⟩ = some (.bool na) ∧ w'.cell? ⟨w.heap.size, 1, none⟩ = some (.slice ao A.length ca) ∧ w'.cell? ⟨w.heap.size, 2, none⟩ = some (.int .i64 E) := fun w' h =>
    ⟨h, (x0.below h (by omega)).c0, (x0.below h (by omega)).c1, (x0.below h (by omega)).c2⟩
  have HK := hide hK; have BB := hide b0; have X2 := hide x2
  clear hK b0 x0 x2
  go_region_held3 (fun w' => Below (w.heap.size + 1) W0 w' ∧ w'.cell? ⟨w.heap.size, 0, none⟩ = some (.bool na) ∧ w'.cell? ⟨w.heap.size, 1, none⟩ = some (.slice ao A.length ca) ∧ w'.cell? ⟨w.heap.size, 2, none⟩ = some (.int .i64 E))
    (first | exact unhide HK _ (Below.refl _ _).drew | exact unhide HK _ (by assumption) | exact unhide HK _ (below_put3 hB1 (by omega) _ _ _) | fail "NO KEEP")
    (first | (go_at_call 58; refine (unhide CN _ (hA.below ((unhide BB).trans ((Below.refl _ _).drew)))).mono ?_; rintro e w3 ⟨v, rfl, ⟨n4, a4, c4, L4, rfl, i4⟩, hb1⟩; have hB1 : Below (w.heap.size + 1) W0 w3 := ((Below.refl _ _).drew).trans (hb1.mono (by simp; omega)); have X4 := ((unhide X2).drew.below hb1 (by simp; omega)); have IZ := hide (show IsNum 0 w3 (.agg #[.bool n4, .slice a4 L4.length c4]) z from ⟨n4, a4, c4, L4, rfl, i4.1, i4.2.1, i4.2.2.1, i4.2.2.2.1, i4.2.2.2.2.1, by have := i4.2.2.2.2.2; omega⟩); have y0 := X4.c0; have y1 := X4.c1; have y2 := X4.c2; have f0 := X4.free 0; have f1 := X4.free 1; have f2 := X4.free 2; have X5 := hide X4; have BB1 := hide ((unhide BB).trans (hB1.mono (by omega))); clear hb1 i4 X4) | fail "NO ARM")
  go_wp2
  have j2 : IsDy w3 (.agg #[.bool n4, .slice a4 L4.length c4, .int .i64 E]) z E := ⟨n4, a4, c4, L4, rfl, unhide IZ⟩
  refine bodyPost_ret (v := .agg #[.bool n4, .slice a4 L4.length c4, .int .i64 E]) (by simp [results, Tryd.results45, go_sem, y0, y1, y2]) rfl ⟨_, rfl, j2.put3 (unhide X5) _ _ _, below_put3 (unhide BB1) (by omega) _ _ _⟩

end Go.Proofs.YtkmkjeoblkdmnaaDoor

/- Contract of the reference's Nearest, where digits are dropped: the walk. -/
namespace Go.Proofs.YtkmkjeoblkdmnaaDoor
open Go.RowKit

theorem at_thenB {K : Act → World → Prop} {Q : Exit → Act → World → Prop} {a : Act} {w : World} (F : World → Prop) (h : F w) (k : ∀ W, F W → Exit.then K Q .normal a W) : Exit.then K Q .normal a w := k w h

/-- What stands behind the rest: its box g, the number in it, the quotient's box. -/
def TailN (w : World) (g1 : Nat) (n : Bool) (a : Option Addr) (l c : Nat) (np : Bool) (ap : Option Addr) (lp cp : Nat) (q R X : Int) (g : Nat) (W : World) : Prop :=
  Below w.heap.size w W ∧ Box3 W g (.bool np) (.slice ap lp cp) (.int .i64 X) ∧ IsDy W (.agg #[.bool np, .slice ap lp cp, .int .i64 X]) R X ∧ Box2 W g1 (.bool n) (.slice a l c) ∧ IsNum 0 W (.agg #[.bool n, .slice a l c]) q

theorem IsNum.box3 {B : Nat} {w : World} {v : Value} {x : Int} (h : IsNum B w v x) {g : Nat} {y : Bool} {a : Option Addr} {n c : Nat} {k : Int} (hx : Box3 w g (.bool y) (.slice a n c) (.int .i64 k)) (u u' u'' : Value) : IsNum B (((w.setCell ⟨g, 0, none⟩ u).setCell ⟨g, 1, none⟩ u').setCell ⟨g, 2, none⟩ u'') v x := by
  obtain ⟨neg, ao, cap, L, h1, h2, h3⟩ := h
  exact ⟨neg, ao, cap, L, h1, h2.box3 hx _ _ _, h3⟩

theorem Box2.other3 {w : World} {b g : Nat} {x y : Value} (h : Box2 w b x y) (hne : b ≠ g) (u u' u'' : Value) : Box2 (((w.setCell ⟨g, 0, none⟩ u).setCell ⟨g, 1, none⟩ u').setCell ⟨g, 2, none⟩ u'') b x y :=
  ((h.other (p := ⟨g, 0, none⟩) hne u).other (p := ⟨g, 1, none⟩) hne u').other (p := ⟨g, 2, none⟩) hne u''

set_option maxHeartbeats 8000000 in
theorem near_a (ng : Bool) (ao : Option Addr) (ca l n : Nat) (E e q M X R Y R2 Y2 O Z c : Int) (w : World) (hE : -20000 ≤ E ∧ E ≤ 20000) (he : -20000 ≤ e ∧ e ≤ 20000) (hlt : decide (e ≤ E) = false) (hn : (n : Int) < 1152921504606846976) (hR : ∀ W np ap lp cp, IsDy W (.agg #[.bool np, .slice ap lp cp, .int .i64 Y]) R Y → ((lp : Int) == 0) = false)
    (CSH : ∀ w', Below w.heap.size w w' → Calls Tryd.prog 63 #[.agg #[.bool ng, .slice ao l ca], .int .i64 (E - e)] w' fun r w'' => ∃ v, r = .returned v ∧ IsNum 0 w'' v q ∧ Below w'.heap.size w' w'')
    (COF : ∀ w' v, IsNum 0 w' v q → Calls Tryd.prog 38 #[v, .int .i64 e] w' fun r w'' => ∃ u, r = .returned u ∧ IsDy w'' u M X ∧ Below w'.heap.size w' w'')
    (CSU : ∀ w' u, Below w.heap.size w w' → IsDy w' u M X → Calls Tryd.prog 49 #[.agg #[.bool ng, .slice ao l ca, .int .i64 E], u] w' fun r w'' => ∃ u, r = .returned u ∧ IsDy w'' u R Y ∧ Below w'.heap.size w' w'')
    (CSC : ∀ w' v, IsDy w' v R Y → Calls Tryd.prog 64 #[v, .int .i64 1] w' fun r w'' => ∃ u, r = .returned u ∧ IsDy w'' u R2 Y2 ∧ Below w'.heap.size w' w'')
    (CO2 : ∀ w' v, IsNumM 2 0 w' v 1 → Calls Tryd.prog 38 #[v, .int .i64 e] w' fun r w'' => ∃ u, r = .returned u ∧ IsDy w'' u O Z ∧ Below w'.heap.size w' w'')
    (CCM : ∀ w' v u, IsDy w' v R2 Y2 → IsDy w' u O Z → Calls Tryd.prog 24 #[v, u] w' fun r w'' => r = .returned (.int .i64 c) ∧ Below w'.heap.size w' w'')
    (CSM : ∀ w' v, IsNum 0 w' v q → Calls Tryd.prog 62 #[v] w' fun r w'' => r = .returned (.int .u64 n) ∧ Below w'.heap.size w' w'')
    (k1 : decide ((0 : Int) < c) = true) :
    Calls Tryd.prog 44 #[.agg #[.bool ng, .slice ao l ca, .int .i64 E], .int .i64 e] w fun r w' => r = .returned (.tuple #[.int .u64 (n + 1), .bool false]) ∧ Below w.heap.size w w' := by
  have KSH := hide CSH; have KOF := hide COF; have KSU := hide CSU; have KSC := hide CSC; have KO2 := hide CO2; have KCM := hide CCM; have KSM := hide CSM; have HR := hide hR
  clear CSH COF CSU CSC CO2 CCM CSM hR
  have w1 : IntKind.i64.wrap (E - e) = E - e := by simp only [IntKind.wrap_i64]; omega
  have hn0 : (0 : Int) ≤ n := by omega
  have B0 := hide ((Below.refl w.heap.size w).alloc (Nat.le_refl _) (.cells #[.bool ng, .slice ao l ca, .int .i64 E] 32))
  have X0 := hide (Box3.new w (.bool ng) (.slice ao l ca) (.int .i64 E))
  clear hE he
  go_enter Tryd.func44, Tryd.ntmps44
  go_wp2_with fail
  refine (unhide KSH _ (unhide B0)).mono ?_
  rintro r w1' ⟨v, rfl, hv, hb1⟩
  have b1 := (unhide B0).trans (hb1.mono (unhide B0).size)
  have x1 := (unhide X0).all hb1
  obtain ⟨n1, a1, c1, L1, rfl, i1⟩ := hv
  have hb2 : Below w1'.heap.size w1' (w1'.alloc (.cells #[.bool n1, .slice a1 L1.length c1] 30)) := (Below.refl _ _).alloc (Nat.le_refl _) _
  have F0 := hide (show Below w.heap.size w (w1'.alloc (.cells #[.bool n1, .slice a1 L1.length c1] 30)) ∧ Box3 (w1'.alloc (.cells #[.bool n1, .slice a1 L1.length c1] 30)) w.heap.size (.bool ng) (.slice ao l ca) (.int .i64 E) ∧ Box2 (w1'.alloc (.cells #[.bool n1, .slice a1 L1.length c1] 30)) w1'.heap.size (.bool n1) (.slice a1 L1.length c1) ∧ IsNum 0 (w1'.alloc (.cells #[.bool n1, .slice a1 L1.length c1] 30)) (.agg #[.bool n1, .slice a1 L1.length c1]) q from
    ⟨b1.trans (hb2.mono b1.size), x1.all hb2, Box2.new _ _ _, (show IsNum 0 w1' (.agg #[.bool n1, .slice a1 L1.length c1]) q from ⟨n1, a1, c1, L1, rfl, i1⟩).below hb2⟩)
  clear b1 hb1 x1 i1 hb2 B0 X0 KSH
  generalize L1.length = l1 at *
  go_upto_region 4 with (fail)
  refine at_world (fun W => Below w.heap.size w W ∧ Box3 W w.heap.size (.bool ng) (.slice ao l ca) (.int .i64 E) ∧ Box2 W w1'.heap.size (.bool n1) (.slice a1 l1 c1) ∧ IsNum 0 W (.agg #[.bool n1, .slice a1 l1 c1]) q) (unhide F0) ?_
  clear F0
  generalize w1'.heap.size = g1 at *
  rintro W0 ⟨b0, x0, x1, iq⟩
  have hg1 : g1 < W0.heap.size := x1.lt
  have hK : ∀ w', Below W0.heap.size W0 w' → Below W0.heap.size W0 w' ∧ w'.cell? ⟨w.heap.size, 0, none⟩ = some (.bool ng) ∧ w'.cell? ⟨w.heap.size, 1, none⟩ = some (.slice ao l ca) ∧ w'.cell? ⟨w.heap.size, 2, none⟩ = some (.int .i64 E) ∧ w'.cell? ⟨g1, 0, none⟩ = some (.bool n1) ∧ w'.cell? ⟨g1, 1, none⟩ = some (.slice a1 l1 c1) := fun w' h => ⟨h, (x0.all h).c0, (x0.all h).c1, (x0.all h).c2, (x1.all h).c0, (x1.all h).c1⟩
  have HK := hide hK
  have HKA := hide (fun wn o (h1 : Below W0.heap.size W0 wn) => unhide HK (wn.alloc o) (h1.alloc h1.size o))
  have HKS := hide (fun wn g u u' u'' (h1 : Below W0.heap.size W0 wn) (h4 : W0.heap.size ≤ g) => unhide HK (((wn.setCell ⟨g, 0, none⟩ u).setCell ⟨g, 1, none⟩ u').setCell ⟨g, 2, none⟩ u'') (below_put3 h1 h4 u u' u''))
  have BXA := hide (fun wn (h1 : Below (W0.drew.alloc (.cells #[.bool false, .slice none 0 0, .int .i64 0] 32)).heap.size (W0.drew.alloc (.cells #[.bool false, .slice none 0 0, .int .i64 0] 32)) wn) => (Box3.new W0.drew (.bool false) (.slice none 0 0) (.int .i64 0)).below h1 (by simp))
  have BXB := hide (fun wn wm (h2 : Below (wn.alloc (.cells #[.bool false, .slice none 0 0, .int .i64 0] 32)).heap.size (wn.alloc (.cells #[.bool false, .slice none 0 0, .int .i64 0] 32)) wm) => (Box3.new wn (.bool false) (.slice none 0 0) (.int .i64 0)).below h2 (by simp))
  have KOF' := hide (fun w' (h : Below W0.heap.size W0 w') => unhide KOF w' _ (iq.below h))
  have KSU' := hide (fun w' u (h : Below W0.heap.size W0 w') hu => unhide KSU w' u (b0.trans (h.mono b0.size)) hu)
  have HT := hide (fun (W : World) (g : Nat) {np : Bool} {ap : Option Addr} {lp cp : Nat} (h1 : Below W0.heap.size W0 W) (h2 : Box3 W g (.bool np) (.slice ap lp cp) (.int .i64 Y)) (h3 : IsDy W (.agg #[.bool np, .slice ap lp cp, .int .i64 Y]) R Y) =>
    (show TailN w g1 n1 a1 l1 c1 np ap lp cp q R Y g W from ⟨b0.trans (h1.mono b0.size), h2, h3, x1.all h1, iq.below h1⟩))
  clear hK b0 x0 x1 iq KOF KSU
  go_region_held3 (fun w' => Below W0.heap.size W0 w' ∧ w'.cell? ⟨w.heap.size, 0, none⟩ = some (.bool ng) ∧ w'.cell? ⟨w.heap.size, 1, none⟩ = some (.slice ao l ca) ∧ w'.cell? ⟨w.heap.size, 2, none⟩ = some (.int .i64 E) ∧ w'.cell? ⟨g1, 0, none⟩ = some (.bool n1) ∧ w'.cell? ⟨g1, 1, none⟩ = some (.slice a1 l1 c1))
    (first | assumption | exact unhide HK _ (Below.refl _ _).drew | exact unhide HK _ (by assumption) | exact unhide HKA _ _ (by assumption) | exact unhide HKA _ _ (And.left (by assumption)) | exact unhide HKS _ _ _ _ _ hBwm (by first | exact Nat.le_refl _ | exact Below.size (by assumption)) | fail "NO KEEP")
    (first | (go_at_call 38; refine (unhide KOF' _ (And.left (by assumption))).mono ?_; rintro r wa ⟨u, rfl, iu, hb1⟩; have hBwa : Below W0.heap.size W0 wa := Below.trans (And.left (by assumption)) (hb1.mono (Below.size (And.left (by assumption)))); (first | (have xb : Box3 wa W0.heap.size (.bool false) (.slice none 0 0) (.int .i64 0) := unhide BXA _ hb1) | skip); have IU := hide iu; clear iu; clear hb1) | (go_at_call 49; refine (unhide KSU' _ _ (And.left (by assumption)) (by first | exact unhide IU | exact (unhide IU).below ((Below.refl _ _).alloc (Nat.le_refl _) _))).mono ?_; rintro r wm ⟨u, rfl, ⟨np, ap, cp, Lp, rfl, jp⟩, hb1⟩; have hBwm : Below W0.heap.size W0 wm := Below.trans (And.left (by assumption)) (hb1.mono (Below.size (And.left (by assumption)))); (first | (have xb := Box3.below xb hb1 xb.lt) | (have xb := unhide BXB _ _ hb1) | skip); (first | (have kb0 := xb.c0; have kb1 := xb.c1; have kb2 := xb.c2; have gb0 := xb.free 0; have gb1 := xb.free 1; have gb2 := xb.free 2) | skip); have IP := hide (show IsDy wm (.agg #[.bool np, .slice ap Lp.length cp, .int .i64 Y]) R Y from ⟨np, ap, cp, Lp, rfl, jp⟩); clear hb1 jp) | fail "NO ARM")
  all_goals
    first
      | refine at_thenB (TailN _ _ _ _ _ _ _ _ _ _ _ _ _ W0.heap.size) (unhide HT _ _ (And.left (by assumption)) (xb.put _ _ _) ((unhide IP).put3 xb _ _ _)) ?_
      | refine at_thenB (TailN _ _ _ _ _ _ _ _ _ _ _ _ _ wa.heap.size) (unhide HT _ _ (And.left (by assumption)) (xb.put _ _ _) ((unhide IP).put3 xb _ _ _)) ?_
      | refine at_thenB (TailN _ _ _ _ _ _ _ _ _ _ _ _ _ wm.heap.size) (unhide HT _ _ (And.left (by assumption)) (Box3.new _ _ _ _) ((unhide IP).below ((Below.refl _ _).alloc (Nat.le_refl _) _))) ?_
      | fail "NO WAY"
  all_goals
    rintro W ⟨bW, xg, ir, x1, iq⟩
    have hz := unhide HR _ _ _ _ _ ir
    have IR := hide ir; have IQ := hide iq; have BW := hide bW; have X1 := hide x1; have XG := hide xg
    have kc0 := xg.c0; have kc1 := xg.c1; have kc2 := xg.c2
    try clear kb0 kb1 kb2 gb0 gb1 gb2
    try clear xb
    clear xg ir iq bW x1 HT HK HKA HKS BXA BXB KOF' KSU' IP IU hBwa hBwm HR
    try clear hg1
    generalize Lp.length = lp at *
    go_wp2_with fail
    refine (unhide KSC _ _ (unhide IR)).mono ?_
    rintro r w3 ⟨u3, rfl, i3, hb3⟩
    have I3 := hide i3
    have B3 := hide hb3
    clear i3 hb3 KSC
    go_wp2_with fail
    refine (refOf_any 1 _ (by decide) (by decide)).mono ?_
    rintro r w4 ⟨u4, rfl, i4, hb4⟩
    have I4 := hide (IsNumM.zeroB i4)
    have B4 := hide ((unhide B3).trans (hb4.mono (unhide B3).size))
    have I3' := hide ((unhide I3).below hb4)
    clear i4 hb4 I3 B3
    go_wp2_with fail
    refine (unhide KO2 _ _ (unhide I4)).mono ?_
    rintro r w5 ⟨u5, rfl, i5, hb5⟩
    have I5 := hide i5
    have B5 := hide ((unhide B4).trans (hb5.mono (unhide B4).size))
    have I3 := hide ((unhide I3').below hb5)
    clear i5 hb5 I3' B4 I4 KO2
    go_wp2_with fail
    refine (unhide KCM _ _ _ (unhide I3) (unhide I5)).mono ?_
    rintro r w6 ⟨rfl, hb6⟩
    have b6 := (unhide B5).trans (hb6.mono (unhide B5).size)
    have x1 := (unhide X1).all b6
    have IQ6 := hide ((unhide IQ).below b6)
    have XG6 := hide ((unhide XG).all b6)
    have BW6 := hide ((unhide BW).trans (b6.mono (unhide BW).size))
    clear kc0 kc1 kc2
    have q0 := x1.c0; have q1 := x1.c1
    clear x1 b6 hb6 B5 I3 I5 KCM IQ X1 XG BW IR
    go_wp2_with fail
    refine (unhide KSM _ _ (unhide IQ6)).mono ?_
    rintro r w7 ⟨rfl, hb7⟩
    have x7 := (unhide XG6).all hb7
    have BW7 := hide ((unhide BW6).trans (hb7.mono (unhide BW6).size))
    have kc0 := x7.c0; have kc1 := x7.c1; have kc2 := x7.c2
    clear x7 hb7 q0 q1 IQ6 XG6 BW6 KSM
    go_wp2
    go_quiet (fail)
    go_wp2
    exact bodyPost_ret (v := .tuple #[.int .u64 (n + 1), .bool false]) (by simp [results, Tryd.results44, go_sem]) rfl ⟨rfl, below_drewN (unhide BW7) _⟩

set_option maxHeartbeats 8000000 in
theorem near_b (ng : Bool) (ao : Option Addr) (ca l n : Nat) (E e q M X R Y R2 Y2 O Z c : Int) (w : World) (hE : -20000 ≤ E ∧ E ≤ 20000) (he : -20000 ≤ e ∧ e ≤ 20000) (hlt : decide (e ≤ E) = false) (hn : (n : Int) < 1152921504606846976) (hR : ∀ W np ap lp cp, IsDy W (.agg #[.bool np, .slice ap lp cp, .int .i64 Y]) R Y → ((lp : Int) == 0) = false)
    (CSH : ∀ w', Below w.heap.size w w' → Calls Tryd.prog 63 #[.agg #[.bool ng, .slice ao l ca], .int .i64 (E - e)] w' fun r w'' => ∃ v, r = .returned v ∧ IsNum 0 w'' v q ∧ Below w'.heap.size w' w'')
    (COF : ∀ w' v, IsNum 0 w' v q → Calls Tryd.prog 38 #[v, .int .i64 e] w' fun r w'' => ∃ u, r = .returned u ∧ IsDy w'' u M X ∧ Below w'.heap.size w' w'')
    (CSU : ∀ w' u, Below w.heap.size w w' → IsDy w' u M X → Calls Tryd.prog 49 #[.agg #[.bool ng, .slice ao l ca, .int .i64 E], u] w' fun r w'' => ∃ u, r = .returned u ∧ IsDy w'' u R Y ∧ Below w'.heap.size w' w'')
    (CSC : ∀ w' v, IsDy w' v R Y → Calls Tryd.prog 64 #[v, .int .i64 1] w' fun r w'' => ∃ u, r = .returned u ∧ IsDy w'' u R2 Y2 ∧ Below w'.heap.size w' w'')
    (CO2 : ∀ w' v, IsNumM 2 0 w' v 1 → Calls Tryd.prog 38 #[v, .int .i64 e] w' fun r w'' => ∃ u, r = .returned u ∧ IsDy w'' u O Z ∧ Below w'.heap.size w' w'')
    (CCM : ∀ w' v u, IsDy w' v R2 Y2 → IsDy w' u O Z → Calls Tryd.prog 24 #[v, u] w' fun r w'' => r = .returned (.int .i64 c) ∧ Below w'.heap.size w' w'')
    (CSM : ∀ w' v, IsNum 0 w' v q → Calls Tryd.prog 62 #[v] w' fun r w'' => r = .returned (.int .u64 n) ∧ Below w'.heap.size w' w'')
    (k1 : decide ((0 : Int) < c) = false) (k2 : (c == 0) = true) (k3 : ((n : Int) % 2 == 1) = true) :
    Calls Tryd.prog 44 #[.agg #[.bool ng, .slice ao l ca, .int .i64 E], .int .i64 e] w fun r w' => r = .returned (.tuple #[.int .u64 (n + 1), .bool false]) ∧ Below w.heap.size w w' := by
  have KSH := hide CSH; have KOF := hide COF; have KSU := hide CSU; have KSC := hide CSC; have KO2 := hide CO2; have KCM := hide CCM; have KSM := hide CSM; have HR := hide hR
  clear CSH COF CSU CSC CO2 CCM CSM hR
  have w1 : IntKind.i64.wrap (E - e) = E - e := by simp only [IntKind.wrap_i64]; omega
  have hn0 : (0 : Int) ≤ n := by omega
  have B0 := hide ((Below.refl w.heap.size w).alloc (Nat.le_refl _) (.cells #[.bool ng, .slice ao l ca, .int .i64 E] 32))
  have X0 := hide (Box3.new w (.bool ng) (.slice ao l ca) (.int .i64 E))
  clear hE he
  go_enter Tryd.func44, Tryd.ntmps44
  go_wp2_with fail
  refine (unhide KSH _ (unhide B0)).mono ?_
  rintro r w1' ⟨v, rfl, hv, hb1⟩
  have b1 := (unhide B0).trans (hb1.mono (unhide B0).size)
  have x1 := (unhide X0).all hb1
  obtain ⟨n1, a1, c1, L1, rfl, i1⟩ := hv
  have hb2 : Below w1'.heap.size w1' (w1'.alloc (.cells #[.bool n1, .slice a1 L1.length c1] 30)) := (Below.refl _ _).alloc (Nat.le_refl _) _
  have F0 := hide (show Below w.heap.size w (w1'.alloc (.cells #[.bool n1, .slice a1 L1.length c1] 30)) ∧ Box3 (w1'.alloc (.cells #[.bool n1, .slice a1 L1.length c1] 30)) w.heap.size (.bool ng) (.slice ao l ca) (.int .i64 E) ∧ Box2 (w1'.alloc (.cells #[.bool n1, .slice a1 L1.length c1] 30)) w1'.heap.size (.bool n1) (.slice a1 L1.length c1) ∧ IsNum 0 (w1'.alloc (.cells #[.bool n1, .slice a1 L1.length c1] 30)) (.agg #[.bool n1, .slice a1 L1.length c1]) q from
    ⟨b1.trans (hb2.mono b1.size), x1.all hb2, Box2.new _ _ _, (show IsNum 0 w1' (.agg #[.bool n1, .slice a1 L1.length c1]) q from ⟨n1, a1, c1, L1, rfl, i1⟩).below hb2⟩)
  clear b1 hb1 x1 i1 hb2 B0 X0 KSH
  generalize L1.length = l1 at *
  go_upto_region 4 with (fail)
  refine at_world (fun W => Below w.heap.size w W ∧ Box3 W w.heap.size (.bool ng) (.slice ao l ca) (.int .i64 E) ∧ Box2 W w1'.heap.size (.bool n1) (.slice a1 l1 c1) ∧ IsNum 0 W (.agg #[.bool n1, .slice a1 l1 c1]) q) (unhide F0) ?_
  clear F0
  generalize w1'.heap.size = g1 at *
  rintro W0 ⟨b0, x0, x1, iq⟩
  have hg1 : g1 < W0.heap.size := x1.lt
  have hK : ∀ w', Below W0.heap.size W0 w' → Below W0.heap.size W0 w' ∧ w'.cell? ⟨w.heap.size, 0, none⟩ = some (.bool ng) ∧ w'.cell? ⟨w.heap.size, 1, none⟩ = some (.slice ao l ca) ∧ w'.cell? ⟨w.heap.size, 2, none⟩ = some (.int .i64 E) ∧ w'.cell? ⟨g1, 0, none⟩ = some (.bool n1) ∧ w'.cell? ⟨g1, 1, none⟩ = some (.slice a1 l1 c1) := fun w' h => ⟨h, (x0.all h).c0, (x0.all h).c1, (x0.all h).c2, (x1.all h).c0, (x1.all h).c1⟩
  have HK := hide hK
  have HKA := hide (fun wn o (h1 : Below W0.heap.size W0 wn) => unhide HK (wn.alloc o) (h1.alloc h1.size o))
  have HKS := hide (fun wn g u u' u'' (h1 : Below W0.heap.size W0 wn) (h4 : W0.heap.size ≤ g) => unhide HK (((wn.setCell ⟨g, 0, none⟩ u).setCell ⟨g, 1, none⟩ u').setCell ⟨g, 2, none⟩ u'') (below_put3 h1 h4 u u' u''))
  have BXA := hide (fun wn (h1 : Below (W0.drew.alloc (.cells #[.bool false, .slice none 0 0, .int .i64 0] 32)).heap.size (W0.drew.alloc (.cells #[.bool false, .slice none 0 0, .int .i64 0] 32)) wn) => (Box3.new W0.drew (.bool false) (.slice none 0 0) (.int .i64 0)).below h1 (by simp))
  have BXB := hide (fun wn wm (h2 : Below (wn.alloc (.cells #[.bool false, .slice none 0 0, .int .i64 0] 32)).heap.size (wn.alloc (.cells #[.bool false, .slice none 0 0, .int .i64 0] 32)) wm) => (Box3.new wn (.bool false) (.slice none 0 0) (.int .i64 0)).below h2 (by simp))
  have KOF' := hide (fun w' (h : Below W0.heap.size W0 w') => unhide KOF w' _ (iq.below h))
  have KSU' := hide (fun w' u (h : Below W0.heap.size W0 w') hu => unhide KSU w' u (b0.trans (h.mono b0.size)) hu)
  have HT := hide (fun (W : World) (g : Nat) {np : Bool} {ap : Option Addr} {lp cp : Nat} (h1 : Below W0.heap.size W0 W) (h2 : Box3 W g (.bool np) (.slice ap lp cp) (.int .i64 Y)) (h3 : IsDy W (.agg #[.bool np, .slice ap lp cp, .int .i64 Y]) R Y) =>
    (show TailN w g1 n1 a1 l1 c1 np ap lp cp q R Y g W from ⟨b0.trans (h1.mono b0.size), h2, h3, x1.all h1, iq.below h1⟩))
  clear hK b0 x0 x1 iq KOF KSU
  go_region_held3 (fun w' => Below W0.heap.size W0 w' ∧ w'.cell? ⟨w.heap.size, 0, none⟩ = some (.bool ng) ∧ w'.cell? ⟨w.heap.size, 1, none⟩ = some (.slice ao l ca) ∧ w'.cell? ⟨w.heap.size, 2, none⟩ = some (.int .i64 E) ∧ w'.cell? ⟨g1, 0, none⟩ = some (.bool n1) ∧ w'.cell? ⟨g1, 1, none⟩ = some (.slice a1 l1 c1))
    (first | assumption | exact unhide HK _ (Below.refl _ _).drew | exact unhide HK _ (by assumption) | exact unhide HKA _ _ (by assumption) | exact unhide HKA _ _ (And.left (by assumption)) | exact unhide HKS _ _ _ _ _ hBwm (by first | exact Nat.le_refl _ | exact Below.size (by assumption)) | fail "NO KEEP")
    (first | (go_at_call 38; refine (unhide KOF' _ (And.left (by assumption))).mono ?_; rintro r wa ⟨u, rfl, iu, hb1⟩; have hBwa : Below W0.heap.size W0 wa := Below.trans (And.left (by assumption)) (hb1.mono (Below.size (And.left (by assumption)))); (first | (have xb : Box3 wa W0.heap.size (.bool false) (.slice none 0 0) (.int .i64 0) := unhide BXA _ hb1) | skip); have IU := hide iu; clear iu; clear hb1) | (go_at_call 49; refine (unhide KSU' _ _ (And.left (by assumption)) (by first | exact unhide IU | exact (unhide IU).below ((Below.refl _ _).alloc (Nat.le_refl _) _))).mono ?_; rintro r wm ⟨u, rfl, ⟨np, ap, cp, Lp, rfl, jp⟩, hb1⟩; have hBwm : Below W0.heap.size W0 wm := Below.trans (And.left (by assumption)) (hb1.mono (Below.size (And.left (by assumption)))); (first | (have xb := Box3.below xb hb1 xb.lt) | (have xb := unhide BXB _ _ hb1) | skip); (first | (have kb0 := xb.c0; have kb1 := xb.c1; have kb2 := xb.c2; have gb0 := xb.free 0; have gb1 := xb.free 1; have gb2 := xb.free 2) | skip); have IP := hide (show IsDy wm (.agg #[.bool np, .slice ap Lp.length cp, .int .i64 Y]) R Y from ⟨np, ap, cp, Lp, rfl, jp⟩); clear hb1 jp) | fail "NO ARM")
  all_goals
    first
      | refine at_thenB (TailN _ _ _ _ _ _ _ _ _ _ _ _ _ W0.heap.size) (unhide HT _ _ (And.left (by assumption)) (xb.put _ _ _) ((unhide IP).put3 xb _ _ _)) ?_
      | refine at_thenB (TailN _ _ _ _ _ _ _ _ _ _ _ _ _ wa.heap.size) (unhide HT _ _ (And.left (by assumption)) (xb.put _ _ _) ((unhide IP).put3 xb _ _ _)) ?_
      | refine at_thenB (TailN _ _ _ _ _ _ _ _ _ _ _ _ _ wm.heap.size) (unhide HT _ _ (And.left (by assumption)) (Box3.new _ _ _ _) ((unhide IP).below ((Below.refl _ _).alloc (Nat.le_refl _) _))) ?_
      | fail "NO WAY"
  all_goals
    rintro W ⟨bW, xg, ir, x1, iq⟩
    have hz := unhide HR _ _ _ _ _ ir
    have IR := hide ir; have IQ := hide iq; have BW := hide bW; have X1 := hide x1; have XG := hide xg
    have kc0 := xg.c0; have kc1 := xg.c1; have kc2 := xg.c2
    try clear kb0 kb1 kb2 gb0 gb1 gb2
    try clear xb
    clear xg ir iq bW x1 HT HK HKA HKS BXA BXB KOF' KSU' IP IU hBwa hBwm HR
    try clear hg1
    generalize Lp.length = lp at *
    go_wp2_with fail
    refine (unhide KSC _ _ (unhide IR)).mono ?_
    rintro r w3 ⟨u3, rfl, i3, hb3⟩
    have I3 := hide i3
    have B3 := hide hb3
    clear i3 hb3 KSC
    go_wp2_with fail
    refine (refOf_any 1 _ (by decide) (by decide)).mono ?_
    rintro r w4 ⟨u4, rfl, i4, hb4⟩
    have I4 := hide (IsNumM.zeroB i4)
    have B4 := hide ((unhide B3).trans (hb4.mono (unhide B3).size))
    have I3' := hide ((unhide I3).below hb4)
    clear i4 hb4 I3 B3
    go_wp2_with fail
    refine (unhide KO2 _ _ (unhide I4)).mono ?_
    rintro r w5 ⟨u5, rfl, i5, hb5⟩
    have I5 := hide i5
    have B5 := hide ((unhide B4).trans (hb5.mono (unhide B4).size))
    have I3 := hide ((unhide I3').below hb5)
    clear i5 hb5 I3' B4 I4 KO2
    go_wp2_with fail
    refine (unhide KCM _ _ _ (unhide I3) (unhide I5)).mono ?_
    rintro r w6 ⟨rfl, hb6⟩
    have b6 := (unhide B5).trans (hb6.mono (unhide B5).size)
    have x1 := (unhide X1).all b6
    have IQ6 := hide ((unhide IQ).below b6)
    have XG6 := hide ((unhide XG).all b6)
    have BW6 := hide ((unhide BW).trans (b6.mono (unhide BW).size))
    clear kc0 kc1 kc2
    have q0 := x1.c0; have q1 := x1.c1
    clear x1 b6 hb6 B5 I3 I5 KCM IQ X1 XG BW IR
    go_wp2_with fail
    refine (unhide KSM _ _ (unhide IQ6)).mono ?_
    rintro r w7 ⟨rfl, hb7⟩
    have x7 := (unhide XG6).all hb7
    have BW7 := hide ((unhide BW6).trans (hb7.mono (unhide BW6).size))
    have kc0 := x7.c0; have kc1 := x7.c1; have kc2 := x7.c2
    clear x7 hb7 q0 q1 IQ6 XG6 BW6 KSM
    go_wp2
    go_quiet (fail)
    go_wp2
    exact bodyPost_ret (v := .tuple #[.int .u64 (n + 1), .bool false]) (by simp [results, Tryd.results44, go_sem]) rfl ⟨rfl, below_drewN (unhide BW7) _⟩

set_option maxHeartbeats 8000000 in
theorem near_c (ng : Bool) (ao : Option Addr) (ca l n : Nat) (E e q M X R Y R2 Y2 O Z c : Int) (w : World) (hE : -20000 ≤ E ∧ E ≤ 20000) (he : -20000 ≤ e ∧ e ≤ 20000) (hlt : decide (e ≤ E) = false) (hn : (n : Int) < 1152921504606846976) (hR : ∀ W np ap lp cp, IsDy W (.agg #[.bool np, .slice ap lp cp, .int .i64 Y]) R Y → ((lp : Int) == 0) = false)
    (CSH : ∀ w', Below w.heap.size w w' → Calls Tryd.prog 63 #[.agg #[.bool ng, .slice ao l ca], .int .i64 (E - e)] w' fun r w'' => ∃ v, r = .returned v ∧ IsNum 0 w'' v q ∧ Below w'.heap.size w' w'')
    (COF : ∀ w' v, IsNum 0 w' v q → Calls Tryd.prog 38 #[v, .int .i64 e] w' fun r w'' => ∃ u, r = .returned u ∧ IsDy w'' u M X ∧ Below w'.heap.size w' w'')
    (CSU : ∀ w' u, Below w.heap.size w w' → IsDy w' u M X → Calls Tryd.prog 49 #[.agg #[.bool ng, .slice ao l ca, .int .i64 E], u] w' fun r w'' => ∃ u, r = .returned u ∧ IsDy w'' u R Y ∧ Below w'.heap.size w' w'')
    (CSC : ∀ w' v, IsDy w' v R Y → Calls Tryd.prog 64 #[v, .int .i64 1] w' fun r w'' => ∃ u, r = .returned u ∧ IsDy w'' u R2 Y2 ∧ Below w'.heap.size w' w'')
    (CO2 : ∀ w' v, IsNumM 2 0 w' v 1 → Calls Tryd.prog 38 #[v, .int .i64 e] w' fun r w'' => ∃ u, r = .returned u ∧ IsDy w'' u O Z ∧ Below w'.heap.size w' w'')
    (CCM : ∀ w' v u, IsDy w' v R2 Y2 → IsDy w' u O Z → Calls Tryd.prog 24 #[v, u] w' fun r w'' => r = .returned (.int .i64 c) ∧ Below w'.heap.size w' w'')
    (CSM : ∀ w' v, IsNum 0 w' v q → Calls Tryd.prog 62 #[v] w' fun r w'' => r = .returned (.int .u64 n) ∧ Below w'.heap.size w' w'')
    (k1 : decide ((0 : Int) < c) = false) (k2 : (c == 0) = true) (k3 : ((n : Int) % 2 == 1) = false) :
    Calls Tryd.prog 44 #[.agg #[.bool ng, .slice ao l ca, .int .i64 E], .int .i64 e] w fun r w' => r = .returned (.tuple #[.int .u64 (n), .bool false]) ∧ Below w.heap.size w w' := by
  have KSH := hide CSH; have KOF := hide COF; have KSU := hide CSU; have KSC := hide CSC; have KO2 := hide CO2; have KCM := hide CCM; have KSM := hide CSM; have HR := hide hR
  clear CSH COF CSU CSC CO2 CCM CSM hR
  have w1 : IntKind.i64.wrap (E - e) = E - e := by simp only [IntKind.wrap_i64]; omega
  have hn0 : (0 : Int) ≤ n := by omega
  have B0 := hide ((Below.refl w.heap.size w).alloc (Nat.le_refl _) (.cells #[.bool ng, .slice ao l ca, .int .i64 E] 32))
  have X0 := hide (Box3.new w (.bool ng) (.slice ao l ca) (.int .i64 E))
  clear hE he
  go_enter Tryd.func44, Tryd.ntmps44
  go_wp2_with fail
  refine (unhide KSH _ (unhide B0)).mono ?_
  rintro r w1' ⟨v, rfl, hv, hb1⟩
  have b1 := (unhide B0).trans (hb1.mono (unhide B0).size)
  have x1 := (unhide X0).all hb1
  obtain ⟨n1, a1, c1, L1, rfl, i1⟩ := hv
  have hb2 : Below w1'.heap.size w1' (w1'.alloc (.cells #[.bool n1, .slice a1 L1.length c1] 30)) := (Below.refl _ _).alloc (Nat.le_refl _) _
  have F0 := hide (show Below w.heap.size w (w1'.alloc (.cells #[.bool n1, .slice a1 L1.length c1] 30)) ∧ Box3 (w1'.alloc (.cells #[.bool n1, .slice a1 L1.length c1] 30)) w.heap.size (.bool ng) (.slice ao l ca) (.int .i64 E) ∧ Box2 (w1'.alloc (.cells #[.bool n1, .slice a1 L1.length c1] 30)) w1'.heap.size (.bool n1) (.slice a1 L1.length c1) ∧ IsNum 0 (w1'.alloc (.cells #[.bool n1, .slice a1 L1.length c1] 30)) (.agg #[.bool n1, .slice a1 L1.length c1]) q from
    ⟨b1.trans (hb2.mono b1.size), x1.all hb2, Box2.new _ _ _, (show IsNum 0 w1' (.agg #[.bool n1, .slice a1 L1.length c1]) q from ⟨n1, a1, c1, L1, rfl, i1⟩).below hb2⟩)
  clear b1 hb1 x1 i1 hb2 B0 X0 KSH
  generalize L1.length = l1 at *
  go_upto_region 4 with (fail)
  refine at_world (fun W => Below w.heap.size w W ∧ Box3 W w.heap.size (.bool ng) (.slice ao l ca) (.int .i64 E) ∧ Box2 W w1'.heap.size (.bool n1) (.slice a1 l1 c1) ∧ IsNum 0 W (.agg #[.bool n1, .slice a1 l1 c1]) q) (unhide F0) ?_
  clear F0
  generalize w1'.heap.size = g1 at *
  rintro W0 ⟨b0, x0, x1, iq⟩
  have hg1 : g1 < W0.heap.size := x1.lt
  have hK : ∀ w', Below W0.heap.size W0 w' → Below W0.heap.size W0 w' ∧ w'.cell? ⟨w.heap.size, 0, none⟩ = some (.bool ng) ∧ w'.cell? ⟨w.heap.size, 1, none⟩ = some (.slice ao l ca) ∧ w'.cell? ⟨w.heap.size, 2, none⟩ = some (.int .i64 E) ∧ w'.cell? ⟨g1, 0, none⟩ = some (.bool n1) ∧ w'.cell? ⟨g1, 1, none⟩ = some (.slice a1 l1 c1) := fun w' h => ⟨h, (x0.all h).c0, (x0.all h).c1, (x0.all h).c2, (x1.all h).c0, (x1.all h).c1⟩
  have HK := hide hK
  have HKA := hide (fun wn o (h1 : Below W0.heap.size W0 wn) => unhide HK (wn.alloc o) (h1.alloc h1.size o))
  have HKS := hide (fun wn g u u' u'' (h1 : Below W0.heap.size W0 wn) (h4 : W0.heap.size ≤ g) => unhide HK (((wn.setCell ⟨g, 0, none⟩ u).setCell ⟨g, 1, none⟩ u').setCell ⟨g, 2, none⟩ u'') (below_put3 h1 h4 u u' u''))
  have BXA := hide (fun wn (h1 : Below (W0.drew.alloc (.cells #[.bool false, .slice none 0 0, .int .i64 0] 32)).heap.size (W0.drew.alloc (.cells #[.bool false, .slice none 0 0, .int .i64 0] 32)) wn) => (Box3.new W0.drew (.bool false) (.slice none 0 0) (.int .i64 0)).below h1 (by simp))
  have BXB := hide (fun wn wm (h2 : Below (wn.alloc (.cells #[.bool false, .slice none 0 0, .int .i64 0] 32)).heap.size (wn.alloc (.cells #[.bool false, .slice none 0 0, .int .i64 0] 32)) wm) => (Box3.new wn (.bool false) (.slice none 0 0) (.int .i64 0)).below h2 (by simp))
  have KOF' := hide (fun w' (h : Below W0.heap.size W0 w') => unhide KOF w' _ (iq.below h))
  have KSU' := hide (fun w' u (h : Below W0.heap.size W0 w') hu => unhide KSU w' u (b0.trans (h.mono b0.size)) hu)
  have HT := hide (fun (W : World) (g : Nat) {np : Bool} {ap : Option Addr} {lp cp : Nat} (h1 : Below W0.heap.size W0 W) (h2 : Box3 W g (.bool np) (.slice ap lp cp) (.int .i64 Y)) (h3 : IsDy W (.agg #[.bool np, .slice ap lp cp, .int .i64 Y]) R Y) =>
    (show TailN w g1 n1 a1 l1 c1 np ap lp cp q R Y g W from ⟨b0.trans (h1.mono b0.size), h2, h3, x1.all h1, iq.below h1⟩))
  clear hK b0 x0 x1 iq KOF KSU
  go_region_held3 (fun w' => Below W0.heap.size W0 w' ∧ w'.cell? ⟨w.heap.size, 0, none⟩ = some (.bool ng) ∧ w'.cell? ⟨w.heap.size, 1, none⟩ = some (.slice ao l ca) ∧ w'.cell? ⟨w.heap.size, 2, none⟩ = some (.int .i64 E) ∧ w'.cell? ⟨g1, 0, none⟩ = some (.bool n1) ∧ w'.cell? ⟨g1, 1, none⟩ = some (.slice a1 l1 c1))
    (first | assumption | exact unhide HK _ (Below.refl _ _).drew | exact unhide HK _ (by assumption) | exact unhide HKA _ _ (by assumption) | exact unhide HKA _ _ (And.left (by assumption)) | exact unhide HKS _ _ _ _ _ hBwm (by first | exact Nat.le_refl _ | exact Below.size (by assumption)) | fail "NO KEEP")
    (first | (go_at_call 38; refine (unhide KOF' _ (And.left (by assumption))).mono ?_; rintro r wa ⟨u, rfl, iu, hb1⟩; have hBwa : Below W0.heap.size W0 wa := Below.trans (And.left (by assumption)) (hb1.mono (Below.size (And.left (by assumption)))); (first | (have xb : Box3 wa W0.heap.size (.bool false) (.slice none 0 0) (.int .i64 0) := unhide BXA _ hb1) | skip); have IU := hide iu; clear iu; clear hb1) | (go_at_call 49; refine (unhide KSU' _ _ (And.left (by assumption)) (by first | exact unhide IU | exact (unhide IU).below ((Below.refl _ _).alloc (Nat.le_refl _) _))).mono ?_; rintro r wm ⟨u, rfl, ⟨np, ap, cp, Lp, rfl, jp⟩, hb1⟩; have hBwm : Below W0.heap.size W0 wm := Below.trans (And.left (by assumption)) (hb1.mono (Below.size (And.left (by assumption)))); (first | (have xb := Box3.below xb hb1 xb.lt) | (have xb := unhide BXB _ _ hb1) | skip); (first | (have kb0 := xb.c0; have kb1 := xb.c1; have kb2 := xb.c2; have gb0 := xb.free 0; have gb1 := xb.free 1; have gb2 := xb.free 2) | skip); have IP := hide (show IsDy wm (.agg #[.bool np, .slice ap Lp.length cp, .int .i64 Y]) R Y from ⟨np, ap, cp, Lp, rfl, jp⟩); clear hb1 jp) | fail "NO ARM")
  all_goals
    first
      | refine at_thenB (TailN _ _ _ _ _ _ _ _ _ _ _ _ _ W0.heap.size) (unhide HT _ _ (And.left (by assumption)) (xb.put _ _ _) ((unhide IP).put3 xb _ _ _)) ?_
      | refine at_thenB (TailN _ _ _ _ _ _ _ _ _ _ _ _ _ wa.heap.size) (unhide HT _ _ (And.left (by assumption)) (xb.put _ _ _) ((unhide IP).put3 xb _ _ _)) ?_
      | refine at_thenB (TailN _ _ _ _ _ _ _ _ _ _ _ _ _ wm.heap.size) (unhide HT _ _ (And.left (by assumption)) (Box3.new _ _ _ _) ((unhide IP).below ((Below.refl _ _).alloc (Nat.le_refl _) _))) ?_
      | fail "NO WAY"
  all_goals
    rintro W ⟨bW, xg, ir, x1, iq⟩
    have hz := unhide HR _ _ _ _ _ ir
    have IR := hide ir; have IQ := hide iq; have BW := hide bW; have X1 := hide x1; have XG := hide xg
    have kc0 := xg.c0; have kc1 := xg.c1; have kc2 := xg.c2
    try clear kb0 kb1 kb2 gb0 gb1 gb2
    try clear xb
    clear xg ir iq bW x1 HT HK HKA HKS BXA BXB KOF' KSU' IP IU hBwa hBwm HR
    try clear hg1
    generalize Lp.length = lp at *
    go_wp2_with fail
    refine (unhide KSC _ _ (unhide IR)).mono ?_
    rintro r w3 ⟨u3, rfl, i3, hb3⟩
    have I3 := hide i3
    have B3 := hide hb3
    clear i3 hb3 KSC
    go_wp2_with fail
    refine (refOf_any 1 _ (by decide) (by decide)).mono ?_
    rintro r w4 ⟨u4, rfl, i4, hb4⟩
    have I4 := hide (IsNumM.zeroB i4)
    have B4 := hide ((unhide B3).trans (hb4.mono (unhide B3).size))
    have I3' := hide ((unhide I3).below hb4)
    clear i4 hb4 I3 B3
    go_wp2_with fail
    refine (unhide KO2 _ _ (unhide I4)).mono ?_
    rintro r w5 ⟨u5, rfl, i5, hb5⟩
    have I5 := hide i5
    have B5 := hide ((unhide B4).trans (hb5.mono (unhide B4).size))
    have I3 := hide ((unhide I3').below hb5)
    clear i5 hb5 I3' B4 I4 KO2
    go_wp2_with fail
    refine (unhide KCM _ _ _ (unhide I3) (unhide I5)).mono ?_
    rintro r w6 ⟨rfl, hb6⟩
    have b6 := (unhide B5).trans (hb6.mono (unhide B5).size)
    have x1 := (unhide X1).all b6
    have IQ6 := hide ((unhide IQ).below b6)
    have XG6 := hide ((unhide XG).all b6)
    have BW6 := hide ((unhide BW).trans (b6.mono (unhide BW).size))
    clear kc0 kc1 kc2
    have q0 := x1.c0; have q1 := x1.c1
    clear x1 b6 hb6 B5 I3 I5 KCM IQ X1 XG BW IR
    go_wp2_with fail
    refine (unhide KSM _ _ (unhide IQ6)).mono ?_
    rintro r w7 ⟨rfl, hb7⟩
    have x7 := (unhide XG6).all hb7
    have BW7 := hide ((unhide BW6).trans (hb7.mono (unhide BW6).size))
    have kc0 := x7.c0; have kc1 := x7.c1; have kc2 := x7.c2
    clear x7 hb7 q0 q1 IQ6 XG6 BW6 KSM
    go_wp2
    go_quiet (fail)
    go_wp2
    exact bodyPost_ret (v := .tuple #[.int .u64 (n), .bool false]) (by simp [results, Tryd.results44, go_sem]) rfl ⟨rfl, below_drewN (unhide BW7) _⟩

set_option maxHeartbeats 8000000 in
theorem near_d (ng : Bool) (ao : Option Addr) (ca l n : Nat) (E e q M X R Y R2 Y2 O Z c : Int) (w : World) (hE : -20000 ≤ E ∧ E ≤ 20000) (he : -20000 ≤ e ∧ e ≤ 20000) (hlt : decide (e ≤ E) = false) (hn : (n : Int) < 1152921504606846976) (hR : ∀ W np ap lp cp, IsDy W (.agg #[.bool np, .slice ap lp cp, .int .i64 Y]) R Y → ((lp : Int) == 0) = false)
    (CSH : ∀ w', Below w.heap.size w w' → Calls Tryd.prog 63 #[.agg #[.bool ng, .slice ao l ca], .int .i64 (E - e)] w' fun r w'' => ∃ v, r = .returned v ∧ IsNum 0 w'' v q ∧ Below w'.heap.size w' w'')
    (COF : ∀ w' v, IsNum 0 w' v q → Calls Tryd.prog 38 #[v, .int .i64 e] w' fun r w'' => ∃ u, r = .returned u ∧ IsDy w'' u M X ∧ Below w'.heap.size w' w'')
    (CSU : ∀ w' u, Below w.heap.size w w' → IsDy w' u M X → Calls Tryd.prog 49 #[.agg #[.bool ng, .slice ao l ca, .int .i64 E], u] w' fun r w'' => ∃ u, r = .returned u ∧ IsDy w'' u R Y ∧ Below w'.heap.size w' w'')
    (CSC : ∀ w' v, IsDy w' v R Y → Calls Tryd.prog 64 #[v, .int .i64 1] w' fun r w'' => ∃ u, r = .returned u ∧ IsDy w'' u R2 Y2 ∧ Below w'.heap.size w' w'')
    (CO2 : ∀ w' v, IsNumM 2 0 w' v 1 → Calls Tryd.prog 38 #[v, .int .i64 e] w' fun r w'' => ∃ u, r = .returned u ∧ IsDy w'' u O Z ∧ Below w'.heap.size w' w'')
    (CCM : ∀ w' v u, IsDy w' v R2 Y2 → IsDy w' u O Z → Calls Tryd.prog 24 #[v, u] w' fun r w'' => r = .returned (.int .i64 c) ∧ Below w'.heap.size w' w'')
    (CSM : ∀ w' v, IsNum 0 w' v q → Calls Tryd.prog 62 #[v] w' fun r w'' => r = .returned (.int .u64 n) ∧ Below w'.heap.size w' w'')
    (k1 : decide ((0 : Int) < c) = false) (k2 : (c == 0) = false) :
    Calls Tryd.prog 44 #[.agg #[.bool ng, .slice ao l ca, .int .i64 E], .int .i64 e] w fun r w' => r = .returned (.tuple #[.int .u64 (n), .bool false]) ∧ Below w.heap.size w w' := by
  have KSH := hide CSH; have KOF := hide COF; have KSU := hide CSU; have KSC := hide CSC; have KO2 := hide CO2; have KCM := hide CCM; have KSM := hide CSM; have HR := hide hR
  clear CSH COF CSU CSC CO2 CCM CSM hR
  have w1 : IntKind.i64.wrap (E - e) = E - e := by simp only [IntKind.wrap_i64]; omega
  have hn0 : (0 : Int) ≤ n := by omega
  have B0 := hide ((Below.refl w.heap.size w).alloc (Nat.le_refl _) (.cells #[.bool ng, .slice ao l ca, .int .i64 E] 32))
  have X0 := hide (Box3.new w (.bool ng) (.slice ao l ca) (.int .i64 E))
  clear hE he
  go_enter Tryd.func44, Tryd.ntmps44
  go_wp2_with fail
  refine (unhide KSH _ (unhide B0)).mono ?_
  rintro r w1' ⟨v, rfl, hv, hb1⟩
  have b1 := (unhide B0).trans (hb1.mono (unhide B0).size)
  have x1 := (unhide X0).all hb1
  obtain ⟨n1, a1, c1, L1, rfl, i1⟩ := hv
  have hb2 : Below w1'.heap.size w1' (w1'.alloc (.cells #[.bool n1, .slice a1 L1.length c1] 30)) := (Below.refl _ _).alloc (Nat.le_refl _) _
  have F0 := hide (show Below w.heap.size w (w1'.alloc (.cells #[.bool n1, .slice a1 L1.length c1] 30)) ∧ Box3 (w1'.alloc (.cells #[.bool n1, .slice a1 L1.length c1] 30)) w.heap.size (.bool ng) (.slice ao l ca) (.int .i64 E) ∧ Box2 (w1'.alloc (.cells #[.bool n1, .slice a1 L1.length c1] 30)) w1'.heap.size (.bool n1) (.slice a1 L1.length c1) ∧ IsNum 0 (w1'.alloc (.cells #[.bool n1, .slice a1 L1.length c1] 30)) (.agg #[.bool n1, .slice a1 L1.length c1]) q from
    ⟨b1.trans (hb2.mono b1.size), x1.all hb2, Box2.new _ _ _, (show IsNum 0 w1' (.agg #[.bool n1, .slice a1 L1.length c1]) q from ⟨n1, a1, c1, L1, rfl, i1⟩).below hb2⟩)
  clear b1 hb1 x1 i1 hb2 B0 X0 KSH
  generalize L1.length = l1 at *
  go_upto_region 4 with (fail)
  refine at_world (fun W => Below w.heap.size w W ∧ Box3 W w.heap.size (.bool ng) (.slice ao l ca) (.int .i64 E) ∧ Box2 W w1'.heap.size (.bool n1) (.slice a1 l1 c1) ∧ IsNum 0 W (.agg #[.bool n1, .slice a1 l1 c1]) q) (unhide F0) ?_
  clear F0
  generalize w1'.heap.size = g1 at *
  rintro W0 ⟨b0, x0, x1, iq⟩
  have hg1 : g1 < W0.heap.size := x1.lt
  have hK : ∀ w', Below W0.heap.size W0 w' → Below W0.heap.size W0 w' ∧ w'.cell? ⟨w.heap.size, 0, none⟩ = some (.bool ng) ∧ w'.cell? ⟨w.heap.size, 1, none⟩ = some (.slice ao l ca) ∧ w'.cell? ⟨w.heap.size, 2, none⟩ = some (.int .i64 E) ∧ w'.cell? ⟨g1, 0, none⟩ = some (.bool n1) ∧ w'.cell? ⟨g1, 1, none⟩ = some (.slice a1 l1 c1) := fun w' h => ⟨h, (x0.all h).c0, (x0.all h).c1, (x0.all h).c2, (x1.all h).c0, (x1.all h).c1⟩
  have HK := hide hK
  have HKA := hide (fun wn o (h1 : Below W0.heap.size W0 wn) => unhide HK (wn.alloc o) (h1.alloc h1.size o))
  have HKS := hide (fun wn g u u' u'' (h1 : Below W0.heap.size W0 wn) (h4 : W0.heap.size ≤ g) => unhide HK (((wn.setCell ⟨g, 0, none⟩ u).setCell ⟨g, 1, none⟩ u').setCell ⟨g, 2, none⟩ u'') (below_put3 h1 h4 u u' u''))
  have BXA := hide (fun wn (h1 : Below (W0.drew.alloc (.cells #[.bool false, .slice none 0 0, .int .i64 0] 32)).heap.size (W0.drew.alloc (.cells #[.bool false, .slice none 0 0, .int .i64 0] 32)) wn) => (Box3.new W0.drew (.bool false) (.slice none 0 0) (.int .i64 0)).below h1 (by simp))
  have BXB := hide (fun wn wm (h2 : Below (wn.alloc (.cells #[.bool false, .slice none 0 0, .int .i64 0] 32)).heap.size (wn.alloc (.cells #[.bool false, .slice none 0 0, .int .i64 0] 32)) wm) => (Box3.new wn (.bool false) (.slice none 0 0) (.int .i64 0)).below h2 (by simp))
  have KOF' := hide (fun w' (h : Below W0.heap.size W0 w') => unhide KOF w' _ (iq.below h))
  have KSU' := hide (fun w' u (h : Below W0.heap.size W0 w') hu => unhide KSU w' u (b0.trans (h.mono b0.size)) hu)
  have HT := hide (fun (W : World) (g : Nat) {np : Bool} {ap : Option Addr} {lp cp : Nat} (h1 : Below W0.heap.size W0 W) (h2 : Box3 W g (.bool np) (.slice ap lp cp) (.int .i64 Y)) (h3 : IsDy W (.agg #[.bool np, .slice ap lp cp, .int .i64 Y]) R Y) =>
    (show TailN w g1 n1 a1 l1 c1 np ap lp cp q R Y g W from ⟨b0.trans (h1.mono b0.size), h2, h3, x1.all h1, iq.below h1⟩))
  clear hK b0 x0 x1 iq KOF KSU
  go_region_held3 (fun w' => Below W0.heap.size W0 w' ∧ w'.cell? ⟨w.heap.size, 0, none⟩ = some (.bool ng) ∧ w'.cell? ⟨w.heap.size, 1, none⟩ = some (.slice ao l ca) ∧ w'.cell? ⟨w.heap.size, 2, none⟩ = some (.int .i64 E) ∧ w'.cell? ⟨g1, 0, none⟩ = some (.bool n1) ∧ w'.cell? ⟨g1, 1, none⟩ = some (.slice a1 l1 c1))
    (first | assumption | exact unhide HK _ (Below.refl _ _).drew | exact unhide HK _ (by assumption) | exact unhide HKA _ _ (by assumption) | exact unhide HKA _ _ (And.left (by assumption)) | exact unhide HKS _ _ _ _ _ hBwm (by first | exact Nat.le_refl _ | exact Below.size (by assumption)) | fail "NO KEEP")
    (first | (go_at_call 38; refine (unhide KOF' _ (And.left (by assumption))).mono ?_; rintro r wa ⟨u, rfl, iu, hb1⟩; have hBwa : Below W0.heap.size W0 wa := Below.trans (And.left (by assumption)) (hb1.mono (Below.size (And.left (by assumption)))); (first | (have xb : Box3 wa W0.heap.size (.bool false) (.slice none 0 0) (.int .i64 0) := unhide BXA _ hb1) | skip); have IU := hide iu; clear iu; clear hb1) | (go_at_call 49; refine (unhide KSU' _ _ (And.left (by assumption)) (by first | exact unhide IU | exact (unhide IU).below ((Below.refl _ _).alloc (Nat.le_refl _) _))).mono ?_; rintro r wm ⟨u, rfl, ⟨np, ap, cp, Lp, rfl, jp⟩, hb1⟩; have hBwm : Below W0.heap.size W0 wm := Below.trans (And.left (by assumption)) (hb1.mono (Below.size (And.left (by assumption)))); (first | (have xb := Box3.below xb hb1 xb.lt) | (have xb := unhide BXB _ _ hb1) | skip); (first | (have kb0 := xb.c0; have kb1 := xb.c1; have kb2 := xb.c2; have gb0 := xb.free 0; have gb1 := xb.free 1; have gb2 := xb.free 2) | skip); have IP := hide (show IsDy wm (.agg #[.bool np, .slice ap Lp.length cp, .int .i64 Y]) R Y from ⟨np, ap, cp, Lp, rfl, jp⟩); clear hb1 jp) | fail "NO ARM")
  all_goals
    first
      | refine at_thenB (TailN _ _ _ _ _ _ _ _ _ _ _ _ _ W0.heap.size) (unhide HT _ _ (And.left (by assumption)) (xb.put _ _ _) ((unhide IP).put3 xb _ _ _)) ?_
      | refine at_thenB (TailN _ _ _ _ _ _ _ _ _ _ _ _ _ wa.heap.size) (unhide HT _ _ (And.left (by assumption)) (xb.put _ _ _) ((unhide IP).put3 xb _ _ _)) ?_
      | refine at_thenB (TailN _ _ _ _ _ _ _ _ _ _ _ _ _ wm.heap.size) (unhide HT _ _ (And.left (by assumption)) (Box3.new _ _ _ _) ((unhide IP).below ((Below.refl _ _).alloc (Nat.le_refl _) _))) ?_
      | fail "NO WAY"
  all_goals
    rintro W ⟨bW, xg, ir, x1, iq⟩
    have hz := unhide HR _ _ _ _ _ ir
    have IR := hide ir; have IQ := hide iq; have BW := hide bW; have X1 := hide x1; have XG := hide xg
    have kc0 := xg.c0; have kc1 := xg.c1; have kc2 := xg.c2
    try clear kb0 kb1 kb2 gb0 gb1 gb2
    try clear xb
    clear xg ir iq bW x1 HT HK HKA HKS BXA BXB KOF' KSU' IP IU hBwa hBwm HR
    try clear hg1
    generalize Lp.length = lp at *
    go_wp2_with fail
    refine (unhide KSC _ _ (unhide IR)).mono ?_
    rintro r w3 ⟨u3, rfl, i3, hb3⟩
    have I3 := hide i3
    have B3 := hide hb3
    clear i3 hb3 KSC
    go_wp2_with fail
    refine (refOf_any 1 _ (by decide) (by decide)).mono ?_
    rintro r w4 ⟨u4, rfl, i4, hb4⟩
    have I4 := hide (IsNumM.zeroB i4)
    have B4 := hide ((unhide B3).trans (hb4.mono (unhide B3).size))
    have I3' := hide ((unhide I3).below hb4)
    clear i4 hb4 I3 B3
    go_wp2_with fail
    refine (unhide KO2 _ _ (unhide I4)).mono ?_
    rintro r w5 ⟨u5, rfl, i5, hb5⟩
    have I5 := hide i5
    have B5 := hide ((unhide B4).trans (hb5.mono (unhide B4).size))
    have I3 := hide ((unhide I3').below hb5)
    clear i5 hb5 I3' B4 I4 KO2
    go_wp2_with fail
    refine (unhide KCM _ _ _ (unhide I3) (unhide I5)).mono ?_
    rintro r w6 ⟨rfl, hb6⟩
    have b6 := (unhide B5).trans (hb6.mono (unhide B5).size)
    have x1 := (unhide X1).all b6
    have IQ6 := hide ((unhide IQ).below b6)
    have XG6 := hide ((unhide XG).all b6)
    have BW6 := hide ((unhide BW).trans (b6.mono (unhide BW).size))
    clear kc0 kc1 kc2
    have q0 := x1.c0; have q1 := x1.c1
    clear x1 b6 hb6 B5 I3 I5 KCM IQ X1 XG BW IR
    go_wp2_with fail
    refine (unhide KSM _ _ (unhide IQ6)).mono ?_
    rintro r w7 ⟨rfl, hb7⟩
    have x7 := (unhide XG6).all hb7
    have BW7 := hide ((unhide BW6).trans (hb7.mono (unhide BW6).size))
    have kc0 := x7.c0; have kc1 := x7.c1; have kc2 := x7.c2
    clear x7 hb7 q0 q1 IQ6 XG6 BW6 KSM
    go_wp2
    go_quiet (fail)
    go_wp2
    exact bodyPost_ret (v := .tuple #[.int .u64 (n), .bool false]) (by simp [results, Tryd.results44, go_sem]) rfl ⟨rfl, below_drewN (unhide BW7) _⟩

end Go.Proofs.YtkmkjeoblkdmnaaDoor

/- The law's distance, walked. -/
namespace Go.Proofs.YtkmkjeoblkdmnaaDoor
open Go.RowKit

theorem IsDy.sign {w : World} {n : Bool} {a : Option Addr} {l c : Nat} {X M Y : Int} (h : IsDy w (.agg #[.bool n, .slice a l c, .int .i64 X]) M Y) : n = decide (M < 0) := by
  obtain ⟨n', a', c', L', e1, _, _, e4, _⟩ := h.parts
  simp only [Value.agg.injEq, Array.mk.injEq, List.cons.injEq, Value.bool.injEq] at e1
  rw [e1.1]; exact e4

set_option maxHeartbeats 8000000 in
theorem dist_op (na : Bool) (ao : Option Addr) (ca l b : Nat) (E t MB XB M X : Int) (w : World) (g1 : decide (t < -2000) = false) (hM : decide (M < 0) = false)
    (CV : ∀ w', Calls Tryd.prog 20 #[.int .u64 b] w' fun r w'' => ∃ u, r = .returned u ∧ IsDy w'' u MB XB ∧ Below w'.heap.size w' w'')
    (CT : ∀ w', Below w.heap.size w w' → Calls Tryd.prog 26 #[.agg #[.bool na, .slice ao l ca, .int .i64 E]] w' fun r w'' => r = .returned (.int .i64 t) ∧ Below w'.heap.size w' w'')
    (CSU : ∀ w' u, Below w.heap.size w w' → IsDy w' u MB XB → Calls Tryd.prog 49 #[.agg #[.bool na, .slice ao l ca, .int .i64 E], u] w' fun r w'' => ∃ q, r = .returned q ∧ IsDy w'' q M X ∧ Below w'.heap.size w' w'') :
    Calls Tryd.prog 27 #[.agg #[.bool na, .slice ao l ca, .int .i64 E], .int .u64 b] w fun r w' => ∃ v, r = .returned v ∧ IsDy w' v M X ∧ Below w.heap.size w w' := by
  have KV := hide CV; have KT := hide CT; have KSU := hide CSU
  clear CV CT CSU
  have hb0 : Below w.heap.size w ((w.alloc (.cells #[.bool na, .slice ao l ca, .int .i64 E] 32)).alloc (.cells #[.bool false, .slice none 0 0, .int .i64 0] 32)) := ((Below.refl _ _).alloc (Nat.le_refl _) _).alloc (by simp) _
  have x0 : Box3 ((w.alloc (.cells #[.bool na, .slice ao l ca, .int .i64 E] 32)).alloc (.cells #[.bool false, .slice none 0 0, .int .i64 0] 32)) w.heap.size (.bool na) (.slice ao l ca) (.int .i64 E) := (Box3.new _ _ _ _).old _
  have z0 : Box3 ((w.alloc (.cells #[.bool na, .slice ao l ca, .int .i64 E] 32)).alloc (.cells #[.bool false, .slice none 0 0, .int .i64 0] 32)) (w.heap.size + 1) (.bool false) (.slice none 0 0) (.int .i64 0) := by
    have := Box3.new (w.alloc (.cells #[.bool na, .slice ao l ca, .int .i64 E] 32)) (.bool false) (.slice none 0 0) (.int .i64 0)
    simpa using this
  have B0 := hide hb0; have X0 := hide x0; have Z0 := hide z0
  clear hb0 x0 z0
  go_enter Tryd.func27, Tryd.ntmps27
  go_wp2_with fail
  refine (unhide KV _).mono ?_
  rintro r w1 ⟨u, rfl, hu, hb1⟩
  obtain ⟨n1, a1, c1, L1, rfl, i1⟩ := hu
  have hb2 : Below w1.heap.size w1 (w1.alloc (.cells #[.bool n1, .slice a1 L1.length c1, .int .i64 XB] 32)) := (Below.refl _ _).alloc (Nat.le_refl _) _
  have hg : w.heap.size + 1 < w1.heap.size := by have := ((unhide Z0).all hb1).lt; omega
  have F0 := hide (show Below w.heap.size w (w1.alloc (.cells #[.bool n1, .slice a1 L1.length c1, .int .i64 XB] 32)) ∧ Box3 (w1.alloc (.cells #[.bool n1, .slice a1 L1.length c1, .int .i64 XB] 32)) w.heap.size (.bool na) (.slice ao l ca) (.int .i64 E) ∧ Box3 (w1.alloc (.cells #[.bool n1, .slice a1 L1.length c1, .int .i64 XB] 32)) (w.heap.size + 1) (.bool false) (.slice none 0 0) (.int .i64 0) ∧ Box3 (w1.alloc (.cells #[.bool n1, .slice a1 L1.length c1, .int .i64 XB] 32)) w1.heap.size (.bool n1) (.slice a1 L1.length c1) (.int .i64 XB) ∧ IsDy (w1.alloc (.cells #[.bool n1, .slice a1 L1.length c1, .int .i64 XB] 32)) (.agg #[.bool n1, .slice a1 L1.length c1, .int .i64 XB]) MB XB from
    ⟨((unhide B0).trans (hb1.mono (unhide B0).size)).trans (hb2.mono ((unhide B0).trans (hb1.mono (unhide B0).size)).size), ((unhide X0).all hb1).all hb2, ((unhide Z0).all hb1).all hb2, Box3.new _ _ _ _, (show IsDy w1 (.agg #[.bool n1, .slice a1 L1.length c1, .int .i64 XB]) MB XB from ⟨n1, a1, c1, L1, rfl, i1⟩).below hb2⟩)
  clear hb1 hb2 i1 B0 X0 Z0 KV
  generalize L1.length = l1 at *
  go_upto_region 2 with (fail)
  refine at_world (fun W => Below w.heap.size w W ∧ Box3 W w.heap.size (.bool na) (.slice ao l ca) (.int .i64 E) ∧ Box3 W (w.heap.size + 1) (.bool false) (.slice none 0 0) (.int .i64 0) ∧ Box3 W w1.heap.size (.bool n1) (.slice a1 l1 c1) (.int .i64 XB) ∧ IsDy W (.agg #[.bool n1, .slice a1 l1 c1, .int .i64 XB]) MB XB) (unhide F0) ?_
  clear F0
  generalize w1.heap.size = g1' at *
  rintro W1 ⟨b1, x1, z1, v1, i1⟩
  have y0 := x1.c0; have y1 := x1.c1; have y2 := x1.c2
  have B1 := hide b1; have X1 := hide x1; have Z1 := hide z1; have V1 := hide v1; have I1 := hide i1
  clear b1 x1 z1 v1 i1
  go_wp2_with fail
  refine (unhide KT _ (unhide B1)).mono ?_
  rintro r w2 ⟨rfl, hb2⟩
  have b2 := (unhide B1).trans (hb2.mono (unhide B1).size)
  have x2 := (unhide X1).all hb2; have z2 := (unhide Z1).all hb2; have v2 := (unhide V1).all hb2; have i2 := (unhide I1).below hb2
  clear y0 y1 y2 B1 X1 Z1 V1 I1 KT hb2
  have y0 := x2.c0; have y1 := x2.c1; have y2 := x2.c2; have f0 := x2.free 0; have f1 := x2.free 1; have f2 := x2.free 2
  have F3 := hide (show Below w.heap.size w w2 ∧ Box3 w2 w.heap.size (.bool na) (.slice ao l ca) (.int .i64 E) ∧ Box3 w2 (w.heap.size + 1) (.bool false) (.slice none 0 0) (.int .i64 0) ∧ Box3 w2 g1' (.bool n1) (.slice a1 l1 c1) (.int .i64 XB) ∧ IsDy w2 (.agg #[.bool n1, .slice a1 l1 c1, .int .i64 XB]) MB XB from ⟨b2, x2, z2, v2, i2⟩)
  clear b2 x2 z2 v2 i2
  go_upto_region 4 with (fail)
  refine at_world (fun W => Below w.heap.size w W ∧ Box3 W w.heap.size (.bool na) (.slice ao l ca) (.int .i64 E) ∧ Box3 W (w.heap.size + 1) (.bool false) (.slice none 0 0) (.int .i64 0) ∧ Box3 W g1' (.bool n1) (.slice a1 l1 c1) (.int .i64 XB) ∧ IsDy W (.agg #[.bool n1, .slice a1 l1 c1, .int .i64 XB]) MB XB) (unhide F3) ?_
  clear F3 y0 y1 y2 f0 f1 f2
  rintro W3 ⟨b3, x3, z3, v3, i3⟩
  have y0 := x3.c0; have y1 := x3.c1; have y2 := x3.c2; have u0 := v3.c0; have u1 := v3.c1; have u2 := v3.c2
  have B3 := hide b3; have Z3 := hide z3; have I3 := hide i3
  clear b3 x3 z3 v3 i3
  go_wp2_with fail
  refine (unhide KSU _ _ (unhide B3) (unhide I3)).mono ?_
  rintro r w4 ⟨q, rfl, hq, hb4⟩
  obtain ⟨n5, a5, c5, L5, rfl, j5⟩ := hq
  have hq' : IsDy w4 (.agg #[.bool n5, .slice a5 L5.length c5, .int .i64 X]) M X := ⟨n5, a5, c5, L5, rfl, j5⟩
  have hn5 := hq'.sign
  rw [hM] at hn5
  subst hn5
  have hb5 : Below w4.heap.size w4 (w4.alloc (.cells #[.bool false, .slice a5 L5.length c5, .int .i64 X] 32)) := (Below.refl _ _).alloc (Nat.le_refl _) _
  have b4 := (unhide B3).trans (hb4.mono (unhide B3).size)
  have F5 := hide (show Below w.heap.size w (w4.alloc (.cells #[.bool false, .slice a5 L5.length c5, .int .i64 X] 32)) ∧ Box3 (w4.alloc (.cells #[.bool false, .slice a5 L5.length c5, .int .i64 X] 32)) (w.heap.size + 1) (.bool false) (.slice none 0 0) (.int .i64 0) ∧ Box3 (w4.alloc (.cells #[.bool false, .slice a5 L5.length c5, .int .i64 X] 32)) w4.heap.size (.bool false) (.slice a5 L5.length c5) (.int .i64 X) ∧ IsDy (w4.alloc (.cells #[.bool false, .slice a5 L5.length c5, .int .i64 X] 32)) (.agg #[.bool false, .slice a5 L5.length c5, .int .i64 X]) M X from
    ⟨b4.trans (hb5.mono b4.size), ((unhide Z3).all hb4).all hb5, Box3.new _ _ _ _, hq'.below hb5⟩)
  clear hb4 hb5 b4 B3 Z3 I3 hq' j5 y0 y1 y2 u0 u1 u2 KSU hM
  generalize L5.length = l5 at *
  go_upto_region 5 with (fail)
  refine at_world (fun W => Below w.heap.size w W ∧ Box3 W (w.heap.size + 1) (.bool false) (.slice none 0 0) (.int .i64 0) ∧ Box3 W w4.heap.size (.bool false) (.slice a5 l5 c5) (.int .i64 X) ∧ IsDy W (.agg #[.bool false, .slice a5 l5 c5, .int .i64 X]) M X) (unhide F5) ?_
  clear F5
  generalize w4.heap.size = g4 at *
  rintro W5 ⟨b5, z5, v5, i5⟩
  have y0 := v5.c0; have y1 := v5.c1; have y2 := v5.c2
  have B5 := hide b5; have Z5 := hide z5; have I5 := hide i5
  have z0 := z5.c0; have z1 := z5.c1; have z2 := z5.c2; have f0 := z5.free 0; have f1 := z5.free 1; have f2 := z5.free 2
  clear b5 z5 v5 i5
  go_wp2
  exact bodyPost_ret (v := .agg #[.bool false, .slice a5 l5 c5, .int .i64 X]) (by simp [results, Tryd.results27, go_sem, z0, z1, z2]) rfl ⟨_, rfl, (unhide I5).put3 (unhide Z5) _ _ _, below_put3 (unhide B5) (by omega) _ _ _⟩

set_option maxHeartbeats 8000000 in
theorem dist_on (na : Bool) (ao : Option Addr) (ca l b : Nat) (E t MB XB M X MR XR : Int) (w : World) (g1 : decide (t < -2000) = false) (hM : decide (M < 0) = true)
    (CV : ∀ w', Calls Tryd.prog 20 #[.int .u64 b] w' fun r w'' => ∃ u, r = .returned u ∧ IsDy w'' u MB XB ∧ Below w'.heap.size w' w'')
    (CT : ∀ w', Below w.heap.size w w' → Calls Tryd.prog 26 #[.agg #[.bool na, .slice ao l ca, .int .i64 E]] w' fun r w'' => r = .returned (.int .i64 t) ∧ Below w'.heap.size w' w'')
    (CSU : ∀ w' u, Below w.heap.size w w' → IsDy w' u MB XB → Calls Tryd.prog 49 #[.agg #[.bool na, .slice ao l ca, .int .i64 E], u] w' fun r w'' => ∃ q, r = .returned q ∧ IsDy w'' q M X ∧ Below w'.heap.size w' w'')
    (CNG : ∀ w' v, IsDy w' v M X → Calls Tryd.prog 51 #[v] w' fun r w'' => ∃ q, r = .returned q ∧ IsDy w'' q MR XR ∧ Below w'.heap.size w' w'') :
    Calls Tryd.prog 27 #[.agg #[.bool na, .slice ao l ca, .int .i64 E], .int .u64 b] w fun r w' => ∃ v, r = .returned v ∧ IsDy w' v MR XR ∧ Below w.heap.size w w' := by
  have KV := hide CV; have KT := hide CT; have KSU := hide CSU
  clear CV CT CSU
  have KNG := hide CNG
  clear CNG
  have hb0 : Below w.heap.size w ((w.alloc (.cells #[.bool na, .slice ao l ca, .int .i64 E] 32)).alloc (.cells #[.bool false, .slice none 0 0, .int .i64 0] 32)) := ((Below.refl _ _).alloc (Nat.le_refl _) _).alloc (by simp) _
  have x0 : Box3 ((w.alloc (.cells #[.bool na, .slice ao l ca, .int .i64 E] 32)).alloc (.cells #[.bool false, .slice none 0 0, .int .i64 0] 32)) w.heap.size (.bool na) (.slice ao l ca) (.int .i64 E) := (Box3.new _ _ _ _).old _
  have z0 : Box3 ((w.alloc (.cells #[.bool na, .slice ao l ca, .int .i64 E] 32)).alloc (.cells #[.bool false, .slice none 0 0, .int .i64 0] 32)) (w.heap.size + 1) (.bool false) (.slice none 0 0) (.int .i64 0) := by
    have := Box3.new (w.alloc (.cells #[.bool na, .slice ao l ca, .int .i64 E] 32)) (.bool false) (.slice none 0 0) (.int .i64 0)
    simpa using this
  have B0 := hide hb0; have X0 := hide x0; have Z0 := hide z0
  clear hb0 x0 z0
  go_enter Tryd.func27, Tryd.ntmps27
  go_wp2_with fail
  refine (unhide KV _).mono ?_
  rintro r w1 ⟨u, rfl, hu, hb1⟩
  obtain ⟨n1, a1, c1, L1, rfl, i1⟩ := hu
  have hb2 : Below w1.heap.size w1 (w1.alloc (.cells #[.bool n1, .slice a1 L1.length c1, .int .i64 XB] 32)) := (Below.refl _ _).alloc (Nat.le_refl _) _
  have hg : w.heap.size + 1 < w1.heap.size := by have := ((unhide Z0).all hb1).lt; omega
  have F0 := hide (show Below w.heap.size w (w1.alloc (.cells #[.bool n1, .slice a1 L1.length c1, .int .i64 XB] 32)) ∧ Box3 (w1.alloc (.cells #[.bool n1, .slice a1 L1.length c1, .int .i64 XB] 32)) w.heap.size (.bool na) (.slice ao l ca) (.int .i64 E) ∧ Box3 (w1.alloc (.cells #[.bool n1, .slice a1 L1.length c1, .int .i64 XB] 32)) (w.heap.size + 1) (.bool false) (.slice none 0 0) (.int .i64 0) ∧ Box3 (w1.alloc (.cells #[.bool n1, .slice a1 L1.length c1, .int .i64 XB] 32)) w1.heap.size (.bool n1) (.slice a1 L1.length c1) (.int .i64 XB) ∧ IsDy (w1.alloc (.cells #[.bool n1, .slice a1 L1.length c1, .int .i64 XB] 32)) (.agg #[.bool n1, .slice a1 L1.length c1, .int .i64 XB]) MB XB from
    ⟨((unhide B0).trans (hb1.mono (unhide B0).size)).trans (hb2.mono ((unhide B0).trans (hb1.mono (unhide B0).size)).size), ((unhide X0).all hb1).all hb2, ((unhide Z0).all hb1).all hb2, Box3.new _ _ _ _, (show IsDy w1 (.agg #[.bool n1, .slice a1 L1.length c1, .int .i64 XB]) MB XB from ⟨n1, a1, c1, L1, rfl, i1⟩).below hb2⟩)
  clear hb1 hb2 i1 B0 X0 Z0 KV
  generalize L1.length = l1 at *
  go_upto_region 2 with (fail)
  refine at_world (fun W => Below w.heap.size w W ∧ Box3 W w.heap.size (.bool na) (.slice ao l ca) (.int .i64 E) ∧ Box3 W (w.heap.size + 1) (.bool false) (.slice none 0 0) (.int .i64 0) ∧ Box3 W w1.heap.size (.bool n1) (.slice a1 l1 c1) (.int .i64 XB) ∧ IsDy W (.agg #[.bool n1, .slice a1 l1 c1, .int .i64 XB]) MB XB) (unhide F0) ?_
  clear F0
  generalize w1.heap.size = g1' at *
  rintro W1 ⟨b1, x1, z1, v1, i1⟩
  have y0 := x1.c0; have y1 := x1.c1; have y2 := x1.c2
  have B1 := hide b1; have X1 := hide x1; have Z1 := hide z1; have V1 := hide v1; have I1 := hide i1
  clear b1 x1 z1 v1 i1
  go_wp2_with fail
  refine (unhide KT _ (unhide B1)).mono ?_
  rintro r w2 ⟨rfl, hb2⟩
  have b2 := (unhide B1).trans (hb2.mono (unhide B1).size)
  have x2 := (unhide X1).all hb2; have z2 := (unhide Z1).all hb2; have v2 := (unhide V1).all hb2; have i2 := (unhide I1).below hb2
  clear y0 y1 y2 B1 X1 Z1 V1 I1 KT hb2
  have y0 := x2.c0; have y1 := x2.c1; have y2 := x2.c2; have f0 := x2.free 0; have f1 := x2.free 1; have f2 := x2.free 2
  have F3 := hide (show Below w.heap.size w w2 ∧ Box3 w2 w.heap.size (.bool na) (.slice ao l ca) (.int .i64 E) ∧ Box3 w2 (w.heap.size + 1) (.bool false) (.slice none 0 0) (.int .i64 0) ∧ Box3 w2 g1' (.bool n1) (.slice a1 l1 c1) (.int .i64 XB) ∧ IsDy w2 (.agg #[.bool n1, .slice a1 l1 c1, .int .i64 XB]) MB XB from ⟨b2, x2, z2, v2, i2⟩)
  clear b2 x2 z2 v2 i2
  go_upto_region 4 with (fail)
  refine at_world (fun W => Below w.heap.size w W ∧ Box3 W w.heap.size (.bool na) (.slice ao l ca) (.int .i64 E) ∧ Box3 W (w.heap.size + 1) (.bool false) (.slice none 0 0) (.int .i64 0) ∧ Box3 W g1' (.bool n1) (.slice a1 l1 c1) (.int .i64 XB) ∧ IsDy W (.agg #[.bool n1, .slice a1 l1 c1, .int .i64 XB]) MB XB) (unhide F3) ?_
  clear F3 y0 y1 y2 f0 f1 f2
  rintro W3 ⟨b3, x3, z3, v3, i3⟩
  have y0 := x3.c0; have y1 := x3.c1; have y2 := x3.c2; have u0 := v3.c0; have u1 := v3.c1; have u2 := v3.c2
  have B3 := hide b3; have Z3 := hide z3; have I3 := hide i3
  clear b3 x3 z3 v3 i3
  go_wp2_with fail
  refine (unhide KSU _ _ (unhide B3) (unhide I3)).mono ?_
  rintro r w4 ⟨q, rfl, hq, hb4⟩
  obtain ⟨n5, a5, c5, L5, rfl, j5⟩ := hq
  have hq' : IsDy w4 (.agg #[.bool n5, .slice a5 L5.length c5, .int .i64 X]) M X := ⟨n5, a5, c5, L5, rfl, j5⟩
  have hn5 := hq'.sign
  rw [hM] at hn5
  subst hn5
  have hb5 : Below w4.heap.size w4 (w4.alloc (.cells #[.bool true, .slice a5 L5.length c5, .int .i64 X] 32)) := (Below.refl _ _).alloc (Nat.le_refl _) _
  have b4 := (unhide B3).trans (hb4.mono (unhide B3).size)
  have F5 := hide (show Below w.heap.size w (w4.alloc (.cells #[.bool true, .slice a5 L5.length c5, .int .i64 X] 32)) ∧ Box3 (w4.alloc (.cells #[.bool true, .slice a5 L5.length c5, .int .i64 X] 32)) (w.heap.size + 1) (.bool false) (.slice none 0 0) (.int .i64 0) ∧ Box3 (w4.alloc (.cells #[.bool true, .slice a5 L5.length c5, .int .i64 X] 32)) w4.heap.size (.bool true) (.slice a5 L5.length c5) (.int .i64 X) ∧ IsDy (w4.alloc (.cells #[.bool true, .slice a5 L5.length c5, .int .i64 X] 32)) (.agg #[.bool true, .slice a5 L5.length c5, .int .i64 X]) M X from
    ⟨b4.trans (hb5.mono b4.size), ((unhide Z3).all hb4).all hb5, Box3.new _ _ _ _, hq'.below hb5⟩)
  clear hb4 hb5 b4 B3 Z3 I3 hq' j5 y0 y1 y2 u0 u1 u2 KSU hM
  generalize L5.length = l5 at *
  go_upto_region 5 with (fail)
  refine at_world (fun W => Below w.heap.size w W ∧ Box3 W (w.heap.size + 1) (.bool false) (.slice none 0 0) (.int .i64 0) ∧ Box3 W w4.heap.size (.bool true) (.slice a5 l5 c5) (.int .i64 X) ∧ IsDy W (.agg #[.bool true, .slice a5 l5 c5, .int .i64 X]) M X) (unhide F5) ?_
  clear F5
  generalize w4.heap.size = g4 at *
  rintro W5 ⟨b5, z5, v5, i5⟩
  have y0 := v5.c0; have y1 := v5.c1; have y2 := v5.c2
  have B5 := hide b5; have Z5 := hide z5; have I5 := hide i5
  clear b5 z5 v5 i5
  go_wp2_with fail
  refine (unhide KNG _ _ (unhide I5)).mono ?_
  rintro r w6 ⟨q, rfl, hq, hb6⟩
  obtain ⟨n7, a7, c7, L7, rfl, j7⟩ := hq
  have z6 := (unhide Z5).all hb6
  have I6 := hide (show IsDy w6 (.agg #[.bool n7, .slice a7 L7.length c7, .int .i64 XR]) MR XR from ⟨n7, a7, c7, L7, rfl, j7⟩)
  have B6 := hide ((unhide B5).trans (hb6.mono (unhide B5).size)); have Z6 := hide z6
  clear y0 y1 y2
  have y0 := z6.c0; have y1 := z6.c1; have y2 := z6.c2; have f0 := z6.free 0; have f1 := z6.free 1; have f2 := z6.free 2
  clear z6 hb6 j7 B5 Z5 I5 KNG
  go_wp2
  exact bodyPost_ret (v := .agg #[.bool n7, .slice a7 L7.length c7, .int .i64 XR]) (by simp [results, Tryd.results27, go_sem, y0, y1, y2]) rfl ⟨_, rfl, (unhide I6).put3 (unhide Z6) _ _ _, below_put3 (unhide B6) (by omega) _ _ _⟩

set_option maxHeartbeats 8000000 in
theorem dist_tp (na : Bool) (ao : Option Addr) (ca l b : Nat) (E t MB XB M X : Int) (w : World) (g1 : decide (t < -2000) = true) (hM : decide (M < 0) = false)
    (CV : ∀ w', Calls Tryd.prog 20 #[.int .u64 b] w' fun r w'' => ∃ u, r = .returned u ∧ IsDy w'' u MB XB ∧ Below w'.heap.size w' w'')
    (CT : ∀ w', Below w.heap.size w w' → Calls Tryd.prog 26 #[.agg #[.bool na, .slice ao l ca, .int .i64 E]] w' fun r w'' => r = .returned (.int .i64 t) ∧ Below w'.heap.size w' w'')
    (CSU : ∀ w' u, Below w.heap.size w w' → IsDy w' u MB XB → Calls Tryd.prog 49 #[.agg #[.bool false, .slice none 0 0, .int .i64 0], u] w' fun r w'' => ∃ q, r = .returned q ∧ IsDy w'' q M X ∧ Below w'.heap.size w' w'') :
    Calls Tryd.prog 27 #[.agg #[.bool na, .slice ao l ca, .int .i64 E], .int .u64 b] w fun r w' => ∃ v, r = .returned v ∧ IsDy w' v M X ∧ Below w.heap.size w w' := by
  have KV := hide CV; have KT := hide CT; have KSU := hide CSU
  clear CV CT CSU
  have hb0 : Below w.heap.size w ((w.alloc (.cells #[.bool na, .slice ao l ca, .int .i64 E] 32)).alloc (.cells #[.bool false, .slice none 0 0, .int .i64 0] 32)) := ((Below.refl _ _).alloc (Nat.le_refl _) _).alloc (by simp) _
  have x0 : Box3 ((w.alloc (.cells #[.bool na, .slice ao l ca, .int .i64 E] 32)).alloc (.cells #[.bool false, .slice none 0 0, .int .i64 0] 32)) w.heap.size (.bool na) (.slice ao l ca) (.int .i64 E) := (Box3.new _ _ _ _).old _
  have z0 : Box3 ((w.alloc (.cells #[.bool na, .slice ao l ca, .int .i64 E] 32)).alloc (.cells #[.bool false, .slice none 0 0, .int .i64 0] 32)) (w.heap.size + 1) (.bool false) (.slice none 0 0) (.int .i64 0) := by
    have := Box3.new (w.alloc (.cells #[.bool na, .slice ao l ca, .int .i64 E] 32)) (.bool false) (.slice none 0 0) (.int .i64 0)
    simpa using this
  have B0 := hide hb0; have X0 := hide x0; have Z0 := hide z0
  clear hb0 x0 z0
  go_enter Tryd.func27, Tryd.ntmps27
  go_wp2_with fail
  refine (unhide KV _).mono ?_
  rintro r w1 ⟨u, rfl, hu, hb1⟩
  obtain ⟨n1, a1, c1, L1, rfl, i1⟩ := hu
  have hb2 : Below w1.heap.size w1 (w1.alloc (.cells #[.bool n1, .slice a1 L1.length c1, .int .i64 XB] 32)) := (Below.refl _ _).alloc (Nat.le_refl _) _
  have hg : w.heap.size + 1 < w1.heap.size := by have := ((unhide Z0).all hb1).lt; omega
  have F0 := hide (show Below w.heap.size w (w1.alloc (.cells #[.bool n1, .slice a1 L1.length c1, .int .i64 XB] 32)) ∧ Box3 (w1.alloc (.cells #[.bool n1, .slice a1 L1.length c1, .int .i64 XB] 32)) w.heap.size (.bool na) (.slice ao l ca) (.int .i64 E) ∧ Box3 (w1.alloc (.cells #[.bool n1, .slice a1 L1.length c1, .int .i64 XB] 32)) (w.heap.size + 1) (.bool false) (.slice none 0 0) (.int .i64 0) ∧ Box3 (w1.alloc (.cells #[.bool n1, .slice a1 L1.length c1, .int .i64 XB] 32)) w1.heap.size (.bool n1) (.slice a1 L1.length c1) (.int .i64 XB) ∧ IsDy (w1.alloc (.cells #[.bool n1, .slice a1 L1.length c1, .int .i64 XB] 32)) (.agg #[.bool n1, .slice a1 L1.length c1, .int .i64 XB]) MB XB from
    ⟨((unhide B0).trans (hb1.mono (unhide B0).size)).trans (hb2.mono ((unhide B0).trans (hb1.mono (unhide B0).size)).size), ((unhide X0).all hb1).all hb2, ((unhide Z0).all hb1).all hb2, Box3.new _ _ _ _, (show IsDy w1 (.agg #[.bool n1, .slice a1 L1.length c1, .int .i64 XB]) MB XB from ⟨n1, a1, c1, L1, rfl, i1⟩).below hb2⟩)
  clear hb1 hb2 i1 B0 X0 Z0 KV
  generalize L1.length = l1 at *
  go_upto_region 2 with (fail)
  refine at_world (fun W => Below w.heap.size w W ∧ Box3 W w.heap.size (.bool na) (.slice ao l ca) (.int .i64 E) ∧ Box3 W (w.heap.size + 1) (.bool false) (.slice none 0 0) (.int .i64 0) ∧ Box3 W w1.heap.size (.bool n1) (.slice a1 l1 c1) (.int .i64 XB) ∧ IsDy W (.agg #[.bool n1, .slice a1 l1 c1, .int .i64 XB]) MB XB) (unhide F0) ?_
  clear F0
  generalize w1.heap.size = g1' at *
  rintro W1 ⟨b1, x1, z1, v1, i1⟩
  have y0 := x1.c0; have y1 := x1.c1; have y2 := x1.c2
  have B1 := hide b1; have X1 := hide x1; have Z1 := hide z1; have V1 := hide v1; have I1 := hide i1
  clear b1 x1 z1 v1 i1
  go_wp2_with fail
  refine (unhide KT _ (unhide B1)).mono ?_
  rintro r w2 ⟨rfl, hb2⟩
  have b2 := (unhide B1).trans (hb2.mono (unhide B1).size)
  have x2 := (unhide X1).all hb2; have z2 := (unhide Z1).all hb2; have v2 := (unhide V1).all hb2; have i2 := (unhide I1).below hb2
  clear y0 y1 y2 B1 X1 Z1 V1 I1 KT hb2
  have y0 := x2.c0; have y1 := x2.c1; have y2 := x2.c2; have f0 := x2.free 0; have f1 := x2.free 1; have f2 := x2.free 2
  have F3 := hide (show Below w.heap.size w (((w2.setCell ⟨w.heap.size, 0, none⟩ (.bool false)).setCell ⟨w.heap.size, 1, none⟩ (.slice none 0 0)).setCell ⟨w.heap.size, 2, none⟩ (.int .i64 0)) ∧ Box3 (((w2.setCell ⟨w.heap.size, 0, none⟩ (.bool false)).setCell ⟨w.heap.size, 1, none⟩ (.slice none 0 0)).setCell ⟨w.heap.size, 2, none⟩ (.int .i64 0)) w.heap.size (.bool false) (.slice none 0 0) (.int .i64 0) ∧ Box3 (((w2.setCell ⟨w.heap.size, 0, none⟩ (.bool false)).setCell ⟨w.heap.size, 1, none⟩ (.slice none 0 0)).setCell ⟨w.heap.size, 2, none⟩ (.int .i64 0)) (w.heap.size + 1) (.bool false) (.slice none 0 0) (.int .i64 0) ∧ Box3 (((w2.setCell ⟨w.heap.size, 0, none⟩ (.bool false)).setCell ⟨w.heap.size, 1, none⟩ (.slice none 0 0)).setCell ⟨w.heap.size, 2, none⟩ (.int .i64 0)) g1' (.bool n1) (.slice a1 l1 c1) (.int .i64 XB) ∧ IsDy (((w2.setCell ⟨w.heap.size, 0, none⟩ (.bool false)).setCell ⟨w.heap.size, 1, none⟩ (.slice none 0 0)).setCell ⟨w.heap.size, 2, none⟩ (.int .i64 0)) (.agg #[.bool n1, .slice a1 l1 c1, .int .i64 XB]) MB XB from
    ⟨below_put3 b2 (Nat.le_refl _) _ _ _, x2.put _ _ _, ((z2.other (by simp) _).other (by simp) _).other (by simp) _, ((v2.other (by simp; omega) _).other (by simp; omega) _).other (by simp; omega) _, i2.put3 x2 _ _ _⟩)
  clear b2 x2 z2 v2 i2
  go_upto_region 4 with (fail)
  refine at_world (fun W => Below w.heap.size w W ∧ Box3 W w.heap.size (.bool false) (.slice none 0 0) (.int .i64 0) ∧ Box3 W (w.heap.size + 1) (.bool false) (.slice none 0 0) (.int .i64 0) ∧ Box3 W g1' (.bool n1) (.slice a1 l1 c1) (.int .i64 XB) ∧ IsDy W (.agg #[.bool n1, .slice a1 l1 c1, .int .i64 XB]) MB XB) (unhide F3) ?_
  clear F3 y0 y1 y2 f0 f1 f2
  rintro W3 ⟨b3, x3, z3, v3, i3⟩
  have y0 := x3.c0; have y1 := x3.c1; have y2 := x3.c2; have u0 := v3.c0; have u1 := v3.c1; have u2 := v3.c2
  have B3 := hide b3; have Z3 := hide z3; have I3 := hide i3
  clear b3 x3 z3 v3 i3
  go_wp2_with fail
  refine (unhide KSU _ _ (unhide B3) (unhide I3)).mono ?_
  rintro r w4 ⟨q, rfl, hq, hb4⟩
  obtain ⟨n5, a5, c5, L5, rfl, j5⟩ := hq
  have hq' : IsDy w4 (.agg #[.bool n5, .slice a5 L5.length c5, .int .i64 X]) M X := ⟨n5, a5, c5, L5, rfl, j5⟩
  have hn5 := hq'.sign
  rw [hM] at hn5
  subst hn5
  have hb5 : Below w4.heap.size w4 (w4.alloc (.cells #[.bool false, .slice a5 L5.length c5, .int .i64 X] 32)) := (Below.refl _ _).alloc (Nat.le_refl _) _
  have b4 := (unhide B3).trans (hb4.mono (unhide B3).size)
  have F5 := hide (show Below w.heap.size w (w4.alloc (.cells #[.bool false, .slice a5 L5.length c5, .int .i64 X] 32)) ∧ Box3 (w4.alloc (.cells #[.bool false, .slice a5 L5.length c5, .int .i64 X] 32)) (w.heap.size + 1) (.bool false) (.slice none 0 0) (.int .i64 0) ∧ Box3 (w4.alloc (.cells #[.bool false, .slice a5 L5.length c5, .int .i64 X] 32)) w4.heap.size (.bool false) (.slice a5 L5.length c5) (.int .i64 X) ∧ IsDy (w4.alloc (.cells #[.bool false, .slice a5 L5.length c5, .int .i64 X] 32)) (.agg #[.bool false, .slice a5 L5.length c5, .int .i64 X]) M X from
    ⟨b4.trans (hb5.mono b4.size), ((unhide Z3).all hb4).all hb5, Box3.new _ _ _ _, hq'.below hb5⟩)
  clear hb4 hb5 b4 B3 Z3 I3 hq' j5 y0 y1 y2 u0 u1 u2 KSU hM
  generalize L5.length = l5 at *
  go_upto_region 5 with (fail)
  refine at_world (fun W => Below w.heap.size w W ∧ Box3 W (w.heap.size + 1) (.bool false) (.slice none 0 0) (.int .i64 0) ∧ Box3 W w4.heap.size (.bool false) (.slice a5 l5 c5) (.int .i64 X) ∧ IsDy W (.agg #[.bool false, .slice a5 l5 c5, .int .i64 X]) M X) (unhide F5) ?_
  clear F5
  generalize w4.heap.size = g4 at *
  rintro W5 ⟨b5, z5, v5, i5⟩
  have y0 := v5.c0; have y1 := v5.c1; have y2 := v5.c2
  have B5 := hide b5; have Z5 := hide z5; have I5 := hide i5
  have z0 := z5.c0; have z1 := z5.c1; have z2 := z5.c2; have f0 := z5.free 0; have f1 := z5.free 1; have f2 := z5.free 2
  clear b5 z5 v5 i5
  go_wp2
  exact bodyPost_ret (v := .agg #[.bool false, .slice a5 l5 c5, .int .i64 X]) (by simp [results, Tryd.results27, go_sem, z0, z1, z2]) rfl ⟨_, rfl, (unhide I5).put3 (unhide Z5) _ _ _, below_put3 (unhide B5) (by omega) _ _ _⟩

set_option maxHeartbeats 8000000 in
theorem dist_tn (na : Bool) (ao : Option Addr) (ca l b : Nat) (E t MB XB M X MR XR : Int) (w : World) (g1 : decide (t < -2000) = true) (hM : decide (M < 0) = true)
    (CV : ∀ w', Calls Tryd.prog 20 #[.int .u64 b] w' fun r w'' => ∃ u, r = .returned u ∧ IsDy w'' u MB XB ∧ Below w'.heap.size w' w'')
    (CT : ∀ w', Below w.heap.size w w' → Calls Tryd.prog 26 #[.agg #[.bool na, .slice ao l ca, .int .i64 E]] w' fun r w'' => r = .returned (.int .i64 t) ∧ Below w'.heap.size w' w'')
    (CSU : ∀ w' u, Below w.heap.size w w' → IsDy w' u MB XB → Calls Tryd.prog 49 #[.agg #[.bool false, .slice none 0 0, .int .i64 0], u] w' fun r w'' => ∃ q, r = .returned q ∧ IsDy w'' q M X ∧ Below w'.heap.size w' w'')
    (CNG : ∀ w' v, IsDy w' v M X → Calls Tryd.prog 51 #[v] w' fun r w'' => ∃ q, r = .returned q ∧ IsDy w'' q MR XR ∧ Below w'.heap.size w' w'') :
    Calls Tryd.prog 27 #[.agg #[.bool na, .slice ao l ca, .int .i64 E], .int .u64 b] w fun r w' => ∃ v, r = .returned v ∧ IsDy w' v MR XR ∧ Below w.heap.size w w' := by
  have KV := hide CV; have KT := hide CT; have KSU := hide CSU
  clear CV CT CSU
  have KNG := hide CNG
  clear CNG
  have hb0 : Below w.heap.size w ((w.alloc (.cells #[.bool na, .slice ao l ca, .int .i64 E] 32)).alloc (.cells #[.bool false, .slice none 0 0, .int .i64 0] 32)) := ((Below.refl _ _).alloc (Nat.le_refl _) _).alloc (by simp) _
  have x0 : Box3 ((w.alloc (.cells #[.bool na, .slice ao l ca, .int .i64 E] 32)).alloc (.cells #[.bool false, .slice none 0 0, .int .i64 0] 32)) w.heap.size (.bool na) (.slice ao l ca) (.int .i64 E) := (Box3.new _ _ _ _).old _
  have z0 : Box3 ((w.alloc (.cells #[.bool na, .slice ao l ca, .int .i64 E] 32)).alloc (.cells #[.bool false, .slice none 0 0, .int .i64 0] 32)) (w.heap.size + 1) (.bool false) (.slice none 0 0) (.int .i64 0) := by
    have := Box3.new (w.alloc (.cells #[.bool na, .slice ao l ca, .int .i64 E] 32)) (.bool false) (.slice none 0 0) (.int .i64 0)
    simpa using this
  have B0 := hide hb0; have X0 := hide x0; have Z0 := hide z0
  clear hb0 x0 z0
  go_enter Tryd.func27, Tryd.ntmps27
  go_wp2_with fail
  refine (unhide KV _).mono ?_
  rintro r w1 ⟨u, rfl, hu, hb1⟩
  obtain ⟨n1, a1, c1, L1, rfl, i1⟩ := hu
  have hb2 : Below w1.heap.size w1 (w1.alloc (.cells #[.bool n1, .slice a1 L1.length c1, .int .i64 XB] 32)) := (Below.refl _ _).alloc (Nat.le_refl _) _
  have hg : w.heap.size + 1 < w1.heap.size := by have := ((unhide Z0).all hb1).lt; omega
  have F0 := hide (show Below w.heap.size w (w1.alloc (.cells #[.bool n1, .slice a1 L1.length c1, .int .i64 XB] 32)) ∧ Box3 (w1.alloc (.cells #[.bool n1, .slice a1 L1.length c1, .int .i64 XB] 32)) w.heap.size (.bool na) (.slice ao l ca) (.int .i64 E) ∧ Box3 (w1.alloc (.cells #[.bool n1, .slice a1 L1.length c1, .int .i64 XB] 32)) (w.heap.size + 1) (.bool false) (.slice none 0 0) (.int .i64 0) ∧ Box3 (w1.alloc (.cells #[.bool n1, .slice a1 L1.length c1, .int .i64 XB] 32)) w1.heap.size (.bool n1) (.slice a1 L1.length c1) (.int .i64 XB) ∧ IsDy (w1.alloc (.cells #[.bool n1, .slice a1 L1.length c1, .int .i64 XB] 32)) (.agg #[.bool n1, .slice a1 L1.length c1, .int .i64 XB]) MB XB from
    ⟨((unhide B0).trans (hb1.mono (unhide B0).size)).trans (hb2.mono ((unhide B0).trans (hb1.mono (unhide B0).size)).size), ((unhide X0).all hb1).all hb2, ((unhide Z0).all hb1).all hb2, Box3.new _ _ _ _, (show IsDy w1 (.agg #[.bool n1, .slice a1 L1.length c1, .int .i64 XB]) MB XB from ⟨n1, a1, c1, L1, rfl, i1⟩).below hb2⟩)
  clear hb1 hb2 i1 B0 X0 Z0 KV
  generalize L1.length = l1 at *
  go_upto_region 2 with (fail)
  refine at_world (fun W => Below w.heap.size w W ∧ Box3 W w.heap.size (.bool na) (.slice ao l ca) (.int .i64 E) ∧ Box3 W (w.heap.size + 1) (.bool false) (.slice none 0 0) (.int .i64 0) ∧ Box3 W w1.heap.size (.bool n1) (.slice a1 l1 c1) (.int .i64 XB) ∧ IsDy W (.agg #[.bool n1, .slice a1 l1 c1, .int .i64 XB]) MB XB) (unhide F0) ?_
  clear F0
  generalize w1.heap.size = g1' at *
  rintro W1 ⟨b1, x1, z1, v1, i1⟩
  have y0 := x1.c0; have y1 := x1.c1; have y2 := x1.c2
  have B1 := hide b1; have X1 := hide x1; have Z1 := hide z1; have V1 := hide v1; have I1 := hide i1
  clear b1 x1 z1 v1 i1
  go_wp2_with fail
  refine (unhide KT _ (unhide B1)).mono ?_
  rintro r w2 ⟨rfl, hb2⟩
  have b2 := (unhide B1).trans (hb2.mono (unhide B1).size)
  have x2 := (unhide X1).all hb2; have z2 := (unhide Z1).all hb2; have v2 := (unhide V1).all hb2; have i2 := (unhide I1).below hb2
  clear y0 y1 y2 B1 X1 Z1 V1 I1 KT hb2
  have y0 := x2.c0; have y1 := x2.c1; have y2 := x2.c2; have f0 := x2.free 0; have f1 := x2.free 1; have f2 := x2.free 2
  have F3 := hide (show Below w.heap.size w (((w2.setCell ⟨w.heap.size, 0, none⟩ (.bool false)).setCell ⟨w.heap.size, 1, none⟩ (.slice none 0 0)).setCell ⟨w.heap.size, 2, none⟩ (.int .i64 0)) ∧ Box3 (((w2.setCell ⟨w.heap.size, 0, none⟩ (.bool false)).setCell ⟨w.heap.size, 1, none⟩ (.slice none 0 0)).setCell ⟨w.heap.size, 2, none⟩ (.int .i64 0)) w.heap.size (.bool false) (.slice none 0 0) (.int .i64 0) ∧ Box3 (((w2.setCell ⟨w.heap.size, 0, none⟩ (.bool false)).setCell ⟨w.heap.size, 1, none⟩ (.slice none 0 0)).setCell ⟨w.heap.size, 2, none⟩ (.int .i64 0)) (w.heap.size + 1) (.bool false) (.slice none 0 0) (.int .i64 0) ∧ Box3 (((w2.setCell ⟨w.heap.size, 0, none⟩ (.bool false)).setCell ⟨w.heap.size, 1, none⟩ (.slice none 0 0)).setCell ⟨w.heap.size, 2, none⟩ (.int .i64 0)) g1' (.bool n1) (.slice a1 l1 c1) (.int .i64 XB) ∧ IsDy (((w2.setCell ⟨w.heap.size, 0, none⟩ (.bool false)).setCell ⟨w.heap.size, 1, none⟩ (.slice none 0 0)).setCell ⟨w.heap.size, 2, none⟩ (.int .i64 0)) (.agg #[.bool n1, .slice a1 l1 c1, .int .i64 XB]) MB XB from
    ⟨below_put3 b2 (Nat.le_refl _) _ _ _, x2.put _ _ _, ((z2.other (by simp) _).other (by simp) _).other (by simp) _, ((v2.other (by simp; omega) _).other (by simp; omega) _).other (by simp; omega) _, i2.put3 x2 _ _ _⟩)
  clear b2 x2 z2 v2 i2
  go_upto_region 4 with (fail)
  refine at_world (fun W => Below w.heap.size w W ∧ Box3 W w.heap.size (.bool false) (.slice none 0 0) (.int .i64 0) ∧ Box3 W (w.heap.size + 1) (.bool false) (.slice none 0 0) (.int .i64 0) ∧ Box3 W g1' (.bool n1) (.slice a1 l1 c1) (.int .i64 XB) ∧ IsDy W (.agg #[.bool n1, .slice a1 l1 c1, .int .i64 XB]) MB XB) (unhide F3) ?_
  clear F3 y0 y1 y2 f0 f1 f2
  rintro W3 ⟨b3, x3, z3, v3, i3⟩
  have y0 := x3.c0; have y1 := x3.c1; have y2 := x3.c2; have u0 := v3.c0; have u1 := v3.c1; have u2 := v3.c2
  have B3 := hide b3; have Z3 := hide z3; have I3 := hide i3
  clear b3 x3 z3 v3 i3
  go_wp2_with fail
  refine (unhide KSU _ _ (unhide B3) (unhide I3)).mono ?_
  rintro r w4 ⟨q, rfl, hq, hb4⟩
  obtain ⟨n5, a5, c5, L5, rfl, j5⟩ := hq
  have hq' : IsDy w4 (.agg #[.bool n5, .slice a5 L5.length c5, .int .i64 X]) M X := ⟨n5, a5, c5, L5, rfl, j5⟩
  have hn5 := hq'.sign
  rw [hM] at hn5
  subst hn5
  have hb5 : Below w4.heap.size w4 (w4.alloc (.cells #[.bool true, .slice a5 L5.length c5, .int .i64 X] 32)) := (Below.refl _ _).alloc (Nat.le_refl _) _
  have b4 := (unhide B3).trans (hb4.mono (unhide B3).size)
  have F5 := hide (show Below w.heap.size w (w4.alloc (.cells #[.bool true, .slice a5 L5.length c5, .int .i64 X] 32)) ∧ Box3 (w4.alloc (.cells #[.bool true, .slice a5 L5.length c5, .int .i64 X] 32)) (w.heap.size + 1) (.bool false) (.slice none 0 0) (.int .i64 0) ∧ Box3 (w4.alloc (.cells #[.bool true, .slice a5 L5.length c5, .int .i64 X] 32)) w4.heap.size (.bool true) (.slice a5 L5.length c5) (.int .i64 X) ∧ IsDy (w4.alloc (.cells #[.bool true, .slice a5 L5.length c5, .int .i64 X] 32)) (.agg #[.bool true, .slice a5 L5.length c5, .int .i64 X]) M X from
    ⟨b4.trans (hb5.mono b4.size), ((unhide Z3).all hb4).all hb5, Box3.new _ _ _ _, hq'.below hb5⟩)
  clear hb4 hb5 b4 B3 Z3 I3 hq' j5 y0 y1 y2 u0 u1 u2 KSU hM
  generalize L5.length = l5 at *
  go_upto_region 5 with (fail)
  refine at_world (fun W => Below w.heap.size w W ∧ Box3 W (w.heap.size + 1) (.bool false) (.slice none 0 0) (.int .i64 0) ∧ Box3 W w4.heap.size (.bool true) (.slice a5 l5 c5) (.int .i64 X) ∧ IsDy W (.agg #[.bool true, .slice a5 l5 c5, .int .i64 X]) M X) (unhide F5) ?_
  clear F5
  generalize w4.heap.size = g4 at *
  rintro W5 ⟨b5, z5, v5, i5⟩
  have y0 := v5.c0; have y1 := v5.c1; have y2 := v5.c2
  have B5 := hide b5; have Z5 := hide z5; have I5 := hide i5
  clear b5 z5 v5 i5
  go_wp2_with fail
  refine (unhide KNG _ _ (unhide I5)).mono ?_
  rintro r w6 ⟨q, rfl, hq, hb6⟩
  obtain ⟨n7, a7, c7, L7, rfl, j7⟩ := hq
  have z6 := (unhide Z5).all hb6
  have I6 := hide (show IsDy w6 (.agg #[.bool n7, .slice a7 L7.length c7, .int .i64 XR]) MR XR from ⟨n7, a7, c7, L7, rfl, j7⟩)
  have B6 := hide ((unhide B5).trans (hb6.mono (unhide B5).size)); have Z6 := hide z6
  clear y0 y1 y2
  have y0 := z6.c0; have y1 := z6.c1; have y2 := z6.c2; have f0 := z6.free 0; have f1 := z6.free 1; have f2 := z6.free 2
  clear z6 hb6 j7 B5 Z5 I5 KNG
  go_wp2
  exact bodyPost_ret (v := .agg #[.bool n7, .slice a7 L7.length c7, .int .i64 XR]) (by simp [results, Tryd.results27, go_sem, y0, y1, y2]) rfl ⟨_, rfl, (unhide I6).put3 (unhide Z6) _ _ _, below_put3 (unhide B6) (by omega) _ _ _⟩

end Go.Proofs.YtkmkjeoblkdmnaaDoor

