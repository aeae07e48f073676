/- Part 12 of the texts. -/
import Derived.Test.YtpaikdlhkdgkpaaDoorPart11
/- Contract of addRight. -/
namespace Go.Proofs.YtpaikdlhkdgkpaaDoor
open Go.RowKit
attribute [local go_sem ↓] Go.wp_at_zero Go.wp_at_succ

/-- The lesser power of two numbers; of one that is 0 the other one's. -/
def lowE (sa x sb y : Int) : Int := if sa = 0 then y else if sb = 0 then x else min x y
/-- The sum, before that power. -/
def sumZ (sa x sb y : Int) : Int := up sa x (lowE sa x sb y) + up sb y (lowE sa x sb y)
/-- Is neither too wide with the lesser power, nor the sum? -/
def fitsB (sa x sb y : Int) : Bool := decide (upE sa x (lowE sa x sb y) = 0 ∧ upE sb y (lowE sa x sb y) = 0 ∧ (sumZ sa x sb y).natAbs < TOP)
def adE (sa x sb y : Int) : Int := if fitsB sa x sb y then dErr (sumZ sa x sb y) (lowE sa x sb y) else 2
def adM (sa x sb y : Int) : Int := if fitsB sa x sb y then dM (sumZ sa x sb y) (lowE sa x sb y) else 0
def adX (sa x sb y : Int) : Int := if fitsB sa x sb y then dX (sumZ sa x sb y) (lowE sa x sb y) else 0

/-- A dyadic number and an error come back. -/
def DyR (w' : World) (r : Ending) (er m e : Int) : Prop := ∃ v, r = .returned (.tuple #[v, .int .i64 er]) ∧ IsDy w' v m e

theorem sval_zero_iff {n : Bool} {L : List Nat} (h : rightB n L = true) : sval n L = 0 ↔ L.length = 0 := by
  have hc := (right_canon h).2.1
  constructor
  · intro e
    have : val L = 0 := by rw [← natAbs_sval n L, e]; rfl
    rw [(val_zero_of_canon L hc).1 this]; rfl
  · intro e
    have : L = [] := List.length_eq_zero_iff.1 e
    rw [this, sval_nil]

theorem sval_TOP {w : World} {ao : Option Addr} {cap : Nat} {n : Bool} {L : List Nat} (h : LimbsAt w ao cap L) (hr : rightB n L = true) : (sval n L).natAbs < TOP := by
  rw [natAbs_sval]; exact (val_lt_TOP L h.2.1 (right_canon hr).2.1).2 (right_canon hr).1

theorem up_zero (x l : Int) : up 0 x l = 0 := by simp [up]
theorem up_self (s x : Int) : up s x x = s := by simp [up]

theorem upE_ok (s x l : Int) (h1 : (up s x l).natAbs < TOP) (h2 : x - l ≤ 16384) : upE s x l = 0 := by unfold upE; rw [if_pos ⟨h1, h2⟩]
theorem upE_TOP {s x l : Int} (h : upE s x l = 0) : (up s x l).natAbs < TOP := by
  unfold upE at h
  by_cases h1 : (up s x l).natAbs < TOP ∧ x - l ≤ 16384
  · exact h1.1
  · rw [if_neg h1] at h; exact absurd h (by decide)

theorem add_zero_l (sb y : Int) (hy : -16384 ≤ y ∧ y ≤ 16384) (hs : sb.natAbs < TOP) : adE 0 0 sb y = dErr sb y ∧ adM 0 0 sb y = dM sb y ∧ adX 0 0 sb y = dX sb y := by
  have hl : lowE 0 0 sb y = y := by simp [lowE]
  have hz : sumZ 0 0 sb y = sb := by unfold sumZ; rw [hl, up_zero, up_self]; omega
  have hf : fitsB 0 0 sb y = true := by
    unfold fitsB
    rw [hl, hz]
    exact decide_eq_true ⟨upE_ok _ _ _ (by rw [up_zero]; exact TOP_pos) (by omega), upE_ok _ _ _ (by rw [up_self]; exact hs) (by omega), hs⟩
  unfold adE adM adX
  rw [hf, hl, hz]
  exact ⟨rfl, rfl, rfl⟩

theorem add_zero_r (sa x : Int) (hx : -16384 ≤ x ∧ x ≤ 16384) (hs : sa.natAbs < TOP) (h0 : sa ≠ 0) : adE sa x 0 0 = dErr sa x ∧ adM sa x 0 0 = dM sa x ∧ adX sa x 0 0 = dX sa x := by
  have hl : lowE sa x 0 0 = x := by simp [lowE, h0]
  have hz : sumZ sa x 0 0 = sa := by unfold sumZ; rw [hl, up_zero, up_self]; omega
  have hf : fitsB sa x 0 0 = true := by
    unfold fitsB
    rw [hl, hz]
    exact decide_eq_true ⟨upE_ok _ _ _ (by rw [up_self]; exact hs) (by omega), upE_ok _ _ _ (by rw [up_zero]; exact TOP_pos) (by omega), hs⟩
  unfold adE adM adX
  rw [hf, hl, hz]
  exact ⟨rfl, rfl, rfl⟩

theorem lowE_ne (sa x sb y : Int) (ha : sa ≠ 0) (hb : sb ≠ 0) : lowE sa x sb y = min x y := by unfold lowE; rw [if_neg ha, if_neg hb]

/-- The ways that a sum of two numbers that are not 0 goes. -/
theorem add_ways (sa x sb y l z : Int) (hl : lowE sa x sb y = l) (hz : sumZ sa x sb y = z) :
    (upE sa x l = 0 ∧ upE sb y l = 0 ∧ z.natAbs < TOP ∧ adE sa x sb y = dErr z l ∧ adM sa x sb y = dM z l ∧ adX sa x sb y = dX z l) ∨
    (upE sa x l = 0 ∧ upE sb y l = 0 ∧ ¬ z.natAbs < TOP ∧ adE sa x sb y = 2 ∧ adM sa x sb y = 0 ∧ adX sa x sb y = 0) ∨
    (¬ (upE sa x l = 0 ∧ upE sb y l = 0) ∧ adE sa x sb y = 2 ∧ adM sa x sb y = 0 ∧ adX sa x sb y = 0) := by
  unfold adE adM adX fitsB
  rw [hl, hz]
  by_cases h1 : upE sa x l = 0 ∧ upE sb y l = 0
  · by_cases h2 : z.natAbs < TOP
    · left
      rw [decide_eq_true (show upE sa x l = 0 ∧ upE sb y l = 0 ∧ z.natAbs < TOP from ⟨h1.1, h1.2, h2⟩)]
      exact ⟨h1.1, h1.2, h2, rfl, rfl, rfl⟩
    · right; left
      rw [decide_eq_false (show ¬ (upE sa x l = 0 ∧ upE sb y l = 0 ∧ z.natAbs < TOP) from fun h => h2 h.2.2)]
      exact ⟨h1.1, h1.2, h2, rfl, rfl, rfl⟩
  · right; right
    rw [decide_eq_false (show ¬ (upE sa x l = 0 ∧ upE sb y l = 0 ∧ z.natAbs < TOP) from fun h => h1 ⟨h.1, h.2.1⟩)]
    exact ⟨h1, rfl, rfl, rfl⟩

end Go.Proofs.YtpaikdlhkdgkpaaDoor

/- The law DyadicChecks, walked. -/
namespace Go.Proofs.YtpaikdlhkdgkpaaDoor
open Go.RowKit
attribute [local go_sem ↓] Go.wp_at_zero Go.wp_at_succ

theorem drB_bounds {neg : Bool} {L : List Nat} {e : Int} (h : drB neg L e = true) : rightB neg L = true ∧ L.length ≤ 512 ∧ -16384 ≤ e ∧ e ≤ 16384 ∧ (L.length = 0 → e = 0) := by
  unfold drB at h
  rw [Bool.and_eq_true] at h
  obtain ⟨h1, h2⟩ := h
  refine ⟨h1, (right_canon h1).1, ?_⟩
  by_cases h0 : L.length = 0
  · rw [if_pos h0] at h2
    have := of_decide_eq_true h2
    omega
  · rw [if_neg h0, Bool.and_eq_true] at h2
    have := of_decide_eq_true h2.2
    omega

theorem top_same {neg : Bool} {L : List Nat} {e : Int} (h : drB neg L e = true) : IntKind.i64.wrap (lenL L + e) = topR L e := by
  obtain ⟨_, h1, h2, h3, h4⟩ := drB_bounds h
  unfold topR
  by_cases h0 : L.length = 0
  · rw [if_pos h0, h4 h0]
    unfold lenL
    rw [if_pos h0]
    rfl
  · rw [if_neg h0]
    unfold lenL
    rw [if_neg h0]
    have := bitLen_le (L[L.length - 1]?.getD 0)
    exact wrap_small _ (by omega)

end Go.Proofs.YtpaikdlhkdgkpaaDoor

/- Contracts of dyadic's Add, Sub, Mul, Scale. -/
namespace Go.Proofs.YtpaikdlhkdgkpaaDoor
open Go.RowKit
attribute [local go_sem ↓] Go.wp_at_zero Go.wp_at_succ

theorem neg_right {n : Bool} {L : List Nat} (h : rightB n L = true) : rightB (!n && !decide (L.length = 0)) L = true ∧ sval (!n && !decide (L.length = 0)) L = - sval n L := by
  by_cases h0 : L.length = 0
  · have : L = [] := List.length_eq_zero_iff.1 h0
    subst this
    have hn : n = false := by cases n with
      | false => rfl
      | true => exact absurd rfl ((right_canon h).2.2 rfl)
    subst hn
    simp [rightB, sval_nil]
  · rw [decide_eq_false h0]
    simp only [Bool.not_false, Bool.and_true]
    refine ⟨?_, sval_not n L⟩
    unfold rightB at h ⊢
    rw [decide_eq_false h0] at h ⊢
    simpa using h


end Go.Proofs.YtpaikdlhkdgkpaaDoor

/- Contracts of dyadic's Mul, Scale. -/
namespace Go.Proofs.YtpaikdlhkdgkpaaDoor
open Go.RowKit
attribute [local go_sem ↓] Go.wp_at_zero Go.wp_at_succ

set_option maxHeartbeats 2000000 in
theorem dscale_wrong (na : Bool) (ao : Option Addr) (ca : Nat) (A : List Nat) (x n : Int) (w : World) (hA : LimbsAt w ao ca A) (la : A.length ≤ 35184372088830) (hr : drB na A x = false) (hT : Tab w) :
    Calls Tryd.prog 69 #[.agg #[.bool na, .slice ao A.length ca, .int .i64 x], .int .i64 n] w fun r w' => DyR w' r 1 0 0 ∧ Below w.heap.size w w' := by
  have CC := hide (fun w' h t => dcheck_any na ao ca A x w' h la t)
  have he : drE na A x = 1 := by unfold drE; rw [hr]; rfl
  rw [he] at CC
  clear he hr
  have hb0 : Below w.heap.size w ((w.alloc (.cells #[.bool na, .slice ao A.length ca, .int .i64 x] 58)).alloc (.cells #[.bool false, .slice none 0 0, .int .i64 0] 58)) := ((Below.refl _ _).alloc (Nat.le_refl _) _).alloc (by simp) _
  have x0 : Box3 ((w.alloc (.cells #[.bool na, .slice ao A.length ca, .int .i64 x] 58)).alloc (.cells #[.bool false, .slice none 0 0, .int .i64 0] 58)) w.heap.size (.bool na) (.slice ao A.length ca) (.int .i64 x) := (Box3.new _ _ _ _).old _
  have x2 : Box3 ((w.alloc (.cells #[.bool na, .slice ao A.length ca, .int .i64 x] 58)).alloc (.cells #[.bool false, .slice none 0 0, .int .i64 0] 58)) (w.heap.size + 1) (.bool false) (.slice none 0 0) (.int .i64 0) := by
    have := Box3.new (w.alloc (.cells #[.bool na, .slice ao A.length ca, .int .i64 x] 58)) (.bool false) (.slice none 0 0) (.int .i64 0)
    simpa using this
  have B0 := hide hb0; have X0 := hide x0; have X2 := hide x2
  clear hb0 x0 x2
  go_enter Tryd.func69, Tryd.ntmps69
  go_wp2_with fail
  refine (unhide CC _ (hA.below (unhide B0)) (hT.all (unhide B0))).mono ?_
  rintro r w1 ⟨rfl, hb1⟩
  have x0 := (unhide X0).all hb1; have x2 := (unhide X2).all hb1
  have b1 := (unhide B0).trans (hb1.mono (unhide B0).size)
  have p0 := x0.c0; have p1 := x0.c1; have p2 := x0.c2
  have X2' := hide x2; have B1 := hide b1
  clear hb1 x0 x2 b1 X0 X2 B0 CC
  have x2 := unhide X2'
  have y0 := x2.c0; have y1 := x2.c1; have y2 := x2.c2; have f0 := x2.free 0; have f1 := x2.free 1; have f2 := x2.free 2
  have B2 := B1
  clear x2
  go_wp2
  refine bodyPost_ret (v := .tuple #[.agg #[.bool false, .slice none 0 0, .int .i64 0], .int .i64 (1)]) (by simp [results, Tryd.results69, go_sem, y0, y1, y2]) rfl ⟨⟨_, rfl, IsDy.zero _ _ _⟩, below_put3 (unhide B2) (by omega) _ _ _⟩

set_option maxHeartbeats 2000000 in
theorem dscale_far (na : Bool) (ao : Option Addr) (ca : Nat) (A : List Nat) (x n : Int) (w : World) (hA : LimbsAt w ao ca A) (hr : drB na A x = true) (hn : ¬ (-32768 ≤ n ∧ n ≤ 32768)) (hT : Tab w) :
    Calls Tryd.prog 69 #[.agg #[.bool na, .slice ao A.length ca, .int .i64 x], .int .i64 n] w fun r w' => DyR w' r 2 0 0 ∧ Below w.heap.size w w' := by
  have la := (drB_bounds hr).2.1
  have CC := hide (fun w' h t => dcheck_any na ao ca A x w' h (by omega) t)
  have he : drE na A x = 0 := by unfold drE; rw [hr]; rfl
  rw [he] at CC
  have CW := hide (fun w' => within_any n 32768 w' (by decide) (by decide))
  rw [decide_eq_false hn] at CW
  clear he hr hn
  have hb0 : Below w.heap.size w ((w.alloc (.cells #[.bool na, .slice ao A.length ca, .int .i64 x] 58)).alloc (.cells #[.bool false, .slice none 0 0, .int .i64 0] 58)) := ((Below.refl _ _).alloc (Nat.le_refl _) _).alloc (by simp) _
  have x0 : Box3 ((w.alloc (.cells #[.bool na, .slice ao A.length ca, .int .i64 x] 58)).alloc (.cells #[.bool false, .slice none 0 0, .int .i64 0] 58)) w.heap.size (.bool na) (.slice ao A.length ca) (.int .i64 x) := (Box3.new _ _ _ _).old _
  have x2 : Box3 ((w.alloc (.cells #[.bool na, .slice ao A.length ca, .int .i64 x] 58)).alloc (.cells #[.bool false, .slice none 0 0, .int .i64 0] 58)) (w.heap.size + 1) (.bool false) (.slice none 0 0) (.int .i64 0) := by
    have := Box3.new (w.alloc (.cells #[.bool na, .slice ao A.length ca, .int .i64 x] 58)) (.bool false) (.slice none 0 0) (.int .i64 0)
    simpa using this
  have B0 := hide hb0; have X0 := hide x0; have X2 := hide x2
  clear hb0 x0 x2
  go_enter Tryd.func69, Tryd.ntmps69
  go_wp2_with fail
  refine (unhide CC _ (hA.below (unhide B0)) (hT.all (unhide B0))).mono ?_
  rintro r w1 ⟨rfl, hb1⟩
  have x0 := (unhide X0).all hb1; have x2 := (unhide X2).all hb1
  have b1 := (unhide B0).trans (hb1.mono (unhide B0).size)
  have p0 := x0.c0; have p1 := x0.c1; have p2 := x0.c2
  have X2' := hide x2; have B1 := hide b1
  clear hb1 x0 x2 b1 X0 X2 B0 CC
  have x2 := unhide X2'
  have y0 := x2.c0; have y1 := x2.c1; have y2 := x2.c2; have f0 := x2.free 0; have f1 := x2.free 1; have f2 := x2.free 2
  have B2 := B1
  clear x2
  go_wp2_with (go_at_call 82; refine (unhide CW _).mono ?_; rintro r w2 ⟨rfl, rfl⟩)
  refine bodyPost_ret (v := .tuple #[.agg #[.bool false, .slice none 0 0, .int .i64 0], .int .i64 (2)]) (by simp [results, Tryd.results69, go_sem, y0, y1, y2]) rfl ⟨⟨_, rfl, IsDy.zero _ _ _⟩, below_put3 (unhide B2) (by omega) _ _ _⟩

set_option maxHeartbeats 2000000 in
theorem dscale_right (na : Bool) (ao : Option Addr) (ca : Nat) (A : List Nat) (x n : Int) (w : World) (hA : LimbsAt w ao ca A) (hr : drB na A x = true) (hn : -32768 ≤ n ∧ n ≤ 32768) (hT : Tab w) :
    Calls Tryd.prog 69 #[.agg #[.bool na, .slice ao A.length ca, .int .i64 x], .int .i64 n] w fun r w' => DyR w' r (dErr (sval na A) (x + n)) (dM (sval na A) (x + n)) (dX (sval na A) (x + n)) ∧ Below w.heap.size w w' := by
  obtain ⟨ra, la, bx1, bx2, zx⟩ := drB_bounds hr
  have CC := hide (fun w' h t => dcheck_any na ao ca A x w' h (by omega) t)
  have he : drE na A x = 0 := by unfold drE; rw [hr]; rfl
  rw [he] at CC
  have CW := hide (fun w' => within_any n 32768 w' (by decide) (by decide))
  rw [decide_eq_true hn] at CW
  have CK := hide (fun w' h t => make_right na ao ca A (x + n) w' h ra (by omega) t)
  generalize dErr (sval na A) (x + n) = er at *
  generalize dM (sval na A) (x + n) = am at *
  generalize dX (sval na A) (x + n) = ax at *
  obtain ⟨hn1, hn2⟩ := hn
  clear he hr zx ra
  have hb0 : Below w.heap.size w ((w.alloc (.cells #[.bool na, .slice ao A.length ca, .int .i64 x] 58)).alloc (.cells #[.bool false, .slice none 0 0, .int .i64 0] 58)) := ((Below.refl _ _).alloc (Nat.le_refl _) _).alloc (by simp) _
  have x0 : Box3 ((w.alloc (.cells #[.bool na, .slice ao A.length ca, .int .i64 x] 58)).alloc (.cells #[.bool false, .slice none 0 0, .int .i64 0] 58)) w.heap.size (.bool na) (.slice ao A.length ca) (.int .i64 x) := (Box3.new _ _ _ _).old _
  have x2 : Box3 ((w.alloc (.cells #[.bool na, .slice ao A.length ca, .int .i64 x] 58)).alloc (.cells #[.bool false, .slice none 0 0, .int .i64 0] 58)) (w.heap.size + 1) (.bool false) (.slice none 0 0) (.int .i64 0) := by
    have := Box3.new (w.alloc (.cells #[.bool na, .slice ao A.length ca, .int .i64 x] 58)) (.bool false) (.slice none 0 0) (.int .i64 0)
    simpa using this
  have B0 := hide hb0; have X0 := hide x0; have X2 := hide x2
  clear hb0 x0 x2
  go_enter Tryd.func69, Tryd.ntmps69
  go_wp2_with fail
  refine (unhide CC _ (hA.below (unhide B0)) (hT.all (unhide B0))).mono ?_
  rintro r w1 ⟨rfl, hb1⟩
  have x0 := (unhide X0).all hb1; have x2 := (unhide X2).all hb1
  have b1 := (unhide B0).trans (hb1.mono (unhide B0).size)
  have p0 := x0.c0; have p1 := x0.c1; have p2 := x0.c2
  have X2' := hide x2; have B1 := hide b1
  clear hb1 x0 x2 b1 X0 X2 B0 CC
  go_wp2_with fail
  refine (unhide CW _).mono ?_
  rintro r w2 ⟨rfl, rfl⟩
  go_wp2_with fail
  refine (unhide CK _ (hA.below (unhide B1)) (hT.all (unhide B1))).mono ?_
  rintro r w4 ⟨v, rfl, iv, hb1⟩
  obtain ⟨n3, a3, c3, L3, rfl, i3⟩ := iv.num
  have x2 := (unhide X2').all hb1
  have b2 := (unhide B1).trans (hb1.mono (unhide B1).size)
  have y0 := x2.c0; have y1 := x2.c1; have y2 := x2.c2; have f0 := x2.free 0; have f1 := x2.free 1; have f2 := x2.free 2
  have X3 := hide x2; have B2 := hide b2; have IV := hide iv
  clear x2 b2 hb1 iv i3
  go_wp2
  refine bodyPost_ret (v := .tuple #[.agg #[.bool n3, .slice a3 L3.length c3, .int .i64 (ax)], .int .i64 (er)]) (by simp [results, Tryd.results69, go_sem, y0, y1, y2]) rfl ⟨⟨_, rfl, (unhide IV).put3 (unhide X3) _ _ _⟩, below_put3 (unhide B2) (by omega) _ _ _⟩

end Go.Proofs.YtpaikdlhkdgkpaaDoor

/- Contracts of the reference's Mul, Scale. -/
namespace Go.Proofs.YtpaikdlhkdgkpaaDoor
open Go.RowKit
attribute [local go_sem ↓] Go.wp_at_zero Go.wp_at_succ

theorem IsNum.toM {B : Nat} {w : World} {v : Value} {z : Int} (h : IsNum B w v z) (hz : z.natAbs < TOP) : IsNumM 512 B w v z := by
  obtain ⟨n, a, c, L, rfl, h1, h2, h3, h4, h5, h6⟩ := h
  exact ⟨n, a, c, L, rfl, h1, h2, h3, h4, h5, (val_lt_TOP L h1.2.1 h3).1 (by omega)⟩

theorem wrap_range (x : Int) : -9223372036854775808 ≤ IntKind.i64.wrap x ∧ IntKind.i64.wrap x ≤ 9223372036854775807 := by
  simp only [IntKind.wrap, IntKind.signed, IntKind.bits]
  simp
  split <;> omega

theorem val_lt_pow (L : List Nat) (hf : Fits L) (k : Nat) (h : L.length ≤ k) : val L < 2 ^ (32 * k) := by
  have h1 := val_lt L hf
  rw [show (4294967296 : Nat) = 2 ^ 32 by decide, ← Nat.pow_mul] at h1
  exact Nat.lt_of_lt_of_le h1 (Nat.pow_le_pow_right (by decide) (by omega))

theorem TOP_eq : TOP = 2 ^ (32 * TOPN) := by
  unfold TOP
  rw [show (4294967296 : Nat) = 2 ^ 32 by decide, ← Nat.pow_mul]

theorem lt_TOP {v k : Nat} (h : v < 2 ^ k) (hk : k ≤ 16384) : v < TOP := by
  rw [TOP_eq]
  exact Nat.lt_of_lt_of_le h (Nat.pow_le_pow_right (by decide) hk)

theorem mul_lt_pow {a b j k : Nat} (h1 : a < 2 ^ j) (h2 : b < 2 ^ k) : a * b < 2 ^ (j + k) := by
  rw [Nat.pow_add]
  exact Nat.mul_lt_mul_of_lt_of_le h1 (Nat.le_of_lt h2) (Nat.pow_pos (by decide))

theorem mul_TOP (na nb : Bool) (A B : List Nat) (fA : Fits A) (fB : Fits B) (la : A.length ≤ 30) (lb : B.length ≤ 30) : (sval na A * sval nb B).natAbs < TOP := by
  rw [Int.natAbs_mul, natAbs_sval, natAbs_sval]
  exact lt_TOP (mul_lt_pow (val_lt_pow A fA 30 la) (val_lt_pow B fB 30 lb)) (by decide)

end Go.Proofs.YtpaikdlhkdgkpaaDoor

/- Contract of the reference's Scale; what told asks of it. -/
namespace Go.Proofs.YtpaikdlhkdgkpaaDoor
open Go.RowKit
attribute [local go_sem ↓] Go.wp_at_zero Go.wp_at_succ

set_option maxHeartbeats 2000000 in
theorem rscale_any (na : Bool) (ao : Option Addr) (ca : Nat) (A : List Nat) (x n : Int) (w : World) (hA : LimbsAt w ao ca A) (hr : rightB na A = true) (hx : -16384 ≤ x ∧ x ≤ 16384) (hn : -32768 ≤ n ∧ n ≤ 32768) :
    Calls Tryd.prog 48 #[.agg #[.bool na, .slice ao A.length ca, .int .i64 x], .int .i64 n] w fun r w' => ∃ v, r = .returned v ∧ IsDy w' v (oM (sval na A)) (oE (sval na A) (x + n)) ∧ Below w.heap.size w w' := by
  have hz := sval_TOP hA hr
  have CO := hide (fun w' (h : LimbsAt w' ao ca A) => rof_small (x + n) ((right_num h hr (NewAt.zero h)).toM hz) (by decide) (by omega))
  clear hz hr
  generalize oE (sval na A) (x + n) = ox at *
  generalize oM (sval na A) = om at *
  obtain ⟨hx1, hx2⟩ := hx
  obtain ⟨hn1, hn2⟩ := hn
  have hb0 : Below w.heap.size w ((w.alloc (.cells #[.bool na, .slice ao A.length ca, .int .i64 x] 58)).alloc (.cells #[.bool false, .slice none 0 0, .int .i64 0] 58)) := ((Below.refl _ _).alloc (Nat.le_refl _) _).alloc (by simp) _
  have x0 : Box3 ((w.alloc (.cells #[.bool na, .slice ao A.length ca, .int .i64 x] 58)).alloc (.cells #[.bool false, .slice none 0 0, .int .i64 0] 58)) w.heap.size (.bool na) (.slice ao A.length ca) (.int .i64 x) := (Box3.new _ _ _ _).old _
  have x2 : Box3 ((w.alloc (.cells #[.bool na, .slice ao A.length ca, .int .i64 x] 58)).alloc (.cells #[.bool false, .slice none 0 0, .int .i64 0] 58)) (w.heap.size + 1) (.bool false) (.slice none 0 0) (.int .i64 0) := by
    have := Box3.new (w.alloc (.cells #[.bool na, .slice ao A.length ca, .int .i64 x] 58)) (.bool false) (.slice none 0 0) (.int .i64 0)
    simpa using this
  have B0 := hide hb0; have X0 := hide x0; have X2 := hide x2
  clear hb0 x0 x2
  go_enter Tryd.func48, Tryd.ntmps48
  go_wp2_with fail
  refine (unhide CO _ (hA.below (unhide B0))).mono ?_
  rintro r w4 ⟨v, rfl, iv, hb1⟩
  obtain ⟨n3, a3, c3, L3, rfl, i3⟩ := iv.num
  have x2 := (unhide X2).all hb1
  have b2 := (unhide B0).trans (hb1.mono (unhide B0).size)
  have y0 := x2.c0; have y1 := x2.c1; have y2 := x2.c2; have f0 := x2.free 0; have f1 := x2.free 1; have f2 := x2.free 2
  have X3 := hide x2; have B2 := hide b2; have IV := hide iv
  clear x2 b2 hb1 iv i3
  go_wp2
  refine bodyPost_ret (v := .agg #[.bool n3, .slice a3 L3.length c3, .int .i64 ox]) (by simp [results, Tryd.results48, go_sem, y0, y1, y2]) rfl ⟨_, rfl, (unhide IV).put3 (unhide X3) _ _ _, below_put3 (unhide B2) (by omega) _ _ _⟩

theorem drB_odd {neg : Bool} {L : List Nat} {e : Int} (h : drB neg L e = true) (h0 : sval neg L ≠ 0) : tz (sval neg L).natAbs = 0 ∧ sval neg L % 2 = 1 := by
  have hr := (drB_bounds h).1
  have hl : L.length ≠ 0 := fun e => h0 ((sval_zero_iff hr).2 e)
  unfold drB at h
  rw [if_neg hl, Bool.and_eq_true, Bool.and_eq_true] at h
  have ho : val L % 2 = 1 := of_decide_eq_true h.2.1
  refine ⟨by rw [natAbs_sval]; exact tz_odd _ ho, ?_⟩
  have := natAbs_sval neg L
  omega

theorem told_scale {na : Bool} {A : List Nat} {x n : Int} (h : drB na A x = true) (hn : -32768 ≤ n ∧ n ≤ 32768) :
    (dRt (oM (sval na A)) (oE (sval na A) (x + n)) = true → dErr (sval na A) (x + n) = 0 ∧ dM (sval na A) (x + n) = oM (sval na A) ∧ dX (sval na A) (x + n) = oE (sval na A) (x + n)) ∧ (dRt (oM (sval na A)) (oE (sval na A) (x + n)) = false → dErr (sval na A) (x + n) = 2 ∧ dM (sval na A) (x + n) = 0 ∧ dX (sval na A) (x + n) = 0) := by
  by_cases hin : -32768 ≤ x + n ∧ x + n ≤ 32768
  · exact told_make _ _ hin
  · obtain ⟨hr, hl, h1, h2, h3⟩ := drB_bounds h
    have h0 : sval na A ≠ 0 := fun e => by
      have := h3 ((sval_zero_iff hr).1 e)
      omega
    obtain ⟨ht, ho⟩ := drB_odd h h0
    have hd : dRt (oM (sval na A)) (oE (sval na A) (x + n)) = false := by
      unfold dRt
      rw [if_neg (oM_ne _ h0).1, oE_ne _ _ h0, ht, decide_eq_false (show ¬ (-16384 ≤ x + n + ((0 : Nat) : Int) ∧ x + n + ((0 : Nat) : Int) ≤ 16384) by omega), Bool.and_false]
    refine ⟨fun h => ?_, fun _ => make_far _ _ hin⟩
    rw [hd] at h
    exact absurd h (by decide)

end Go.Proofs.YtpaikdlhkdgkpaaDoor

