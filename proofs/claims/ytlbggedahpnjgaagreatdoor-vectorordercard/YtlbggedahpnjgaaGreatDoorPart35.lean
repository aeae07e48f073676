/- Part 35 of the texts. -/
import Derived.Test.YtlbggedahpnjgaaGreatDoorPart34
import Derived.Deep.RegionHeld3
import Derived.Test.YtlbggedahpnjgaaGreatDoorChecked
import Derived.Test.YtlbggedahpnjgaaGreatDoorPart02
import Derived.ProofKit
import Derived.SizedLaws
import Derived.Lib.SmallJoins
/- The reference's Near and Squares, at a level. -/
namespace Go.Proofs.YtlbggedahpnjgaaGreatDoor
open Go.RowKit
attribute [local go_sem ↓] Go.wp_at_zero Go.wp_at_succ

theorem cmpI_le (x y : Int) : cmpI x y ≤ 0 ↔ x ≤ y := by
  rcases (show x < y ∨ x = y ∨ y < x by omega) with g | g | g
  · rw [cmpI8_lt g]; omega
  · rw [cmpI8_eq g]; omega
  · rw [cmpI8_gt g]; omega

theorem Lvl.diff {lo : Int} {W : Nat} {z1 z2 : Int} (h1 : Lvl lo W z1) (h2 : Lvl lo W z2) (hW : lo + W + 1 ≤ 16384) (hW2 : W + 1 ≤ 16384) : Lvl lo (W + 1) (z1 - z2) := by
  refine ⟨?_, h1.2.1, by have := h1.2.2; omega, hW2⟩
  have a := h1.1
  have b := h2.1
  rw [Nat.pow_succ]
  omega
theorem Lvl.low {lo : Int} {W : Nat} {z : Int} (h : Lvl lo W z) (k : Nat) (hlo : -16384 ≤ lo - k) (hW : W + k ≤ 16384) : Lvl (lo - k) (W + k) (z * 2 ^ k) := by
  refine ⟨?_, hlo, by have := h.2.2.1; omega, hW⟩
  rw [Int.natAbs_mul, Int.natAbs_pow, Nat.pow_add]
  exact (Nat.mul_lt_mul_right (Nat.two_pow_pos k)).2 h.1
theorem Lvl.more {lo : Int} {W W' : Nat} {z : Int} (h : Lvl lo W z) (hW : W ≤ W') (h1 : lo + W' ≤ 16384) (h2 : W' ≤ 16384) : Lvl lo W' z :=
  ⟨Nat.lt_of_lt_of_le h.1 (Nat.pow_le_pow_right (by decide) hW), h.2.1, h1, h2⟩
theorem Lvl.at {lo lo' : Int} {W : Nat} {z : Int} (h : Lvl lo W z) (h1 : -16384 ≤ lo') (h2 : lo' + W ≤ 16384) : Lvl lo' W z := ⟨h.1, h1, h2, h.2.2.2⟩

theorem near_any {w : World} {v u : Value} {lo : Int} {W : Nat} {z1 z2 : Int} (k : Nat) (hv : IsLv w v lo z1) (hu : IsLv w u lo z2) (h1 : Lvl lo W z1) (h2 : Lvl lo W z2) (hk : k ≤ 100) (b1 : -16384 ≤ lo - k) (b2 : lo + W + 1 ≤ 16384) (b3 : W + 1 + k ≤ 16384) :
    Calls Tryz.prog 25 #[v, u, .int .i64 (k : Nat)] w fun r w' => r = .returned (.bool (decide (((z1 - z2).natAbs : Int) * 2 ^ k ≤ z2))) ∧ Below w.heap.size w w' := by
  have hv0 := hv; have hu0 := hu
  obtain ⟨n1, a1, c1, L1, rfl, i1⟩ := hv
  obtain ⟨n2, a2, c2, L2, rfl, i2⟩ := hu
  have ld := h1.diff h2 b2 (by omega)
  have C1 := fun w' (hb : Below w.heap.size w w') => rsubN (hv0.below hb) (hu0.below hb) h1 h2
  have C3 := fun w' (hb : Below w.heap.size w w') => rscaleL (-(k : Int)) (hu0.below hb) h2 (by omega)
  have hc : ∀ d : Int, Lvl lo (W + 1) d → ∀ w' v u, IsDy w' v (oM d) (oE d lo) → IsDy w' u (oM z2) (oE z2 (lo + -(k : Int))) → Calls Tryz.prog 33 #[v, u] w' fun r w'' => r = .returned (.int .i64 (cmpI (d * 2 ^ k) z2)) ∧ Below w'.heap.size w' w'' := by
    intro d hd w' v u hv hu
    have e1 : IsLv w' v (lo - k) (d * 2 ^ k) := IsLv.lower hv k
    have e2 : IsLv w' u (lo - k) z2 := hu
    have l2 : Lvl (lo - k) (W + 1 + k) z2 := ⟨Nat.lt_of_lt_of_le h2.1 (Nat.pow_le_pow_right (by decide) (by omega)), b1, by omega, b3⟩
    exact rcmpN e1 e2 (hd.low k b1 b3) l2
  by_cases hd : z1 - z2 < 0
  · have e : (((z1 - z2).natAbs : Int) * 2 ^ k ≤ z2) ↔ cmpI (-(z1 - z2) * 2 ^ k) z2 ≤ 0 := by
      rw [cmpI_le, show ((z1 - z2).natAbs : Int) = -(z1 - z2) by omega]
    rw [decide_eq_decide.2 e]
    exact near_neg n1 n2 a1 a2 _ _ c1 c2 _ _ k w (oM (z1 - z2)) (oE (z1 - z2) lo) (oM (-(z1 - z2))) (oE (-(z1 - z2)) lo) (oM z2) (oE z2 (lo + -(k : Int))) _ ((oM_neg_iff _).2 hd) (by omega) C1 (fun w' v hv => rnegN hv ld) C3 (hc _ ld.neg)
  · have e : (((z1 - z2).natAbs : Int) * 2 ^ k ≤ z2) ↔ cmpI ((z1 - z2) * 2 ^ k) z2 ≤ 0 := by
      rw [cmpI_le, show ((z1 - z2).natAbs : Int) = z1 - z2 by omega]
    rw [decide_eq_decide.2 e]
    exact near_pos n1 n2 a1 a2 _ _ c1 c2 _ _ k w (oM (z1 - z2)) (oE (z1 - z2) lo) (oM z2) (oE z2 (lo + -(k : Int))) _ (by have := (oM_neg_iff (z1 - z2)).1; omega) (by omega) C1 C3 (hc _ ld)

/-- The exact sum of squares, in units of 2^-2148. -/
def sqK (I : List Int) : Nat → Int
  | 0 => 0
  | k + 1 => sqK I k + fZ (atB I k) * fZ (atB I k)

/-- A bound on squares. -/
def B96 : Nat := 2 ^ 4196
theorem B96_mul : B96 = 2 ^ 2098 * 2 ^ 2098 := by decide +kernel
theorem B96_lt : 64 * B96 < 2 ^ 4203 := by decide +kernel
theorem sq_nonnegI (x : Int) : 0 ≤ x * x := by
  rcases Int.le_total 0 x with h | h
  · exact Int.mul_nonneg h h
  · exact Int.mul_nonneg_of_nonpos_of_nonpos h h
theorem fZ_few (b : Nat) (hf : fFin b = true) : (fZ b * fZ b).natAbs < B96 := by
  rw [Int.natAbs_mul, B96_mul]
  have h := fZ_lt b hf
  generalize (2 : Nat) ^ 2098 = P at *
  exact Nat.mul_lt_mul'' h h
theorem sqK_le (I : List Int) (n : Nat) (h : fnK I n = true) : ∀ k, k ≤ n → 0 ≤ sqK I k ∧ (sqK I k).natAbs ≤ k * B96 := by
  intro k
  induction k with
  | zero => intro _; exact ⟨Int.le_refl _, by rw [Nat.zero_mul]; exact Nat.le_refl _⟩
  | succ k ih =>
    intro hk
    obtain ⟨i1, i2⟩ := ih (by omega)
    have hf : fFin (atB I k) = true := by
      have h2 : (fnK I k && fFin (atB I k)) = true := fnK_down I n (k + 1) hk h
      rw [Bool.and_eq_true] at h2
      exact h2.2
    have h3 := fZ_few (atB I k) hf
    have h4 : 0 ≤ fZ (atB I k) * fZ (atB I k) := sq_nonnegI _
    show 0 ≤ sqK I k + fZ (atB I k) * fZ (atB I k) ∧ (sqK I k + fZ (atB I k) * fZ (atB I k)).natAbs ≤ (k + 1) * B96
    generalize fZ (atB I k) * fZ (atB I k) = q at *
    generalize sqK I k = s at *
    rw [Nat.succ_mul]
    generalize B96 = P at *
    omega
theorem sqK_lvl (I : List Int) (n : Nat) (hn : n ≤ 64) (h : fnK I n = true) (k : Nat) (hk : k ≤ n) : Lvl (-2148) 4203 (sqK I k) := by
  obtain ⟨h1, h2⟩ := sqK_le I n h k hk
  refine ⟨?_, by decide, by decide, by decide⟩
  exact Nat.lt_of_le_of_lt (Nat.le_trans h2 (Nat.mul_le_mul_right _ (by omega))) B96_lt
theorem fZ_lvl2 (b : Nat) (hf : fFin b = true) : Lvl (-2148) 4203 (fZ b * fZ b) := by
  have h := fZ_few b hf
  refine ⟨?_, by decide, by decide, by decide⟩
  exact Nat.lt_of_lt_of_le h (Nat.le_trans (show B96 ≤ 64 * B96 by omega) (Nat.le_of_lt B96_lt))

set_option maxRecDepth 20000 in
set_option maxHeartbeats 4000000 in
theorem r9squares_any (ao : Option Addr) (c : Nat) (I : List Int) (w : World) (hI : BitsAt w ao c I) (hn : I.length ≤ 64) (hf : fnK I I.length = true) :
    Calls Tryz.prog 27 #[.slice ao I.length c] w fun e w' => ∃ v, e = .returned v ∧ IsLv w' v (-2148) (sqK I I.length) ∧ Below w.heap.size w w' := by
  have HI := hide hI
  obtain ⟨n, hnn⟩ : ∃ n, I.length = n := ⟨_, rfl⟩
  rw [hnn] at hn hf ⊢
  have HN := hide hnn
  have HF := hide hf
  have HL := hide (fun k hk => sqK_lvl I n hn hf k hk)
  have XR := hide ((Box3.new w (.bool false) (.slice none 0 0) (.int .i64 0)).old (.cells #[.bool false, .slice none 0 0, .int .i64 0] 45))
  have xs := Box3.new (w.alloc (.cells #[.bool false, .slice none 0 0, .int .i64 0] 45)) (.bool false) (.slice none 0 0) (.int .i64 0)
  rw [size_alloc9] at xs
  have XS := hide xs
  have B0 := hide ((below_alloc9 w (.cells #[.bool false, .slice none 0 0, .int .i64 0] 45)).alloc (by simp) (.cells #[.bool false, .slice none 0 0, .int .i64 0] 45))
  clear hI hnn xs hf
  go_enter Tryz.func27, Tryz.ntmps27
  go_wp2_with fail
  go_loopw [4] (fun i wr => ∃ (k : Nat) (nn : Bool) (aa : Option Addr) (ll cc : Nat) (X : Int), k ≤ n ∧ i = .int .i64 k ∧ Hid (Box3 wr w.heap.size (.bool false) (.slice none 0 0) (.int .i64 0)) ∧ Hid (Box3 wr (w.heap.size + 1) (.bool nn) (.slice aa ll cc) (.int .i64 X)) ∧ Hid (IsLv wr (.agg #[.bool nn, .slice aa ll cc, .int .i64 X]) (-2148) (sqK I k)) ∧ Hid (Below w.heap.size w wr)) (fun i _ => n - (intOf i).toNat)
  case atStart => exact ⟨0, false, none, 0, 0, 0, Nat.zero_le _, rfl, XR, XS, IsLv.zero _ _, B0⟩
  case round =>
    clear XR XS B0
    obtain ⟨k, nn, aa, ll, cc, X, hk, rfl, xr, xs, hs, hB⟩ := hrel
    by_cases hlt : k < n
    · have hkI : (k : Int) < (n : Int) := by omega
      obtain ⟨b, off, hao, hb, hc⟩ := ((unhide HI).below hB.out).ne (by rw [unhide HN]; omega)
      have hck := hc k (by rw [unhide HN]; exact hlt)
      have x64 := (unhide HI).lt k
      have hfx : fFin (atB I k) = true := by
        have h2 : (fnK I k && fFin (atB I k)) = true := fnK_down I n (k + 1) (by omega) (unhide HF)
        rw [Bool.and_eq_true] at h2
        exact h2.2
      have C1 := hide (fun w' => rvalueN (atB I k) w' x64 hfx)
      have C2 := hide (fun w' v (hv : IsLv w' v (-1074) (fZ (atB I k))) => rmulV x64 x64 hfx hfx hv hv)
      have l1 := unhide HL k (by omega)
      have C3 := hide (fun w' v u (hv : IsLv w' v (-2148) (sqK I k)) (hu : IsLv w' u (-2148) (fZ (atB I k) * fZ (atB I k))) => (show Calls Tryz.prog 63 #[v, u] w' fun r w'' => ∃ q, r = .returned q ∧ IsLv w'' q (-2148) (sqK I k + fZ (atB I k) * fZ (atB I k)) ∧ Below w'.heap.size w' w'' from raddN hv hu l1 (fZ_lvl2 _ hfx)))
      have eV : Hid (sqK I (k + 1) = sqK I k + fZ (atB I k) * fZ (atB I k)) := rfl
      subst hao
      clear hc x64 hfx l1
      generalize sqK I k + fZ (atB I k) * fZ (atB I k) = s2 at *
      generalize fZ (atB I k) * fZ (atB I k) = p at *
      generalize fZ (atB I k) = z at *
      generalize atB I k = x at *
      go_wp2_with fail
      refine (unhide C1 _).mono ?_
      rintro e wv ⟨q, rfl, ⟨n1, a1, c1, L1, rfl, i1⟩, hb1⟩
      have hv : IsLv wv (.agg #[.bool n1, .slice a1 L1.length c1, .int .i64 (oE z (-1074))]) (-1074) z := ⟨n1, a1, c1, L1, rfl, i1⟩
      generalize L1.length = l1 at *
      generalize oE z (-1074) = X1 at *
      have HV := hide (hv.below (below_alloc9 wv (.cells #[.bool n1, .slice a1 l1 c1, .int .i64 X1] 45)))
      have bv := hB.out.trans (hb1.mono hB.out.size)
      have BV := hide (bv.alloc bv.size (.cells #[.bool n1, .slice a1 l1 c1, .int .i64 X1] 45))
      have HS := hide (((unhide hs).below hb1).below (below_alloc9 wv (.cells #[.bool n1, .slice a1 l1 c1, .int .i64 X1] 45)))
      have XR := hide (((unhide xr).all hb1).old (.cells #[.bool n1, .slice a1 l1 c1, .int .i64 X1] 45))
      have XS := hide (((unhide xs).all hb1).old (.cells #[.bool n1, .slice a1 l1 c1, .int .i64 X1] 45))
      have XV := hide (Box3.new wv (.bool n1) (.slice a1 l1 c1) (.int .i64 X1))
      clear i1 hv hb1 bv hB hs xr xs C1
      go_wp2_with fail
      refine at_world (fun W => Below w.heap.size w W ∧ Box3 W w.heap.size (.bool false) (.slice none 0 0) (.int .i64 0) ∧ Box3 W (w.heap.size + 1) (.bool nn) (.slice aa ll cc) (.int .i64 X) ∧ Box3 W wv.heap.size (.bool n1) (.slice a1 l1 c1) (.int .i64 X1) ∧ IsLv W (.agg #[.bool nn, .slice aa ll cc, .int .i64 X]) (-2148) (sqK I k) ∧ IsLv W (.agg #[.bool n1, .slice a1 l1 c1, .int .i64 X1]) (-1074) z) ⟨unhide BV, unhide XR, unhide XS, unhide XV, unhide HS, unhide HV⟩ ?_
      rintro W0 ⟨b0, x0, x1, x2, h1, h2⟩
      have b0 := b0.drew; have x0 := x0.drew; have x1 := x1.drew; have x2 := x2.drew
      have h1 := h1.below ((Below.refl W0.heap.size W0).drew); have h2 := h2.below ((Below.refl W0.heap.size W0).drew)
      clear BV XR XS XV HS HV
      have hgs : w.heap.size ≤ w.heap.size + 1 := by omega
      have hne : w.heap.size ≠ w.heap.size + 1 := by omega
      have HZ := hide hgs; have HNE := hide hne
      clear hgs hne
      generalize wv.heap.size = gv at *
      have y0 := x1.c0; have y1 := x1.c1; have y2 := x1.c2; have f0 := x1.free 0; have f1 := x1.free 1; have f2 := x1.free 2
      have v0 := x2.c0; have v1 := x2.c1; have v2 := x2.c2
      have X0 := hide x0; have XX1 := hide x1; have XX2 := hide x2; have H1 := hide h1; have H2 := hide h2; have BB := hide b0
      clear x0 x1 x2 h1 h2 b0
      go_region_with (first | (go_at_call 26; refine (unhide C2 _ _ (unhide H2)).mono ?_; rintro e w4 ⟨q, rfl, ⟨n4, a4, c4, L4, rfl, i4⟩, hb4⟩; clear y0 y1 y2 f0 f1 f2 v0 v1 v2; have Q4 := hide (show IsLv w4 (.agg #[.bool n4, .slice a4 L4.length c4, .int .i64 (oE p (-2148))]) (-2148) p from ⟨n4, a4, c4, L4, rfl, i4⟩); generalize L4.length = l4 at *; generalize oE p (-2148) = X4 at *; have x1 := (unhide XX1).all hb4; have BB := hide ((unhide BB).trans (hb4.mono (unhide BB).size)); have X0 := hide ((unhide X0).all hb4); have H1 := hide ((unhide H1).below hb4); have XX1 := hide x1; have y0 := x1.c0; have y1 := x1.c1; have y2 := x1.c2; have f0 := x1.free 0; have f1 := x1.free 1; have f2 := x1.free 2; clear i4 hb4 x1) | (go_at_call 63; refine (unhide C3 _ _ _ (unhide H1) (unhide Q4)).mono ?_; rintro e w5 ⟨q, rfl, ⟨n5, a5, c5, L5, rfl, i5⟩, hb5⟩; clear y0 y1 y2 f0 f1 f2; have Q5 := hide (show IsLv w5 (.agg #[.bool n5, .slice a5 L5.length c5, .int .i64 (oE s2 (-2148))]) (-2148) s2 from ⟨n5, a5, c5, L5, rfl, i5⟩); generalize L5.length = l5 at *; generalize oE s2 (-2148) = X5 at *; have x1 := (unhide XX1).all hb5; have BB := hide ((unhide BB).trans (hb5.mono (unhide BB).size)); have X0 := hide ((unhide X0).all hb5); have XX1 := hide x1; have y0 := x1.c0; have y1 := x1.c1; have y2 := x1.c2; have f0 := x1.free 0; have f1 := x1.free 1; have f2 := x1.free 2; clear i5 hb5 x1) | fail "NO ARM")
      all_goals
        have X0' := hide ((((unhide X0).other (p := ⟨w.heap.size + 1, 0, none⟩) (unhide HNE) (.bool n5)).other (p := ⟨w.heap.size + 1, 1, none⟩) (unhide HNE) (.slice a5 l5 c5)).other (p := ⟨w.heap.size + 1, 2, none⟩) (unhide HNE) (.int .i64 X5))
        have X1' := hide ((unhide XX1).put (.bool n5) (.slice a5 l5 c5) (.int .i64 X5))
        have Q' := hide (IsDy.put3 (unhide Q5) (unhide XX1) (.bool n5) (.slice a5 l5 c5) (.int .i64 X5))
        have B' := hide ((((unhide BB).setCell (p := ⟨w.heap.size + 1, 0, none⟩) (unhide HZ) (.bool n5)).setCell (p := ⟨w.heap.size + 1, 1, none⟩) (unhide HZ) (.slice a5 l5 c5)).setCell (p := ⟨w.heap.size + 1, 2, none⟩) (unhide HZ) (.int .i64 X5))
        clear X0 XX1 Q5 BB
        go_wp2_with fail
        go_round
        case rel => exact ⟨k + 1, n5, a5, l5, c5, X5, by omega, by go_num, X0', X1', by rw [unhide eV]; exact Q', B'⟩
        case measure => simp [intOf]; omega
    · have hkk : k = n := by omega
      subst hkk
      have y0 := (unhide xs).c0
      have y1 := (unhide xs).c1
      have y2 := (unhide xs).c2
      have r0 := (unhide xr).c0
      have r1 := (unhide xr).c1
      have r2 := (unhide xr).c2
      have f0 := (unhide xr).free 0
      have f1 := (unhide xr).free 1
      have f2 := (unhide xr).free 2
      have hb1 : w.heap.size + 1 ≠ w.heap.size := by omega
      have HS := hide (IsDy.put3 (unhide hs) (unhide xr) (.bool nn) (.slice aa ll cc) (.int .i64 X))
      have BE := hide (((hB.out.setCell (p := ⟨w.heap.size, 0, none⟩) (Nat.le_refl _) (.bool nn)).setCell (p := ⟨w.heap.size, 1, none⟩) (Nat.le_refl _) (.slice aa ll cc)).setCell (p := ⟨w.heap.size, 2, none⟩) (Nat.le_refl _) (.int .i64 X))
      have xe := (unhide xr).put (.bool nn) (.slice aa ll cc) (.int .i64 X)
      have e0 := xe.c0; have e1 := xe.c1; have e2 := xe.c2
      clear xe hb1 xr xs hs hB
      go_wp2_with fail
      exact bodyPost_ret (v := .agg #[.bool nn, .slice aa ll cc, .int .i64 X]) (by simp [results, Tryz.results27, go_sem, e0, e1, e2]) rfl ⟨_, rfl, unhide HS, unhide BE⟩

end Go.Proofs.YtlbggedahpnjgaaGreatDoor

/- What is reckoned place by place, and what is known of lists. -/
namespace Go.Proofs.YtlbggedahpnjgaaGreatDoor
open Go.RowKit

/-- The numbers of a list. -/
def toN (I : List Int) : List Nat := I.map Int.toNat
theorem toN_len (I : List Int) : (toN I).length = I.length := by simp [toN]
theorem toN_at (I : List Int) (j : Nat) (hj : j < I.length) : (toN I)[j]? = some (atB I j) := by simp [toN, atB, hj]
theorem toN_take (I : List Int) (j : Nat) (hj : j < I.length) : (toN I).take (j + 1) = (toN I).take j ++ [atB I j] := by
  rw [List.take_add_one, toN_at I j hj]
  rfl
theorem toN_mem {w : World} {ao : Option Addr} {c : Nat} {I : List Int} (h : BitsAt w ao c I) : ∀ x ∈ toN I, x < 18446744073709551616 := by
  intro x hx
  obtain ⟨y, hy, rfl⟩ := List.mem_map.1 hx
  have := h.2.1 y hy
  omega
theorem toN_all (I : List Int) (P : Nat → Prop) (h : ∀ j, j < I.length → P (atB I j)) : ∀ x ∈ toN I, P x := by
  intro x hx
  obtain ⟨j, hj, rfl⟩ := List.getElem_of_mem hx
  have hj' : j < I.length := by rw [← toN_len]; exact hj
  have e := toN_at I j hj'
  rw [List.getElem?_eq_getElem hj] at e
  rw [Option.some.inj e]
  exact h j hj'

theorem bgF_snoc (x : Nat) : ∀ (xs : List Nat) (m : Nat), bgF m (xs ++ [x]) = mx (bgF m xs) (fR x) := by
  intro xs
  induction xs with
  | nil => intro m; rfl
  | cons y ys ih => intro m; exact ih _
theorem ssV_snoc (k : Int) (x : Nat) : ∀ (xs : List Nat) (s : Nat), ssV k s (xs ++ [x]) = sqV k (ssV k s xs) x := by
  intro xs
  induction xs with
  | nil => intro m; rfl
  | cons y ys ih => intro m; exact ih _
theorem sumQ_snoc (x : Nat) : ∀ (xs : List Nat), sumQ (xs ++ [x]) = sumQ xs + fQ x * fQ x := by
  intro xs
  induction xs with
  | nil =>
    show fQ x * fQ x + 0 = 0 + fQ x * fQ x
    rw [Rat.add_zero, Rat.zero_add]
  | cons y ys ih =>
    show fQ y * fQ y + sumQ (ys ++ [x]) = fQ y * fQ y + sumQ ys + fQ x * fQ x
    rw [ih, Rat.add_assoc]

theorem bgK_list (I : List Int) : ∀ j, j ≤ I.length → bgK I j = bgF 0 ((toN I).take j) := by
  intro j
  induction j with
  | zero => intro _; rfl
  | succ j ih =>
    intro hj
    rw [toN_take I j (by omega), bgF_snoc, ← ih (by omega)]
    rfl
theorem bgK_all (I : List Int) : bgK I I.length = bgF 0 (toN I) := by
  rw [bgK_list I _ (Nat.le_refl _), List.take_of_length_le (by rw [toN_len]; exact Nat.le_refl _)]
theorem dtK_list (k : Int) (I : List Int) : ∀ j, j ≤ I.length → dtK (tL k I) (tL k I) j = ssV k 0 ((toN I).take j) := by
  intro j
  induction j with
  | zero => intro _; rfl
  | succ j ih =>
    intro hj
    rw [toN_take I j (by omega), ssV_snoc, ← ih (by omega)]
    show aV (dtK (tL k I) (tL k I) j) (mV (atB (tL k I) j) (atB (tL k I) j)) = _
    rw [show atB (tL k I) j = xV (atB I j) (-k) from mkL_at _ _ j (by omega)]
    rfl
theorem dtK_all (k : Int) (I : List Int) : dtK (tL k I) (tL k I) I.length = ssV k 0 (toN I) := by
  rw [dtK_list k I _ (Nat.le_refl _), List.take_of_length_le (by rw [toN_len]; exact Nat.le_refl _)]
/-- The norm by places is the norm of the list. -/
theorem nmV_nrV (I : List Int) : nmV I = nrV (toN I) := by
  unfold nmV nrV
  rw [dtK_all, bgK_all]

theorem sqK_list (I : List Int) : ∀ j, j ≤ I.length → (sqK I j : Rat) * p2 (-2148) = sumQ ((toN I).take j) := by
  intro j
  induction j with
  | zero => intro _; exact Rat.zero_mul _
  | succ j ih =>
    intro hj
    rw [toN_take I j (by omega), sumQ_snoc, ← ih (by omega)]
    show ((sqK I j + fZ (atB I j) * fZ (atB I j) : Int) : Rat) * p2 (-2148) = _
    have e : p2 (-2148) = p2 (-1074) * p2 (-1074) := by rw [← p2_add]; rfl
    unfold fQ
    rw [Rat.intCast_add, Rat.intCast_mul, e]
    grind
theorem sqK_all (I : List Int) : (sqK I I.length : Rat) * p2 (-2148) = sumQ (toN I) := by
  rw [sqK_list I _ (Nat.le_refl _), List.take_of_length_le (by rw [toN_len]; exact Nat.le_refl _)]

theorem tame_list {w : World} {ao : Option Addr} {c : Nat} {I : List Int} {K : Int} (hI : BitsAt w ao c I) (h : tmK K I I.length = true) : TameV K (toN I) := by
  refine toN_all I _ fun j hj => ?_
  have h2 := tmK_at K I _ j hj h
  unfold tmB at h2
  rw [Bool.and_eq_true, Bool.or_eq_true] at h2
  refine ⟨hI.lt j, h2.1, ?_⟩
  rcases h2.2 with g | g
  · exact .inl (of_decide_eq_true g)
  · exact .inr (of_decide_eq_true g)
theorem tame_fn (I : List Int) (K : Int) (h : tmK K I I.length = true) : fnK I I.length = true := by
  have : ∀ n, tmK K I n = true → fnK I n = true := by
    intro n
    induction n with
    | zero => intro _; rfl
    | succ n ih =>
      intro h
      have h' : (tmK K I n && tmB K (atB I n)) = true := h
      rw [Bool.and_eq_true] at h'
      show (fnK I n && fFin (atB I n)) = true
      have h2 := h'.2
      unfold tmB at h2
      rw [Bool.and_eq_true] at h2
      rw [ih h'.1, h2.1]
      rfl
  exact this _ h

/-- The norm is right, in whole numbers. -/
theorem right_whole {w : World} {ao : Option Addr} {c : Nat} {I : List Int} (hI : BitsAt w ao c I) (hn : I.length ≤ 64) (h : tmK 900 I I.length = true) :
    fFin (nmV I) = true ∧ fS (nmV I) = false ∧ (((fZ (nmV I) * fZ (nmV I) - sqK I I.length).natAbs : Int) * 2 ^ 44 ≤ sqK I I.length) := by
  obtain ⟨h1, h2, h3⟩ := norm_right 900 (by decide) (toN I) (by rw [toN_len]; exact hn) (tame_list hI h)
  rw [← nmV_nrV] at h1 h2 h3
  refine ⟨h1, h2, ?_⟩
  rw [← sqK_all] at h3
  have e : p2 (-2148) = p2 (-1074) * p2 (-1074) := by rw [← p2_add]; rfl
  have hp := p2_pos (-2148)
  unfold fQ at h3
  generalize fZ (nmV I) = z at *
  generalize sqK I I.length = S at *
  have e2 : (z : Rat) * p2 (-1074) * ((z : Rat) * p2 (-1074)) - (S : Rat) * p2 (-2148) = ((z * z - S : Int) : Rat) * p2 (-2148) := by
    rw [Rat.intCast_sub, Rat.intCast_mul, e]
    grind
  rw [e2, ab_mul, ab_pos (Rat.le_of_lt hp), ← Rat.mul_assoc] at h3
  have h4 : 17592186044416 * ab ((z * z - S : Int) : Rat) ≤ (S : Rat) := Rat.le_of_mul_le_mul_right h3 hp
  have e3 : ab ((z * z - S : Int) : Rat) = (((z * z - S).natAbs : Int) : Rat) := by
    unfold ab
    generalize z * z - S = d
    rcases Int.le_total 0 d with g | g
    · have : (0 : Rat) ≤ (d : Rat) := Rat.intCast_nonneg.2 g
      rw [show ((d.natAbs : Nat) : Int) = d by omega]
      grind
    · have : (d : Rat) ≤ 0 := by
        have := Rat.intCast_le_intCast.2 g
        grind
      rw [show ((d.natAbs : Nat) : Int) = -d by omega, Rat.intCast_neg]
      grind
  rw [e3] at h4
  have h5 : (((z * z - S).natAbs : Int) * 17592186044416 : Int) ≤ S := by
    rw [← Rat.intCast_le_intCast, Rat.intCast_mul]
    have : ((17592186044416 : Int) : Rat) = 17592186044416 := rfl
    rw [this, Rat.mul_comm]
    exact h4
  rw [show (2 : Int) ^ 44 = 17592186044416 by decide]
  exact h5

theorem fits_same (ao : Option Addr) (n c : Nat) (w : World) :
    Calls Tryz.prog 10 #[.slice ao n c, .slice ao n c] w fun r w' => r = .returned (.int .i64 (if n ≤ 64 then 0 else 3)) ∧ w = w' := by
  have := lfits_any ao ao n n c c w
  simpa using this

end Go.Proofs.YtlbggedahpnjgaaGreatDoor

/- The law VectorOrder, walked. -/
namespace Go.Proofs.YtlbggedahpnjgaaGreatDoor
open Go.RowKit
attribute [local go_sem ↓] Go.wp_at_zero Go.wp_at_succ

theorem dy_len9 {w : World} {n : Bool} {a : Option Addr} {l c : Nat} {X M Y : Int} (h : IsDy w (.agg #[.bool n, .slice a l c, .int .i64 X]) M Y) : l = 0 ↔ M = 0 := by
  obtain ⟨n', a', c', L, e1, n2, a2, c2, L2, e2, h1, h2, h3, h4, h5, h6⟩ := h
  simp only [Value.agg.injEq, Array.mk.injEq, List.cons.injEq, Value.slice.injEq] at e1 e2
  have el : l = L2.length := by rw [e1.2.1.2.1]; exact e2.2.1.2.1
  rw [el]
  have hi := length_le_iff L2 h1.2.1 h3 0
  rw [Nat.pow_zero] at hi
  constructor
  · intro h; have := hi.1 (by omega); omega
  · intro h; have := hi.2 (by omega); omega

set_option maxRecDepth 20000 in
set_option maxHeartbeats 8000000 in
theorem vectorOrder_neg (ao bo : Option Addr) (n m c d x mm o : Nat) (er zm zn zd : Int) (w : World) (hz : zd < 0)
    (C1 : Calls Tryz.prog 30 #[.slice ao n c, .slice bo m d] w fun e w'' => e = .returned (.tuple #[.int .u64 (x : Nat), .int .i64 er]) ∧ Below w.heap.size w w'')
    (C2 : ∀ w', Below w.heap.size w w' → Calls Tryz.prog 30 #[.slice bo m d, .slice ao n c] w' fun e w'' => e = .returned (.tuple #[.int .u64 (x : Nat), .int .i64 er]) ∧ Below w'.heap.size w' w'')
    (C3 : ∀ w', Calls Tryz.prog 10 #[.slice ao n c, .slice ao n c] w' fun e w'' => e = .returned (.int .i64 0) ∧ w' = w'')
    (C4 : ∀ w', Below w.heap.size w w' → Calls Tryz.prog 21 #[.slice ao n c, .int .i64 900] w' fun e w'' => e = .returned (.bool true) ∧ Below w'.heap.size w' w'')
    (C5 : ∀ w', Below w.heap.size w w' → Calls Tryz.prog 15 #[.slice ao n c] w' fun e w'' => e = .returned (.tuple #[.int .u64 (o : Nat), .int .i64 0]) ∧ Below w'.heap.size w' w'')
    (C6 : ∀ w', Below w.heap.size w w' → Calls Tryz.prog 16 #[.slice ao n c] w' fun e w'' => e = .returned (.int .u64 (mm : Nat)) ∧ Below w'.heap.size w' w'')
    (C7 : ∀ w', Calls Tryz.prog 24 #[.int .u64 mm] w' fun r w'' => ∃ u, r = .returned u ∧ IsLv w'' u (-1074) zm ∧ Below w'.heap.size w' w'')
    (C8 : ∀ w', Calls Tryz.prog 24 #[.int .u64 o] w' fun r w'' => ∃ u, r = .returned u ∧ IsLv w'' u (-1074) zn ∧ Below w'.heap.size w' w'')
    (C9 : ∀ w' v u, IsLv w' v (-1074) zm → IsLv w' u (-1074) zn → Calls Tryz.prog 31 #[v, u] w' fun r w'' => ∃ q, r = .returned q ∧ IsLv w'' q (-1074) zd ∧ Below w'.heap.size w' w'')
    (CA : ∀ w', Calls Tryz.prog 32 #[.int .u64 o] w' fun e w'' => e = .returned (.int .u64 (o : Nat)) ∧ w' = w'')
    (CC : ∀ w' v u, IsLv w' v (-1074) zn → IsLv w' u (-1074) zm → Calls Tryz.prog 33 #[v, u] w' fun r w'' => r = .returned (.int .i64 1) ∧ Below w'.heap.size w' w'')
    (CS : ∀ w' v, IsLv w' v (-1074) zm → Calls Tryz.prog 34 #[v, .int .i64 (-50)] w' fun r w'' => ∃ q, r = .returned q ∧ IsLv w'' q (-1124) zm ∧ Below w'.heap.size w' w'')
    (CD : ∀ w' v u, IsLv w' v (-1074) zd → IsLv w' u (-1124) zm → Calls Tryz.prog 33 #[v, u] w' fun r w'' => r = .returned (.int .i64 (-1)) ∧ Below w'.heap.size w' w'')
    (CW : ∀ w', Below w.heap.size w w' → Calls Tryz.prog 14 #[] w' fun e w'' => e = .returned (.bool true) ∧ Below w'.heap.size w' w'') :
    Calls Tryz.prog 7 #[.slice ao n c, .slice bo m d] w fun r w' => r = .returned (.bool true) ∧ Below w.heap.size w w' := by
  have K1 := hide C1; have K2 := hide C2; have K3 := hide C3; have K4 := hide C4; have K5 := hide C5; have K6 := hide C6; have K7 := hide C7; have K8 := hide C8; have K9 := hide C9; have KCA := hide CA; have KCC := hide CC; have KCS := hide CS; have KCD := hide CD; have KCW := hide CW
  clear C1 C2 C3 C4 C5 C6 C7 C8 C9 CA CC CS CD CW
  go_enter Tryz.func7, Tryz.ntmps7
  go_wp2_with fail
  refine Calls.mono (unhide K1) ?_
  rintro e w1 ⟨rfl, hb1⟩
  have B := hide hb1
  clear K1 hb1
  go_wp2_with fail
  refine (unhide K2 _ (unhide B)).mono ?_
  rintro e w1 ⟨rfl, hb1⟩
  have B := hide ((unhide B).trans (hb1.mono (unhide B).size))
  clear K2 hb1
  go_wp2_with fail
  refine (unhide K3 _).mono ?_
  rintro e w1 ⟨rfl, rfl⟩
  clear K3
  go_wp2_with fail
  refine (unhide K4 _ (unhide B)).mono ?_
  rintro e w1 ⟨rfl, hb1⟩
  have B := hide ((unhide B).trans (hb1.mono (unhide B).size))
  clear K4 hb1
  go_wp2_with fail
  refine (unhide K5 _ (unhide B)).mono ?_
  rintro e w1 ⟨rfl, hb1⟩
  have B := hide ((unhide B).trans (hb1.mono (unhide B).size))
  clear K5 hb1
  go_wp2_with fail
  refine (unhide K6 _ (unhide B)).mono ?_
  rintro e w1 ⟨rfl, hb1⟩
  have B := hide ((unhide B).trans (hb1.mono (unhide B).size))
  clear K6 hb1
  go_wp2_with fail
  refine (unhide K7 _).mono ?_
  rintro e w2 ⟨v, rfl, hv, hb1⟩
  have B := hide ((unhide B).trans (hb1.mono (unhide B).size))
  have HV := hide hv
  clear hb1 hv
  go_wp2_with fail
  refine (unhide K8 _).mono ?_
  rintro e w3 ⟨u, rfl, hu, hb1⟩
  have B := hide ((unhide B).trans (hb1.mono (unhide B).size))
  have HV := hide ((unhide HV).below hb1)
  have HU := hide hu
  clear hb1 hu
  go_wp2_with fail
  refine (unhide K9 _ _ _ (unhide HV) (unhide HU)).mono ?_
  rintro e wv ⟨q, rfl, ⟨n1, a1, c1, L1, rfl, i1⟩, hb1⟩
  have hv : IsLv wv (.agg #[.bool n1, .slice a1 L1.length c1, .int .i64 (oE zd (-1074))]) (-1074) zd := ⟨n1, a1, c1, L1, rfl, i1⟩
  have hs := dy_sign (show IsDy wv (.agg #[.bool n1, .slice a1 L1.length c1, .int .i64 (oE zd (-1074))]) (oM zd) (oE zd (-1074)) from hv)
  rw [decide_eq_true ((oM_neg_iff zd).2 hz)] at hs
  subst hs
  generalize L1.length = l1 at *
  generalize oE zd (-1074) = X1 at *
  have HV := hide (hv.below (below_alloc9 wv (.cells #[.bool true, .slice a1 l1 c1, .int .i64 X1] 45)))
  have bv := (unhide B).trans (hb1.mono (unhide B).size)
  have BV := hide (bv.alloc bv.size (.cells #[.bool true, .slice a1 l1 c1, .int .i64 X1] 45))
  have XV := hide (Box3.new wv (.bool true) (.slice a1 l1 c1) (.int .i64 X1))
  clear i1 hv hb1 bv B K9
  go_wp2_with fail
  refine at_world (fun W => Below w.heap.size w W ∧ Box3 W wv.heap.size (.bool true) (.slice a1 l1 c1) (.int .i64 X1) ∧ IsLv W (.agg #[.bool true, .slice a1 l1 c1, .int .i64 X1]) (-1074) zd) ⟨unhide BV, unhide XV, unhide HV⟩ ?_
  clear BV XV HV
  rintro W0 ⟨b0, x0, h0⟩
  generalize wv.heap.size = g at *
  have HK := hide (fun w' (h : Below W0.heap.size W0 w') => (show Below W0.heap.size W0 w' ∧ w'.cell? ⟨g, 0, none⟩ = some (.bool true) ∧ w'.cell? ⟨g, 1, none⟩ = some (.slice a1 l1 c1) ∧ w'.cell? ⟨g, 2, none⟩ = some (.int .i64 X1) from ⟨h, (x0.all h).c0, (x0.all h).c1, (x0.all h).c2⟩))
  have BB := hide b0; have HD := hide h0
  have KW := hide (fun w' (h : Below W0.heap.size W0 w') => unhide KCW w' (b0.trans (h.mono b0.size)))
  clear b0 x0 h0 KCW
  refine wp_region_held_drew (S := (fun w' => Below W0.heap.size W0 w' ∧ w'.cell? ⟨g, 0, none⟩ = some (.bool true) ∧ w'.cell? ⟨g, 1, none⟩ = some (.slice a1 l1 c1) ∧ w'.cell? ⟨g, 2, none⟩ = some (.int .i64 X1))) (by kernel_rfl) ?_ (fun hHeld => ?_)
  · exact unhide HK _ (Below.refl _ _).drew
  refine wpAnyH_take (i := 0) (oi := { dst := some 55, op := Op.move (Operand.tmp 9), type := 23, pos := "law.go:117", after := #[], guard := none }) (v := (.int .u64 o)) rfl (by kernel_rfl) (by kernel_rfl) (by kernel_rfl) (fun _ _ _ h => h) (Or.inl ⟨by rfl, ?_⟩) (by assumption) ?_
  · (intro w hSw; (try dsimp only at hSw); go_simp)
  simp only [Act.put, List.setIfInBounds_toArray, List.set_cons_zero, List.set_cons_succ]
  refine wpAnyH_take (i := 2) (oi := { dst := some 57, op := Op.move (Operand.tmp 9), type := 23, pos := "law.go:117", after := #[], guard := none }) (v := (.int .u64 o)) rfl (by kernel_rfl) (by kernel_rfl) (by kernel_rfl) (fun _ _ _ h => h) (Or.inl ⟨by rfl, ?_⟩) (by assumption) ?_
  · (intro w hSw; (try dsimp only at hSw); go_simp)
  simp only [Act.put, List.setIfInBounds_toArray, List.set_cons_zero, List.set_cons_succ]
  refine wpAnyH_take (i := 17) (oi := { dst := some 72, op := Op.move (Operand.tmp 9), type := 23, pos := "law.go:117", after := #[], guard := none }) (v := (.int .u64 o)) rfl (by kernel_rfl) (by kernel_rfl) (by kernel_rfl) (fun _ _ _ h => h) (Or.inl ⟨by rfl, ?_⟩) (by assumption) ?_
  · (intro w hSw; (try dsimp only at hSw); go_simp)
  simp only [Act.put, List.setIfInBounds_toArray, List.set_cons_zero, List.set_cons_succ]
  refine wpAnyH_take (i := 19) (oi := { dst := some 74, op := Op.move (Operand.tmp 11), type := 23, pos := "law.go:117", after := #[], guard := none }) (v := (.int .u64 mm)) rfl (by kernel_rfl) (by kernel_rfl) (by kernel_rfl) (fun _ _ _ h => h) (Or.inl ⟨by rfl, ?_⟩) (by assumption) ?_
  · (intro w hSw; (try dsimp only at hSw); go_simp)
  simp only [Act.put, List.setIfInBounds_toArray, List.set_cons_zero, List.set_cons_succ]
  refine wpAnyH_ready (rs := [1]) (by kernel_rfl) (by simp) ?_
  refine AllReadyH.cons (o := { dst := some 56, op := Op.call { callee := Callee.value (Operand.func 32), args := #[Operand.tmp 55], argTypes := #[23] }, type := 23, pos := "law.go:117", after := #[{ on := 0, ground := Ground.data }], guard := none }) rfl (fun K hK => ?_) AllReadyH.nil
  go_simp
  refine (unhide KCA _).mono ?_
  rintro e wf ⟨rfl, rfl⟩
  go_wp2_with fail
  refine hK.out _ _ ?_ (fun hHeld => ?_)
  · exact by assumption
  clear hK K
  refine wpAnyH_take (i := 3) (oi := { dst := some 58, op := Op.binOp BinOp.eql 23 (Operand.tmp 56) (Operand.tmp 57) 23, type := 4, pos := "law.go:117", after := #[{ on := 1, ground := Ground.data }, { on := 2, ground := Ground.data }], guard := none }) (v := (.bool true)) rfl (by kernel_rfl) (by kernel_rfl) (by kernel_rfl) (fun _ _ _ h => h) (Or.inl ⟨by rfl, ?_⟩) (by assumption) ?_
  · (intro w hSw; (try dsimp only at hSw); go_simp)
  simp only [Act.put, List.setIfInBounds_toArray, List.set_cons_zero, List.set_cons_succ]
  refine wpAnyH_take (i := 4) (oi := { dst := some 59, op := Op.move (Operand.tmp 58), type := 4, pos := "law.go:117", after := #[{ on := 3, ground := Ground.data }, { on := 1, ground := Ground.chain }], guard := none }) (v := (.bool true)) rfl (by kernel_rfl) (by kernel_rfl) (by kernel_rfl) (fun _ _ _ h => h) (Or.inl ⟨by rfl, ?_⟩) (by assumption) ?_
  · (intro w hSw; (try dsimp only at hSw); go_simp)
  simp only [Act.put, List.setIfInBounds_toArray, List.set_cons_zero, List.set_cons_succ]
  refine wpAnyH_take (i := 5) (oi := { dst := some 60, op := Op.fieldAddr 45 (Operand.tmp 12) 0, type := 0, pos := "law.go:117", after := #[{ on := 4, ground := Ground.guard }], guard := some (4, true) }) (v := (.pointer (some ⟨g, 0, none⟩))) rfl (by kernel_rfl) (by kernel_rfl) (by kernel_rfl) (fun _ _ _ h => h) (Or.inl ⟨by rfl, ?_⟩) (by assumption) ?_
  · (intro w hSw; (try dsimp only at hSw); go_simp)
  simp only [Act.put, List.setIfInBounds_toArray, List.set_cons_zero, List.set_cons_succ]
  refine wpAnyH_take (i := 6) (oi := { dst := some 61, op := Op.fieldAddr 43 (Operand.tmp 60) 0, type := 0, pos := "law.go:117", after := #[{ on := 5, ground := Ground.data }, { on := 4, ground := Ground.guard }], guard := some (4, true) }) (v := (.pointer (some ⟨g, 0, none⟩))) rfl (by kernel_rfl) (by kernel_rfl) (by kernel_rfl) (fun _ _ _ h => h) (Or.inl ⟨by rfl, ?_⟩) (by assumption) ?_
  · (intro w hSw; (try dsimp only at hSw); go_simp)
  simp only [Act.put, List.setIfInBounds_toArray, List.set_cons_zero, List.set_cons_succ]
  refine wpAnyH_take (i := 7) (oi := { dst := some 62, op := Op.load 4 (Operand.tmp 61), type := 4, pos := "law.go:117", after := #[{ on := 6, ground := Ground.data }, { on := 4, ground := Ground.guard }], guard := some (4, true) }) (v := (.bool true)) rfl (by kernel_rfl) (by kernel_rfl) (by kernel_rfl) (fun _ _ _ h => h) (Or.inl ⟨by rfl, ?_⟩) (by assumption) ?_
  · (intro w hSw; (try dsimp only at hSw); go_simp)
  simp only [Act.put, List.setIfInBounds_toArray, List.set_cons_zero, List.set_cons_succ]
  refine wpAnyH_take (i := 8) (oi := { dst := some 63, op := Op.unOp UnOp.not 4 (Operand.tmp 62), type := 4, pos := "law.go:117", after := #[{ on := 7, ground := Ground.data }, { on := 4, ground := Ground.guard }], guard := some (4, true) }) (v := (.bool false)) rfl (by kernel_rfl) (by kernel_rfl) (by kernel_rfl) (fun _ _ _ h => h) (Or.inl ⟨by rfl, ?_⟩) (by assumption) ?_
  · (intro w hSw; (try dsimp only at hSw); go_simp)
  simp only [Act.put, List.setIfInBounds_toArray, List.set_cons_zero, List.set_cons_succ]
  refine wpAnyH_take (i := 9) (oi := { dst := some 64, op := Op.pick (Operand.tmp 59) (Operand.tmp 63) (Operand.const (Value.bool false)), type := 4, pos := "law.go:117", after := #[{ on := 4, ground := Ground.data }, { on := 8, ground := Ground.data }], guard := none }) (v := (.bool false)) rfl (by kernel_rfl) (by kernel_rfl) (by kernel_rfl) (fun _ _ _ h => h) (Or.inl ⟨by rfl, ?_⟩) (by assumption) ?_
  · (intro w hSw; (try dsimp only at hSw); go_simp)
  simp only [Act.put, List.setIfInBounds_toArray, List.set_cons_zero, List.set_cons_succ]
  refine wpAnyH_take (i := 10) (oi := { dst := some 65, op := Op.move (Operand.tmp 64), type := 4, pos := "law.go:117", after := #[{ on := 9, ground := Ground.data }, { on := 4, ground := Ground.chain }], guard := none }) (v := (.bool false)) rfl (by kernel_rfl) (by kernel_rfl) (by kernel_rfl) (fun _ _ _ h => h) (Or.inl ⟨by rfl, ?_⟩) (by assumption) ?_
  · (intro w hSw; (try dsimp only at hSw); go_simp)
  simp only [Act.put, List.setIfInBounds_toArray, List.set_cons_zero, List.set_cons_succ]
  refine wpAnyH_take (i := 11) (oi := { dst := some 66, op := Op.fieldAddr 45 (Operand.tmp 12) 0, type := 0, pos := "law.go:117", after := #[{ on := 10, ground := Ground.guard }], guard := some (10, true) }) (v := undef) rfl (by kernel_rfl) (by kernel_rfl) (by kernel_rfl) (fun _ _ _ h => h) (Or.inr ⟨by rfl, rfl⟩) (by assumption) ?_
  simp only [Act.put, List.setIfInBounds_toArray, List.set_cons_zero, List.set_cons_succ]
  refine wpAnyH_take (i := 12) (oi := { dst := some 67, op := Op.fieldAddr 43 (Operand.tmp 66) 1, type := 0, pos := "law.go:117", after := #[{ on := 11, ground := Ground.data }, { on := 10, ground := Ground.guard }], guard := some (10, true) }) (v := undef) rfl (by kernel_rfl) (by kernel_rfl) (by kernel_rfl) (fun _ _ _ h => h) (Or.inr ⟨by rfl, rfl⟩) (by assumption) ?_
  simp only [Act.put, List.setIfInBounds_toArray, List.set_cons_zero, List.set_cons_succ]
  refine wpAnyH_take (i := 13) (oi := { dst := some 68, op := Op.load 41 (Operand.tmp 67), type := 41, pos := "law.go:117", after := #[{ on := 12, ground := Ground.data }, { on := 10, ground := Ground.guard }], guard := some (10, true) }) (v := undef) rfl (by kernel_rfl) (by kernel_rfl) (by kernel_rfl) (fun _ _ _ h => h) (Or.inr ⟨by rfl, rfl⟩) (by assumption) ?_
  simp only [Act.put, List.setIfInBounds_toArray, List.set_cons_zero, List.set_cons_succ]
  refine wpAnyH_take (i := 14) (oi := { dst := some 69, op := Op.call { callee := Callee.builtin Builtin.len, args := #[Operand.tmp 68], argTypes := #[41] }, type := 3, pos := "law.go:117", after := #[{ on := 13, ground := Ground.data }, { on := 10, ground := Ground.guard }], guard := some (10, true) }) (v := undef) rfl (by kernel_rfl) (by kernel_rfl) (by kernel_rfl) (fun _ _ _ h => h) (Or.inr ⟨by rfl, rfl⟩) (by assumption) ?_
  simp only [Act.put, List.setIfInBounds_toArray, List.set_cons_zero, List.set_cons_succ]
  refine wpAnyH_take (i := 15) (oi := { dst := some 70, op := Op.binOp BinOp.gtr 3 (Operand.tmp 69) (Operand.const (Value.int IntKind.i64 0)) 3, type := 4, pos := "law.go:117", after := #[{ on := 14, ground := Ground.data }, { on := 10, ground := Ground.guard }], guard := some (10, true) }) (v := undef) rfl (by kernel_rfl) (by kernel_rfl) (by kernel_rfl) (fun _ _ _ h => h) (Or.inr ⟨by rfl, rfl⟩) (by assumption) ?_
  simp only [Act.put, List.setIfInBounds_toArray, List.set_cons_zero, List.set_cons_succ]
  refine wpAnyH_take (i := 16) (oi := { dst := some 71, op := Op.pick (Operand.tmp 65) (Operand.tmp 70) (Operand.const (Value.bool false)), type := 4, pos := "law.go:117", after := #[{ on := 10, ground := Ground.data }, { on := 15, ground := Ground.data }], guard := none }) (v := (.bool false)) rfl (by kernel_rfl) (by kernel_rfl) (by kernel_rfl) (fun _ _ _ h => h) (Or.inl ⟨by rfl, ?_⟩) (by assumption) ?_
  · (intro w hSw; (try dsimp only at hSw); go_simp)
  simp only [Act.put, List.setIfInBounds_toArray, List.set_cons_zero, List.set_cons_succ]
  refine wpAnyH_ready (rs := [18]) (by kernel_rfl) (by simp) ?_
  refine AllReadyH.cons (o := { dst := some 73, op := Op.call { callee := Callee.value (Operand.func 24), args := #[Operand.tmp 72], argTypes := #[23] }, type := 45, pos := "law.go:117", after := #[{ on := 17, ground := Ground.data }, { on := 10, ground := Ground.chain }], guard := none }) rfl (fun K hK => ?_) AllReadyH.nil
  go_simp
  refine (unhide K8 _).mono ?_
  rintro e w18 ⟨u18, rfl, hu, hb1⟩; have hBw18 : Below W0.heap.size W0 w18 := Below.trans (And.left (by assumption)) (hb1.mono (Below.size (And.left (by assumption)))); have J18 := hide hu; clear hu hb1
  go_wp2_with fail
  refine hK.out _ _ ?_ (fun hHeld => ?_)
  · exact unhide HK _ hBw18
  clear hK K
  refine wpAnyH_ready (rs := [20]) (by kernel_rfl) (by simp) ?_
  refine AllReadyH.cons (o := { dst := some 75, op := Op.call { callee := Callee.value (Operand.func 24), args := #[Operand.tmp 74], argTypes := #[23] }, type := 45, pos := "law.go:117", after := #[{ on := 19, ground := Ground.data }, { on := 18, ground := Ground.chain }], guard := none }) rfl (fun K hK => ?_) AllReadyH.nil
  go_simp
  refine (unhide K7 _).mono ?_
  rintro e w20 ⟨u20, rfl, hu, hb1⟩; have hBw20 : Below W0.heap.size W0 w20 := Below.trans (And.left (by assumption)) (hb1.mono (Below.size (And.left (by assumption)))); have J20 := hide hu; have J18 := hide ((unhide J18).below hb1); clear hu hb1
  go_wp2_with fail
  refine hK.out _ _ ?_ (fun hHeld => ?_)
  · exact unhide HK _ hBw20
  clear hK K
  refine wpAnyH_ready (rs := [21]) (by kernel_rfl) (by simp) ?_
  refine AllReadyH.cons (o := { dst := some 76, op := Op.call { callee := Callee.value (Operand.func 33), args := #[Operand.tmp 73, Operand.tmp 75], argTypes := #[45, 45] }, type := 3, pos := "law.go:117", after := #[{ on := 18, ground := Ground.data }, { on := 20, ground := Ground.data }, { on := 20, ground := Ground.chain }], guard := none }) rfl (fun K hK => ?_) AllReadyH.nil
  go_simp
  refine (unhide KCC _ _ _ (unhide J18) (unhide J20)).mono ?_
  rintro e w21 ⟨rfl, hb1⟩; have hBw21 : Below W0.heap.size W0 w21 := Below.trans (And.left (by assumption)) (hb1.mono (Below.size (And.left (by assumption)))); clear hb1
  go_wp2_with fail
  refine hK.out _ _ ?_ (fun hHeld => ?_)
  · exact unhide HK _ hBw21
  clear hK K
  refine wpAnyH_take (i := 22) (oi := { dst := some 77, op := Op.binOp BinOp.lss 3 (Operand.tmp 76) (Operand.const (Value.int IntKind.i64 0)) 3, type := 4, pos := "law.go:117", after := #[{ on := 21, ground := Ground.data }], guard := none }) (v := (.bool false)) rfl (by kernel_rfl) (by kernel_rfl) (by kernel_rfl) (fun _ _ _ h => h) (Or.inl ⟨by rfl, ?_⟩) (by assumption) ?_
  · (intro w hSw; (try dsimp only at hSw); go_simp)
  simp only [Act.put, List.setIfInBounds_toArray, List.set_cons_zero, List.set_cons_succ]
  refine wpAnyH_take (i := 23) (oi := { dst := some 78, op := Op.binOp BinOp.eql 4 (Operand.tmp 71) (Operand.tmp 77) 4, type := 4, pos := "law.go:117", after := #[{ on := 16, ground := Ground.data }, { on := 22, ground := Ground.data }], guard := none }) (v := (.bool true)) rfl (by kernel_rfl) (by kernel_rfl) (by kernel_rfl) (fun _ _ _ h => h) (Or.inl ⟨by rfl, ?_⟩) (by assumption) ?_
  · (intro w hSw; (try dsimp only at hSw); go_simp)
  simp only [Act.put, List.setIfInBounds_toArray, List.set_cons_zero, List.set_cons_succ]
  refine wpAnyH_take (i := 24) (oi := { dst := some 79, op := Op.move (Operand.tmp 78), type := 4, pos := "law.go:117", after := #[{ on := 23, ground := Ground.data }, { on := 21, ground := Ground.chain }], guard := none }) (v := (.bool true)) rfl (by kernel_rfl) (by kernel_rfl) (by kernel_rfl) (fun _ _ _ h => h) (Or.inl ⟨by rfl, ?_⟩) (by assumption) ?_
  · (intro w hSw; (try dsimp only at hSw); go_simp)
  simp only [Act.put, List.setIfInBounds_toArray, List.set_cons_zero, List.set_cons_succ]
  refine wpAnyH_take (i := 25) (oi := { dst := some 80, op := Op.load 45 (Operand.tmp 12), type := 45, pos := "law.go:117", after := #[{ on := 24, ground := Ground.guard }], guard := some (24, true) }) (v := (.agg #[.bool true, .slice a1 l1 c1, .int .i64 X1])) rfl (by kernel_rfl) (by kernel_rfl) (by kernel_rfl) (fun _ _ _ h => h) (Or.inl ⟨by rfl, ?_⟩) (by assumption) ?_
  · (intro w hSw; (try dsimp only at hSw); go_simp)
  simp only [Act.put, List.setIfInBounds_toArray, List.set_cons_zero, List.set_cons_succ]
  refine wpAnyH_take (i := 26) (oi := { dst := some 81, op := Op.move (Operand.tmp 11), type := 23, pos := "law.go:117", after := #[{ on := 24, ground := Ground.guard }], guard := some (24, true) }) (v := (.int .u64 mm)) rfl (by kernel_rfl) (by kernel_rfl) (by kernel_rfl) (fun _ _ _ h => h) (Or.inl ⟨by rfl, ?_⟩) (by assumption) ?_
  · (intro w hSw; (try dsimp only at hSw); go_simp)
  simp only [Act.put, List.setIfInBounds_toArray, List.set_cons_zero, List.set_cons_succ]
  refine wpAnyH_ready (rs := [27]) (by kernel_rfl) (by simp) ?_
  refine AllReadyH.cons (o := { dst := some 82, op := Op.call { callee := Callee.value (Operand.func 24), args := #[Operand.tmp 81], argTypes := #[23] }, type := 45, pos := "law.go:117", after := #[{ on := 26, ground := Ground.data }, { on := 24, ground := Ground.chain }, { on := 24, ground := Ground.guard }], guard := some (24, true) }) rfl (fun K hK => ?_) AllReadyH.nil
  go_simp
  refine (unhide K7 _).mono ?_
  rintro e w27 ⟨u27, rfl, hu, hb1⟩; have hBw27 : Below W0.heap.size W0 w27 := Below.trans (And.left (by assumption)) (hb1.mono (Below.size (And.left (by assumption)))); have J27 := hide hu; clear hu hb1
  go_wp2_with fail
  refine hK.out _ _ ?_ (fun hHeld => ?_)
  · exact unhide HK _ hBw27
  clear hK K
  refine wpAnyH_ready (rs := [28]) (by kernel_rfl) (by simp) ?_
  refine AllReadyH.cons (o := { dst := some 83, op := Op.call { callee := Callee.value (Operand.func 34), args := #[Operand.tmp 82, Operand.const (Value.int IntKind.i64 (-50))], argTypes := #[45, 3] }, type := 45, pos := "law.go:117", after := #[{ on := 27, ground := Ground.data }, { on := 27, ground := Ground.chain }, { on := 24, ground := Ground.guard }], guard := some (24, true) }) rfl (fun K hK => ?_) AllReadyH.nil
  go_simp
  refine (unhide KCS _ _ (unhide J27)).mono ?_
  rintro e w28 ⟨u28, rfl, hu, hb1⟩; have hBw28 : Below W0.heap.size W0 w28 := Below.trans (And.left (by assumption)) (hb1.mono (Below.size (And.left (by assumption)))); have J28 := hide hu; clear hu hb1
  go_wp2_with fail
  refine hK.out _ _ ?_ (fun hHeld => ?_)
  · exact unhide HK _ hBw28
  clear hK K
  refine wpAnyH_ready (rs := [29]) (by kernel_rfl) (by simp) ?_
  refine AllReadyH.cons (o := { dst := some 84, op := Op.call { callee := Callee.value (Operand.func 33), args := #[Operand.tmp 80, Operand.tmp 83], argTypes := #[45, 45] }, type := 3, pos := "law.go:117", after := #[{ on := 25, ground := Ground.data }, { on := 28, ground := Ground.data }, { on := 28, ground := Ground.chain }, { on := 24, ground := Ground.guard }], guard := some (24, true) }) rfl (fun K hK => ?_) AllReadyH.nil
  go_simp
  refine (unhide KCD _ _ _ ((unhide HD).below (And.left (by assumption))) (unhide J28)).mono ?_
  rintro e w29 ⟨rfl, hb1⟩; have hBw29 : Below W0.heap.size W0 w29 := Below.trans (And.left (by assumption)) (hb1.mono (Below.size (And.left (by assumption)))); clear hb1
  go_wp2_with fail
  refine hK.out _ _ ?_ (fun hHeld => ?_)
  · exact unhide HK _ hBw29
  clear hK K
  refine wpAnyH_take (i := 30) (oi := { dst := some 85, op := Op.binOp BinOp.leq 3 (Operand.tmp 84) (Operand.const (Value.int IntKind.i64 0)) 3, type := 4, pos := "law.go:117", after := #[{ on := 29, ground := Ground.data }, { on := 24, ground := Ground.guard }], guard := some (24, true) }) (v := (.bool true)) rfl (by kernel_rfl) (by kernel_rfl) (by kernel_rfl) (fun _ _ _ h => h) (Or.inl ⟨by rfl, ?_⟩) (by assumption) ?_
  · (intro w hSw; (try dsimp only at hSw); go_simp)
  simp only [Act.put, List.setIfInBounds_toArray, List.set_cons_zero, List.set_cons_succ]
  refine wpAnyH_take (i := 31) (oi := { dst := some 86, op := Op.pick (Operand.tmp 79) (Operand.tmp 85) (Operand.const (Value.bool false)), type := 4, pos := "law.go:117", after := #[{ on := 24, ground := Ground.data }, { on := 30, ground := Ground.data }], guard := none }) (v := (.bool true)) rfl (by kernel_rfl) (by kernel_rfl) (by kernel_rfl) (fun _ _ _ h => h) (Or.inl ⟨by rfl, ?_⟩) (by assumption) ?_
  · (intro w hSw; (try dsimp only at hSw); go_simp)
  simp only [Act.put, List.setIfInBounds_toArray, List.set_cons_zero, List.set_cons_succ]
  refine wpAnyH_take (i := 32) (oi := { dst := some 87, op := Op.move (Operand.tmp 86), type := 4, pos := "law.go:117", after := #[{ on := 31, ground := Ground.data }, { on := 29, ground := Ground.chain }], guard := none }) (v := (.bool true)) rfl (by kernel_rfl) (by kernel_rfl) (by kernel_rfl) (fun _ _ _ h => h) (Or.inl ⟨by rfl, ?_⟩) (by assumption) ?_
  · (intro w hSw; (try dsimp only at hSw); go_simp)
  simp only [Act.put, List.setIfInBounds_toArray, List.set_cons_zero, List.set_cons_succ]
  refine wpAnyH_ready (rs := [33]) (by kernel_rfl) (by simp) ?_
  refine AllReadyH.cons (o := { dst := some 88, op := Op.call { callee := Callee.value (Operand.func 14), args := #[], argTypes := #[] }, type := 4, pos := "law.go:117", after := #[{ on := 32, ground := Ground.chain }, { on := 32, ground := Ground.guard }], guard := some (32, true) }) rfl (fun K hK => ?_) AllReadyH.nil
  go_simp
  refine (unhide KW _ (And.left (by assumption))).mono ?_
  rintro e w33 ⟨rfl, hb1⟩; have hBw33 : Below W0.heap.size W0 w33 := Below.trans (And.left (by assumption)) (hb1.mono (Below.size (And.left (by assumption)))); clear hb1
  go_wp2_with fail
  refine hK.out _ _ ?_ (fun hHeld => ?_)
  · exact unhide HK _ hBw33
  clear hK K
  refine wpAnyH_take (i := 34) (oi := { dst := some 89, op := Op.pick (Operand.tmp 87) (Operand.tmp 88) (Operand.const (Value.bool false)), type := 4, pos := "law.go:117", after := #[{ on := 32, ground := Ground.data }, { on := 33, ground := Ground.data }], guard := none }) (v := (.bool true)) rfl (by kernel_rfl) (by kernel_rfl) (by kernel_rfl) (fun _ _ _ h => h) (Or.inl ⟨by rfl, ?_⟩) (by assumption) ?_
  · (intro w hSw; (try dsimp only at hSw); go_simp)
  simp only [Act.put, List.setIfInBounds_toArray, List.set_cons_zero, List.set_cons_succ]
  refine wpAnyH_take (i := 35) (oi := { dst := some 4, op := Op.assign (Operand.tmp 89), type := 4, pos := "law.go:117", after := #[{ on := 34, ground := Ground.data }, { on := 33, ground := Ground.chain }, { on := 0, ground := Ground.phase }, { on := 1, ground := Ground.phase }, { on := 2, ground := Ground.phase }, { on := 3, ground := Ground.phase }, { on := 4, ground := Ground.phase }, { on := 5, ground := Ground.phase }, { on := 6, ground := Ground.phase }, { on := 7, ground := Ground.phase }, { on := 8, ground := Ground.phase }, { on := 9, ground := Ground.phase }, { on := 10, ground := Ground.phase }, { on := 11, ground := Ground.phase }, { on := 12, ground := Ground.phase }, { on := 13, ground := Ground.phase }, { on := 14, ground := Ground.phase }, { on := 15, ground := Ground.phase }, { on := 16, ground := Ground.phase }, { on := 17, ground := Ground.phase }, { on := 18, ground := Ground.phase }, { on := 19, ground := Ground.phase }, { on := 20, ground := Ground.phase }, { on := 21, ground := Ground.phase }, { on := 22, ground := Ground.phase }, { on := 23, ground := Ground.phase }, { on := 24, ground := Ground.phase }, { on := 25, ground := Ground.phase }, { on := 26, ground := Ground.phase }, { on := 27, ground := Ground.phase }, { on := 28, ground := Ground.phase }, { on := 29, ground := Ground.phase }, { on := 30, ground := Ground.phase }, { on := 31, ground := Ground.phase }, { on := 32, ground := Ground.phase }, { on := 33, ground := Ground.phase }, { on := 34, ground := Ground.phase }], guard := none }) (v := (.bool true)) rfl (by kernel_rfl) (by kernel_rfl) (by kernel_rfl) (fun _ _ _ h => h) (Or.inl ⟨by rfl, ?_⟩) (by assumption) ?_
  · (intro w hSw; (try dsimp only at hSw); go_simp)
  simp only [Act.put, List.setIfInBounds_toArray, List.set_cons_zero, List.set_cons_succ]
  refine wpAnyH_done (by kernel_rfl) ?_ _
  go_wp2
  go_ret
  exact ⟨rfl, (unhide BB).trans (Below.mono (And.left (by assumption)) (unhide BB).size)⟩

set_option maxRecDepth 20000 in
set_option maxHeartbeats 8000000 in
theorem vectorOrder_pos (ao bo : Option Addr) (n m c d x mm o : Nat) (er zm zn zd : Int) (w : World) (cc c2 : Int) (hz : 0 ≤ zd) (hw : (zd = 0 ∧ cc = 0) ∨ (zd ≠ 0 ∧ cc = -1)) (hw2 : c2 = -1 ∨ c2 = 0)
    (C1 : Calls Tryz.prog 30 #[.slice ao n c, .slice bo m d] w fun e w'' => e = .returned (.tuple #[.int .u64 (x : Nat), .int .i64 er]) ∧ Below w.heap.size w w'')
    (C2 : ∀ w', Below w.heap.size w w' → Calls Tryz.prog 30 #[.slice bo m d, .slice ao n c] w' fun e w'' => e = .returned (.tuple #[.int .u64 (x : Nat), .int .i64 er]) ∧ Below w'.heap.size w' w'')
    (C3 : ∀ w', Calls Tryz.prog 10 #[.slice ao n c, .slice ao n c] w' fun e w'' => e = .returned (.int .i64 0) ∧ w' = w'')
    (C4 : ∀ w', Below w.heap.size w w' → Calls Tryz.prog 21 #[.slice ao n c, .int .i64 900] w' fun e w'' => e = .returned (.bool true) ∧ Below w'.heap.size w' w'')
    (C5 : ∀ w', Below w.heap.size w w' → Calls Tryz.prog 15 #[.slice ao n c] w' fun e w'' => e = .returned (.tuple #[.int .u64 (o : Nat), .int .i64 0]) ∧ Below w'.heap.size w' w'')
    (C6 : ∀ w', Below w.heap.size w w' → Calls Tryz.prog 16 #[.slice ao n c] w' fun e w'' => e = .returned (.int .u64 (mm : Nat)) ∧ Below w'.heap.size w' w'')
    (C7 : ∀ w', Calls Tryz.prog 24 #[.int .u64 mm] w' fun r w'' => ∃ u, r = .returned u ∧ IsLv w'' u (-1074) zm ∧ Below w'.heap.size w' w'')
    (C8 : ∀ w', Calls Tryz.prog 24 #[.int .u64 o] w' fun r w'' => ∃ u, r = .returned u ∧ IsLv w'' u (-1074) zn ∧ Below w'.heap.size w' w'')
    (C9 : ∀ w' v u, IsLv w' v (-1074) zm → IsLv w' u (-1074) zn → Calls Tryz.prog 31 #[v, u] w' fun r w'' => ∃ q, r = .returned q ∧ IsLv w'' q (-1074) zd ∧ Below w'.heap.size w' w'')
    (CA : ∀ w', Calls Tryz.prog 32 #[.int .u64 o] w' fun e w'' => e = .returned (.int .u64 (o : Nat)) ∧ w' = w'')
    (CC : ∀ w' v u, IsLv w' v (-1074) zn → IsLv w' u (-1074) zm → Calls Tryz.prog 33 #[v, u] w' fun r w'' => r = .returned (.int .i64 cc) ∧ Below w'.heap.size w' w'')
    (CS : ∀ w' v, IsLv w' v (-1074) zm → Calls Tryz.prog 34 #[v, .int .i64 (-50)] w' fun r w'' => ∃ q, r = .returned q ∧ IsLv w'' q (-1124) zm ∧ Below w'.heap.size w' w'')
    (CD : ∀ w' v u, IsLv w' v (-1074) zd → IsLv w' u (-1124) zm → Calls Tryz.prog 33 #[v, u] w' fun r w'' => r = .returned (.int .i64 c2) ∧ Below w'.heap.size w' w'')
    (CW : ∀ w', Below w.heap.size w w' → Calls Tryz.prog 14 #[] w' fun e w'' => e = .returned (.bool true) ∧ Below w'.heap.size w' w'') :
    Calls Tryz.prog 7 #[.slice ao n c, .slice bo m d] w fun r w' => r = .returned (.bool true) ∧ Below w.heap.size w w' := by
  have K1 := hide C1; have K2 := hide C2; have K3 := hide C3; have K4 := hide C4; have K5 := hide C5; have K6 := hide C6; have K7 := hide C7; have K8 := hide C8; have K9 := hide C9; have KCA := hide CA; have KCC := hide CC; have KCS := hide CS; have KCD := hide CD; have KCW := hide CW
  clear C1 C2 C3 C4 C5 C6 C7 C8 C9 CA CC CS CD CW
  go_enter Tryz.func7, Tryz.ntmps7
  go_wp2_with fail
  refine Calls.mono (unhide K1) ?_
  rintro e w1 ⟨rfl, hb1⟩
  have B := hide hb1
  clear K1 hb1
  go_wp2_with fail
  refine (unhide K2 _ (unhide B)).mono ?_
  rintro e w1 ⟨rfl, hb1⟩
  have B := hide ((unhide B).trans (hb1.mono (unhide B).size))
  clear K2 hb1
  go_wp2_with fail
  refine (unhide K3 _).mono ?_
  rintro e w1 ⟨rfl, rfl⟩
  clear K3
  go_wp2_with fail
  refine (unhide K4 _ (unhide B)).mono ?_
  rintro e w1 ⟨rfl, hb1⟩
  have B := hide ((unhide B).trans (hb1.mono (unhide B).size))
  clear K4 hb1
  go_wp2_with fail
  refine (unhide K5 _ (unhide B)).mono ?_
  rintro e w1 ⟨rfl, hb1⟩
  have B := hide ((unhide B).trans (hb1.mono (unhide B).size))
  clear K5 hb1
  go_wp2_with fail
  refine (unhide K6 _ (unhide B)).mono ?_
  rintro e w1 ⟨rfl, hb1⟩
  have B := hide ((unhide B).trans (hb1.mono (unhide B).size))
  clear K6 hb1
  go_wp2_with fail
  refine (unhide K7 _).mono ?_
  rintro e w2 ⟨v, rfl, hv, hb1⟩
  have B := hide ((unhide B).trans (hb1.mono (unhide B).size))
  have HV := hide hv
  clear hb1 hv
  go_wp2_with fail
  refine (unhide K8 _).mono ?_
  rintro e w3 ⟨u, rfl, hu, hb1⟩
  have B := hide ((unhide B).trans (hb1.mono (unhide B).size))
  have HV := hide ((unhide HV).below hb1)
  have HU := hide hu
  clear hb1 hu
  go_wp2_with fail
  refine (unhide K9 _ _ _ (unhide HV) (unhide HU)).mono ?_
  rintro e wv ⟨q, rfl, ⟨n1, a1, c1, L1, rfl, i1⟩, hb1⟩
  have hv : IsLv wv (.agg #[.bool n1, .slice a1 L1.length c1, .int .i64 (oE zd (-1074))]) (-1074) zd := ⟨n1, a1, c1, L1, rfl, i1⟩
  have hs := dy_sign (show IsDy wv (.agg #[.bool n1, .slice a1 L1.length c1, .int .i64 (oE zd (-1074))]) (oM zd) (oE zd (-1074)) from hv)
  rw [decide_eq_false (fun h => by have := (oM_neg_iff zd).1 h; omega)] at hs
  subst hs
  have hlen := dy_len9 (show IsDy wv (.agg #[.bool false, .slice a1 L1.length c1, .int .i64 (oE zd (-1074))]) (oM zd) (oE zd (-1074)) from hv)
  have hway : (¬ 0 < L1.length ∧ decide (0 < L1.length) = false ∧ decide ((0 : Int) < (L1.length : Int)) = false ∧ cc = 0) ∨ (0 < L1.length ∧ decide (0 < L1.length) = true ∧ decide ((0 : Int) < (L1.length : Int)) = true ∧ cc = -1) := by
    rcases hw with ⟨h1, h2⟩ | ⟨h1, h2⟩
    · left; have := hlen.2 (by rw [h1, oM_zero]); exact ⟨by omega, decide_eq_false (by omega), decide_eq_false (by omega), h2⟩
    · right
      have : L1.length ≠ 0 := fun e => (oM_ne zd h1).1 (hlen.1 e)
      exact ⟨by omega, decide_eq_true (by omega), decide_eq_true (by omega), h2⟩
  have HWAY := hide hway
  clear hway hlen hw
  generalize L1.length = l1 at *
  generalize oE zd (-1074) = X1 at *
  have HV := hide (hv.below (below_alloc9 wv (.cells #[.bool false, .slice a1 l1 c1, .int .i64 X1] 45)))
  have bv := (unhide B).trans (hb1.mono (unhide B).size)
  have BV := hide (bv.alloc bv.size (.cells #[.bool false, .slice a1 l1 c1, .int .i64 X1] 45))
  have XV := hide (Box3.new wv (.bool false) (.slice a1 l1 c1) (.int .i64 X1))
  clear i1 hv hb1 bv B K9
  go_wp2_with fail
  refine at_world (fun W => Below w.heap.size w W ∧ Box3 W wv.heap.size (.bool false) (.slice a1 l1 c1) (.int .i64 X1) ∧ IsLv W (.agg #[.bool false, .slice a1 l1 c1, .int .i64 X1]) (-1074) zd) ⟨unhide BV, unhide XV, unhide HV⟩ ?_
  clear BV XV HV
  rintro W0 ⟨b0, x0, h0⟩
  generalize wv.heap.size = g at *
  have HK := hide (fun w' (h : Below W0.heap.size W0 w') => (show Below W0.heap.size W0 w' ∧ w'.cell? ⟨g, 0, none⟩ = some (.bool false) ∧ w'.cell? ⟨g, 1, none⟩ = some (.slice a1 l1 c1) ∧ w'.cell? ⟨g, 2, none⟩ = some (.int .i64 X1) from ⟨h, (x0.all h).c0, (x0.all h).c1, (x0.all h).c2⟩))
  have BB := hide b0; have HD := hide h0
  have KW := hide (fun w' (h : Below W0.heap.size W0 w') => unhide KCW w' (b0.trans (h.mono b0.size)))
  clear b0 x0 h0 KCW
  clear hz
  rcases unhide HWAY with ⟨hl0, hl1, hl2, rfl⟩ | ⟨hl0, hl1, hl2, rfl⟩
  all_goals
    clear HWAY
    rcases hw2 with rfl | rfl
    all_goals
      go_region_held3 (fun w' => Below W0.heap.size W0 w' ∧ w'.cell? ⟨g, 0, none⟩ = some (.bool false) ∧ w'.cell? ⟨g, 1, none⟩ = some (.slice a1 l1 c1) ∧ w'.cell? ⟨g, 2, none⟩ = some (.int .i64 X1))
        (first | assumption | exact unhide HK _ (Below.refl _ _).drew | exact unhide HK _ (by assumption) | fail "KK")
        (first | (go_at_call 32; refine (unhide KCA _).mono ?_; rintro e wf ⟨rfl, rfl⟩) | (go_at_call_of 24 (Value.int .u64 o); refine (unhide K8 _).mono ?_; rintro e w18 ⟨u18, rfl, hu, hb1⟩; have hBw18 : Below W0.heap.size W0 w18 := Below.trans (And.left (by assumption)) (hb1.mono (Below.size (And.left (by assumption)))); have J18 := hide hu; clear hu hb1; clear K8) | (go_at_call 24; refine (unhide K7 _).mono ?_; rintro e w20 ⟨u20, rfl, hu, hb1⟩; have hBw20 : Below W0.heap.size W0 w20 := Below.trans (And.left (by assumption)) (hb1.mono (Below.size (And.left (by assumption)))); have J20 := hide hu; (first | (have J18 := hide ((unhide J18).below hb1)) | skip); clear hu hb1) | (go_at_call 33; (first | (refine (unhide KCC _ _ _ (unhide J18) (unhide J20)).mono ?_; clear J18 J20) | refine (unhide KCD _ _ _ ((unhide HD).below (And.left (by assumption))) (unhide J28)).mono ?_); rintro e w21 ⟨rfl, hb1⟩; have hBw21 : Below W0.heap.size W0 w21 := Below.trans (And.left (by assumption)) (hb1.mono (Below.size (And.left (by assumption)))); clear hb1) | (go_at_call 34; refine (unhide KCS _ _ (unhide J20)).mono ?_; rintro e w28 ⟨u28, rfl, hu, hb1⟩; have hBw28 : Below W0.heap.size W0 w28 := Below.trans (And.left (by assumption)) (hb1.mono (Below.size (And.left (by assumption)))); have J28 := hide hu; clear hu hb1) | (go_at_call 14; refine (unhide KW _ (And.left (by assumption))).mono ?_; rintro e w33 ⟨rfl, hb1⟩; have hBw33 : Below W0.heap.size W0 w33 := Below.trans (And.left (by assumption)) (hb1.mono (Below.size (And.left (by assumption)))); clear hb1) | fail "NO ARM")
      go_wp2
      go_ret
      exact ⟨rfl, (unhide BB).trans (Below.mono (And.left (by assumption)) (unhide BB).size)⟩

end Go.Proofs.YtlbggedahpnjgaaGreatDoor

/- The law VectorOrder, any two lists. -/
namespace Go.Proofs.YtlbggedahpnjgaaGreatDoor
open Go.RowKit
attribute [local go_sem ↓] Go.wp_at_zero Go.wp_at_succ

set_option maxRecDepth 20000 in
set_option maxHeartbeats 8000000 in
theorem vectorOrder_far (ao bo : Option Addr) (n m c d x : Nat) (er f : Int) (t : Bool) (w : World) (hq : (f = 3) ∨ (f = 0 ∧ t = false))
    (C1 : Calls Tryz.prog 30 #[.slice ao n c, .slice bo m d] w fun e w'' => e = .returned (.tuple #[.int .u64 (x : Nat), .int .i64 er]) ∧ Below w.heap.size w w'')
    (C2 : ∀ w', Below w.heap.size w w' → Calls Tryz.prog 30 #[.slice bo m d, .slice ao n c] w' fun e w'' => e = .returned (.tuple #[.int .u64 (x : Nat), .int .i64 er]) ∧ Below w'.heap.size w' w'')
    (C3 : ∀ w', Calls Tryz.prog 10 #[.slice ao n c, .slice ao n c] w' fun e w'' => e = .returned (.int .i64 f) ∧ w' = w'')
    (C4 : ∀ w', Below w.heap.size w w' → Calls Tryz.prog 21 #[.slice ao n c, .int .i64 900] w' fun e w'' => e = .returned (.bool t) ∧ Below w'.heap.size w' w'')
    (CW : ∀ w', Below w.heap.size w w' → Calls Tryz.prog 14 #[] w' fun e w'' => e = .returned (.bool true) ∧ Below w'.heap.size w' w'') :
    Calls Tryz.prog 7 #[.slice ao n c, .slice bo m d] w fun r w' => r = .returned (.bool true) ∧ Below w.heap.size w w' := by
  have K1 := hide C1; have K2 := hide C2; have K3 := hide C3; have K4 := hide C4; have K8 := hide CW
  clear C1 C2 C3 C4 CW
  rcases hq with rfl | ⟨rfl, rfl⟩
  all_goals
    go_enter Tryz.func7, Tryz.ntmps7
    go_wp2_with fail
    refine Calls.mono (unhide K1) ?_
    rintro e w1 ⟨rfl, hb1⟩
    have B := hide hb1
    clear K1 hb1
    go_wp2_with fail
    refine (unhide K2 _ (unhide B)).mono ?_
    rintro e w1 ⟨rfl, hb1⟩
    have B := hide ((unhide B).trans (hb1.mono (unhide B).size))
    clear K2 hb1
    go_wp2_with fail
    refine (unhide K3 _).mono ?_
    rintro e w1 ⟨rfl, rfl⟩
    clear K3
    go_wp2_with fail
    first
      | (refine (unhide K4 _ (unhide B)).mono ?_
         rintro e w1 ⟨rfl, hb1⟩
         have B := hide ((unhide B).trans (hb1.mono (unhide B).size))
         clear K4 hb1
         go_wp2_with fail)
      | skip
    refine (unhide K8 _ (unhide B)).mono ?_
    rintro e w1 ⟨rfl, hb1⟩
    have B := hide ((unhide B).trans (hb1.mono (unhide B).size))
    clear K8 hb1
    go_wp2
    go_ret
    exact ⟨rfl, unhide B⟩

theorem dtK_comm (I J : List Int) (k : Nat) : dtK I J k = dtK J I k := by
  induction k with
  | zero => rfl
  | succ k ih =>
    show aV (dtK I J k) (mV (atB I k) (atB J k)) = aV (dtK J I k) (mV (atB J k) (atB I k))
    rw [ih, (mul_comm6 (atB I k) (atB J k)).1]
theorem goB_comm (I J : List Int) : goB I J = goB J I := by
  unfold goB
  exact decide_eq_decide.2 ⟨fun h => ⟨by omega, by omega⟩, fun h => ⟨by omega, by omega⟩⟩

/-- The norm is at least the greatest number but for a part in 2^50, in whole numbers. -/
theorem order_whole {w : World} {ao : Option Addr} {c : Nat} {I : List Int} (hI : BitsAt w ao c I) (hn : I.length ≤ 64) (h : tmK 900 I I.length = true) :
    fFin (nmV I) = true ∧ fS (nmV I) = false ∧ fFin (bgK I I.length) = true ∧ 0 ≤ fZ (bgK I I.length) ∧ (fZ (bgK I I.length) - fZ (nmV I)) * 2 ^ 50 ≤ fZ (bgK I I.length) := by
  have hl : (toN I).length ≤ 64 := by rw [toN_len]; exact hn
  have ht := tame_list hI h
  obtain ⟨h1, h2, h3⟩ := norm_right 900 (by decide) (toN I) hl ht
  have h4 := norm_ge 900 (by decide) (toN I) hl ht
  obtain ⟨g1, g2, g3, g4⟩ := bgF_fin (toN I) 0 (by decide) (fun x hx => (ht x hx).2.1)
  rw [← nmV_nrV] at h1 h2 h4
  rw [← bgK_all] at h4 g1
  have fb := bg_small g1
  have zb := (mag_fZ (bgK I I.length) (by omega)).1
  refine ⟨h1, h2, fb, by rw [zb]; omega, ?_⟩
  have hp := p2_pos (-1074)
  unfold fQ at h4
  generalize fZ (nmV I) = z at *
  generalize fZ (bgK I I.length) = S at *
  have e2 : (S : Rat) * p2 (-1074) - (z : Rat) * p2 (-1074) = ((S - z : Int) : Rat) * p2 (-1074) := by
    rw [Rat.intCast_sub]
    grind
  rw [e2, ← Rat.mul_assoc] at h4
  have h5 : 1125899906842624 * ((S - z : Int) : Rat) ≤ (S : Rat) := Rat.le_of_mul_le_mul_right h4 hp
  have h6 : ((S - z) * 1125899906842624 : Int) ≤ S := by
    rw [← Rat.intCast_le_intCast, Rat.intCast_mul]
    have : ((1125899906842624 : Int) : Rat) = 1125899906842624 := rfl
    rw [this, Rat.mul_comm]
    exact h5
  rw [show (2 : Int) ^ 50 = 1125899906842624 by decide]
  exact h6

theorem lower50 {w : World} {v : Value} {z : Int} (hv : IsLv w v (-1074) z) : IsLv w v (-1124) (z * 2 ^ 50) := by
  have := IsLv.lower hv 50
  rwa [show (-1074 : Int) - ((50 : Nat) : Int) = -1124 by decide] at this
theorem lvl50a {z y : Int} (h : Lvl (-1074) 2099 z) (k : Lvl (-1074) 2099 y) : Lvl (-1124) 2150 ((z - y) * 2 ^ 50) := by
  have := (h.diff k (by decide) (by decide)).low 50 (by decide) (by decide)
  rwa [show (-1074 : Int) - ((50 : Nat) : Int) = -1124 by decide, show 2099 + 1 + 50 = 2150 by decide] at this
theorem lvl50b {z : Int} (h : Lvl (-1074) 2099 z) : Lvl (-1124) 2150 z := (h.more (show 2099 ≤ 2150 by decide) (by decide) (by decide)).at (by decide) (by decide)
theorem scale50 {w : World} {v : Value} {z : Int} (hv : IsLv w v (-1074) z) (h : Lvl (-1074) 2099 z) :
    Calls Tryz.prog 34 #[v, .int .i64 (-50)] w fun r w' => ∃ q, r = .returned q ∧ IsLv w' q (-1124) z ∧ Below w.heap.size w w' := by
  have := rscaleL (-50) hv h (by decide)
  rwa [show (-1074 : Int) + -50 = -1124 by decide] at this
theorem fR_self (o : Nat) (h : o < 18446744073709551616) (hs : fS o = false) : fR o = o := by
  have := of_decide_eq_false hs
  unfold fR
  omega

theorem vectorOrder_walk (ao : Option Addr) (c : Nat) (I : List Int) (bo : Option Addr) (d : Nat) (J : List Int) (w : World) (hI : BitsAt w ao c I) (hn : I.length ≤ 35184372088830) (hJ : BitsAt w bo d J) (_hm : J.length ≤ 35184372088830) (hT : Tab w) :
    Calls Tryz.prog 7 #[.slice ao I.length c, .slice bo J.length d] w fun r w' => r = .returned (.bool true) ∧ Below w.heap.size w w' := by
  have D1 := vDot_any ao bo c d I J w hI hJ hT
  have D2 := fun w' (hb : Below w.heap.size w w') => vDot_any bo ao d c J I w' (hJ.below hb) (hI.below hb) (hT.all hb)
  have e : (if goB J I = true then dtK J I J.length else 0) = (if goB I J = true then dtK I J I.length else 0) := by
    rw [goB_comm J I]
    by_cases hg : goB I J = true
    · have hl : I.length = J.length := by
        unfold goB at hg
        exact (of_decide_eq_true hg).2
      rw [if_pos hg, if_pos hg, dtK_comm J I, hl]
    · rw [if_neg hg, if_neg hg]
  have D2' := D2
  rw [e, goB_comm J I] at D2'
  generalize (if goB I J = true then dtK I J I.length else 0) = x at *
  generalize (if goB I J = true then (0 : Int) else 3) = er at *
  clear e D2
  have C3 := fun w' => fits_same ao I.length c w'
  have C4 := fun w' (hb : Below w.heap.size w w') => r9tame_any ao c I 900 w' (hI.below hb) hn (by decide)
  have CW := fun w' (hb : Below w.heap.size w w') => awake9_any w' (hT.all hb)
  by_cases h : I.length ≤ 64
  · rw [if_pos h] at C3
    cases ht : tmK 900 I I.length
    · rw [ht] at C4
      exact vectorOrder_far ao bo _ _ c d _ _ 0 false w (.inr ⟨rfl, rfl⟩) D1 D2' C3 C4 CW
    · rw [ht] at C4
      obtain ⟨r1, r2, r3, r4, r5⟩ := order_whole hI h ht
      have hlt := nmV_lt I
      have hlb := bgK_lt I I.length
      have C5 := fun w' (hb : Below w.heap.size w w') => vNorm_ok ao c I w' (hI.below hb) h (hT.all hb)
      have C6 := fun w' (hb : Below w.heap.size w w') => vBiggest_any ao c I w' (hI.below hb) hn
      have C7 := fun w' => rvalueN (bgK I I.length) w' hlb r3
      have C8 := fun w' => rvalueN (nmV I) w' hlt r1
      have lm := fZ_Lvl (bgK I I.length) r3
      have ln := fZ_Lvl (nmV I) r1
      have C9 := fun w' v u (hv : IsLv w' v (-1074) (fZ (bgK I I.length))) (hu : IsLv w' u (-1074) (fZ (nmV I))) => (show Calls Tryz.prog 31 #[v, u] w' fun r w'' => ∃ q, r = .returned q ∧ IsLv w'' q (-1074) (fZ (bgK I I.length) - fZ (nmV I)) ∧ Below w'.heap.size w' w'' from rsubN hv hu lm ln)
      have CA := fun w' => r8abs_any (nmV I) w' hlt
      rw [fR_self _ hlt r2] at CA
      have CC := fun w' v u (hv : IsLv w' v (-1074) (fZ (nmV I))) (hu : IsLv w' u (-1074) (fZ (bgK I I.length))) => rcmpN hv hu ln lm
      have CS := fun w' v (hv : IsLv w' v (-1074) (fZ (bgK I I.length))) => scale50 hv lm
      have CD := fun w' v u (hv : IsLv w' v (-1074) (fZ (bgK I I.length) - fZ (nmV I))) (hu : IsLv w' u (-1124) (fZ (bgK I I.length))) => rcmpN (lower50 hv) hu (lvl50a lm ln) (lvl50b lm)
      have hp : (0 : Int) < 2 ^ 50 := by decide
      generalize fZ (bgK I I.length) = zm at *
      generalize fZ (nmV I) = zn at *
      by_cases hd : zm - zn < 0
      · have e1 : cmpI zn zm = 1 := cmpI8_gt (by omega)
        have e2 : cmpI ((zm - zn) * 2 ^ 50) zm = -1 := cmpI8_lt (Int.lt_of_lt_of_le (Int.mul_neg_of_neg_of_pos hd hp) r4)
        rw [e1] at CC
        rw [e2] at CD
        exact vectorOrder_neg ao bo _ _ c d _ _ _ _ zm zn (zm - zn) w hd D1 D2' C3 C4 C5 C6 C7 C8 C9 CA CC CS CD CW
      · have hw : (zm - zn = 0 ∧ cmpI zn zm = 0) ∨ (zm - zn ≠ 0 ∧ cmpI zn zm = -1) := by
          by_cases h0 : zm - zn = 0
          · exact .inl ⟨h0, cmpI8_eq (by omega)⟩
          · exact .inr ⟨h0, cmpI8_lt (by omega)⟩
        have hw2 : cmpI ((zm - zn) * 2 ^ 50) zm = -1 ∨ cmpI ((zm - zn) * 2 ^ 50) zm = 0 := by
          rcases Int.lt_or_eq_of_le r5 with g | g
          · exact .inl (cmpI8_lt g)
          · exact .inr (cmpI8_eq g)
        exact vectorOrder_pos ao bo _ _ c d _ _ _ _ zm zn (zm - zn) w _ _ (by omega) hw hw2 D1 D2' C3 C4 C5 C6 C7 C8 C9 CA CC CS CD CW
  · rw [if_neg h] at C3
    exact vectorOrder_far ao bo _ _ c d _ _ 3 _ w (.inl rfl) D1 D2' C3 C4 CW

end Go.Proofs.YtlbggedahpnjgaaGreatDoor

/- A struct of a sign and limbs that came in, opened. -/
namespace Go.Proofs.YtlbggedahpnjgaaGreatDoor
open Go.ChangeShapes Go.WideShapes Go.ChangeAt Go.RowKit Go.Joins

theorem Tryz.own : ownKnob Tryz.prog.godebug = none := by kernel_rfl
theorem Tryz.laidOut : laidOutB Tryz.prog = true := by kernel_rfl
theorem Tryz.cellsW : Tryz.prog.cellsOf 43 = 2 := by kernel_rfl
theorem Tryz.cellsU : Tryz.prog.cellsOf 87 = 1 := by kernel_rfl
theorem Tryz.bytesU : Tryz.prog.bytesOf 87 = 4 := by kernel_rfl

theorem bounds_of_u32 {x : Int} (h : (Lit.int .u32 x).wf = true) : 0 ≤ x ∧ x < 4294967296 := by
  simp [Lit.wf, IntKind.min, IntKind.max, IntKind.signed, IntKind.bits] at h
  omega

theorem limbs_of_ints {W : World} {a : Addr} {len cap : Nat} {zs : List Int} (hl : len ≤ cap) (hz : zs.length = cap) (hc : ∀ i, i < zs.length → W.cell? (a.add i) = some (.int .u32 (zs.getD i 0))) (hw : ∀ n ∈ zs, (Lit.int .u32 n).wf = true) :
    LimbsAt W (some a) cap ((zs.take len).map Int.toNat) ∧ ((zs.take len).map Int.toNat).length = len := by
  have hlen : ((zs.take len).map Int.toNat).length = len := by simp; omega
  refine ⟨⟨by omega, ?_, ?_⟩, hlen⟩
  · intro x hx
    obtain ⟨y, hy, rfl⟩ := List.mem_map.1 hx
    have := bounds_of_u32 (hw y (List.mem_of_mem_take hy))
    omega
  · rcases Nat.eq_zero_or_pos len with rfl | hp
    · left; simp
    · right
      obtain ⟨b, off, spot⟩ := a
      have h0 := hc 0 (by omega)
      have hspot : spot = none := by simpa [Addr.add] using World.cell?_spot h0
      subst hspot
      have hb : b < W.heap.size := by
        have := World.block_lt_of_cell? W _ h0
        simpa [Addr.add] using this
      refine ⟨b, off, rfl, hb, fun i hi => ?_⟩
      have h1 := hc i (by omega)
      have h2 : (0 : Int) ≤ zs[i]'(by omega) := (bounds_of_u32 (hw _ (List.getElem_mem _))).1
      have h3 : (⟨b, off, none⟩ : Addr).add i = ⟨b, off + i, none⟩ := by simp [Addr.add]
      rw [h3] at h1
      rw [h1]
      have e : ((zs.take len).map Int.toNat)[i]?.getD 0 = (zs[i]'(by omega)).toNat := by
        rw [List.getElem?_map, List.getElem?_take, if_pos (by omega), List.getElem?_eq_getElem (by omega)]; rfl
      rw [e, List.getD_eq_getElem?_getD, List.getElem?_eq_getElem (by omega)]
      simp only [Option.getD_some, Option.some.injEq, Value.int.injEq, true_and]
      omega

set_option maxRecDepth 20000 in
/-- A number that came in: its sign, its limbs, where they lie; by the row's own reach they are not too many. -/
theorem open_whole {H : Type} {enc : TypeId × Value → H} {W : World} {base : Nat} {v : Value} {d : DataW H} {p : List MemPlace} (hval : Value.okWide Tryz.prog W .any base 43 v) (h : DataW.Trod enc Tryz.prog W 0 (fun _ => true) true 43 v d p)
    (hs : ∀ n ∈ d.weights Tryz.prog 43, n ≤ reachBytes) :
    ∃ neg ao cap L, v = .agg #[.bool neg, .slice ao L.length cap] ∧ LimbsAt W ao cap L ∧ L.length ≤ 35184372087808 := by
  obtain ⟨c0, c1, y0, y1, m, rfl, rfl, rfl, hy0, hy1⟩ := open_agg2 Tryz.underlying43 (by kernel_rfl) Tryz.cellsW hval h
  obtain ⟨neg, e0, rfl⟩ := DataW.trod_bool Tryz.underlying4 hy0
  simp at e0
  subst e0
  rcases open_ints Tryz.underlying41 Tryz.underlying87 Tryz.cellsU hy1 with ⟨hcs, _⟩ | ⟨a, len, cap, zs, hcs, _, hl, hm, hz, rfl, hcell, hwz⟩
  · simp at hcs
    subst hcs
    exact ⟨neg, none, 0, [], rfl, LimbsAt.nil _ _ _, by simp⟩
  · simp at hcs
    subst hcs
    obtain ⟨h1, h2⟩ := limbs_of_ints hl (by simpa using hz) hcell hwz
    refine ⟨neg, some a, cap, _, by rw [h2], h1, ?_⟩
    have hk := hs ((zs.length) * 4) (by
      simp only [DataW.weights, Tryz.underlying43, DataW.weightsEach, List.map, Tryz.underlying41, List.nil_append, List.append_nil, List.mem_cons, Tryz.bytesU, lits, List.length_map, List.length_take, List.length_drop]
      left
      omega)
    simp only [reachBytes] at hk
    rw [h2]
    have : zs.length = cap := by simpa using hz
    omega

end Go.Proofs.YtlbggedahpnjgaaGreatDoor

