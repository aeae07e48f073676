/- Part 32 of the texts. -/
import Derived.Test.YtimejpbmehegeaaGreatDoorPartc31
import Derived.Test.YtimejpbmehegeaaGreatDoorPartc30
import Derived.OwnWalk
import Derived.Deep.RegionHeld3
import Derived.Deep.AppendLies
import Derived.Maps.AppendAt
/- The reference's Near and Squares, at a level. -/
namespace Go.Proofs.YtimejpbmehegeaaGreatDoor
open Go.RowKit
attribute [local go_sem ↓] Go.wp_at_zero Go.wp_at_succ

theorem cmpI_le (x y : Int) : cmpI x y ≤ 0 ↔ x ≤ y := by
  rcases (show x < y ∨ x = y ∨ y < x by omega) with g | g | g
  · rw [cmpI8_lt g]; omega
  · rw [cmpI8_eq g]; omega
  · rw [cmpI8_gt g]; omega

theorem Lvl.diff {lo : Int} {W : Nat} {z1 z2 : Int} (h1 : Lvl lo W z1) (h2 : Lvl lo W z2) (hW : lo + W + 1 ≤ 16384) (hW2 : W + 1 ≤ 16384) : Lvl lo (W + 1) (z1 - z2) := by
  refine ⟨?_, h1.2.1, by have := h1.2.2; omega, hW2⟩
  have a := h1.1
  have b := h2.1
  rw [Nat.pow_succ]
  omega
theorem Lvl.low {lo : Int} {W : Nat} {z : Int} (h : Lvl lo W z) (k : Nat) (hlo : -16384 ≤ lo - k) (hW : W + k ≤ 16384) : Lvl (lo - k) (W + k) (z * 2 ^ k) := by
  refine ⟨?_, hlo, by have := h.2.2.1; omega, hW⟩
  rw [Int.natAbs_mul, Int.natAbs_pow, Nat.pow_add]
  exact (Nat.mul_lt_mul_right (Nat.two_pow_pos k)).2 h.1
theorem Lvl.at {lo lo' : Int} {W : Nat} {z : Int} (h : Lvl lo W z) (h1 : -16384 ≤ lo') (h2 : lo' + W ≤ 16384) : Lvl lo' W z := ⟨h.1, h1, h2, h.2.2.2⟩

theorem near_any {w : World} {v u : Value} {lo : Int} {W : Nat} {z1 z2 : Int} (k : Nat) (hv : IsLv w v lo z1) (hu : IsLv w u lo z2) (h1 : Lvl lo W z1) (h2 : Lvl lo W z2) (hk : k ≤ 100) (b1 : -16384 ≤ lo - k) (b2 : lo + W + 1 ≤ 16384) (b3 : W + 1 + k ≤ 16384) :
    Calls Tryz.prog 24 #[v, u, .int .i64 (k : Nat)] w fun r w' => r = .returned (.bool (decide (((z1 - z2).natAbs : Int) * 2 ^ k ≤ z2))) ∧ Below w.heap.size w w' := by
  have hv0 := hv; have hu0 := hu
  obtain ⟨n1, a1, c1, L1, rfl, i1⟩ := hv
  obtain ⟨n2, a2, c2, L2, rfl, i2⟩ := hu
  have ld := h1.diff h2 b2 (by omega)
  have C1 := fun w' (hb : Below w.heap.size w w') => rsubN (hv0.below hb) (hu0.below hb) h1 h2
  have C3 := fun w' (hb : Below w.heap.size w w') => rscaleL (-(k : Int)) (hu0.below hb) h2 (by omega)
  have hc : ∀ d : Int, Lvl lo (W + 1) d → ∀ w' v u, IsDy w' v (oM d) (oE d lo) → IsDy w' u (oM z2) (oE z2 (lo + -(k : Int))) → Calls Tryz.prog 31 #[v, u] w' fun r w'' => r = .returned (.int .i64 (cmpI (d * 2 ^ k) z2)) ∧ Below w'.heap.size w' w'' := by
    intro d hd w' v u hv hu
    have e1 : IsLv w' v (lo - k) (d * 2 ^ k) := IsLv.lower hv k
    have e2 : IsLv w' u (lo - k) z2 := hu
    have l2 : Lvl (lo - k) (W + 1 + k) z2 := ⟨Nat.lt_of_lt_of_le h2.1 (Nat.pow_le_pow_right (by decide) (by omega)), b1, by omega, b3⟩
    exact rcmpN e1 e2 (hd.low k b1 b3) l2
  by_cases hd : z1 - z2 < 0
  · have e : (((z1 - z2).natAbs : Int) * 2 ^ k ≤ z2) ↔ cmpI (-(z1 - z2) * 2 ^ k) z2 ≤ 0 := by
      rw [cmpI_le, show ((z1 - z2).natAbs : Int) = -(z1 - z2) by omega]
    rw [decide_eq_decide.2 e]
    exact near_neg n1 n2 a1 a2 _ _ c1 c2 _ _ k w (oM (z1 - z2)) (oE (z1 - z2) lo) (oM (-(z1 - z2))) (oE (-(z1 - z2)) lo) (oM z2) (oE z2 (lo + -(k : Int))) _ ((oM_neg_iff _).2 hd) (by omega) C1 (fun w' v hv => rnegN hv ld) C3 (hc _ ld.neg)
  · have e : (((z1 - z2).natAbs : Int) * 2 ^ k ≤ z2) ↔ cmpI ((z1 - z2) * 2 ^ k) z2 ≤ 0 := by
      rw [cmpI_le, show ((z1 - z2).natAbs : Int) = z1 - z2 by omega]
    rw [decide_eq_decide.2 e]
    exact near_pos n1 n2 a1 a2 _ _ c1 c2 _ _ k w (oM (z1 - z2)) (oE (z1 - z2) lo) (oM z2) (oE z2 (lo + -(k : Int))) _ (by have := (oM_neg_iff (z1 - z2)).1; omega) (by omega) C1 C3 (hc _ ld)

/-- The exact sum of squares, in units of 2^-2148. -/
def sqK (I : List Int) : Nat → Int
  | 0 => 0
  | k + 1 => sqK I k + fZ (atB I k) * fZ (atB I k)

/-- A bound on squares. -/
def B96 : Nat := 2 ^ 4196
theorem B96_mul : B96 = 2 ^ 2098 * 2 ^ 2098 := by decide +kernel
theorem B96_lt : 64 * B96 < 2 ^ 4203 := by decide +kernel
theorem sq_nonnegI (x : Int) : 0 ≤ x * x := by
  rcases Int.le_total 0 x with h | h
  · exact Int.mul_nonneg h h
  · exact Int.mul_nonneg_of_nonpos_of_nonpos h h
theorem fZ_few (b : Nat) (hf : fFin b = true) : (fZ b * fZ b).natAbs < B96 := by
  rw [Int.natAbs_mul, B96_mul]
  have h := fZ_lt b hf
  generalize (2 : Nat) ^ 2098 = P at *
  exact Nat.mul_lt_mul'' h h
theorem sqK_le (I : List Int) (n : Nat) (h : fnK I n = true) : ∀ k, k ≤ n → 0 ≤ sqK I k ∧ (sqK I k).natAbs ≤ k * B96 := by
  intro k
  induction k with
  | zero => intro _; exact ⟨Int.le_refl _, by rw [Nat.zero_mul]; exact Nat.le_refl _⟩
  | succ k ih =>
    intro hk
    obtain ⟨i1, i2⟩ := ih (by omega)
    have hf : fFin (atB I k) = true := by
      have h2 : (fnK I k && fFin (atB I k)) = true := fnK_down I n (k + 1) hk h
      rw [Bool.and_eq_true] at h2
      exact h2.2
    have h3 := fZ_few (atB I k) hf
    have h4 : 0 ≤ fZ (atB I k) * fZ (atB I k) := sq_nonnegI _
    show 0 ≤ sqK I k + fZ (atB I k) * fZ (atB I k) ∧ (sqK I k + fZ (atB I k) * fZ (atB I k)).natAbs ≤ (k + 1) * B96
    generalize fZ (atB I k) * fZ (atB I k) = q at *
    generalize sqK I k = s at *
    rw [Nat.succ_mul]
    generalize B96 = P at *
    omega
theorem sqK_lvl (I : List Int) (n : Nat) (hn : n ≤ 64) (h : fnK I n = true) (k : Nat) (hk : k ≤ n) : Lvl (-2148) 4203 (sqK I k) := by
  obtain ⟨h1, h2⟩ := sqK_le I n h k hk
  refine ⟨?_, by decide, by decide, by decide⟩
  exact Nat.lt_of_le_of_lt (Nat.le_trans h2 (Nat.mul_le_mul_right _ (by omega))) B96_lt
theorem fZ_lvl2 (b : Nat) (hf : fFin b = true) : Lvl (-2148) 4203 (fZ b * fZ b) := by
  have h := fZ_few b hf
  refine ⟨?_, by decide, by decide, by decide⟩
  exact Nat.lt_of_lt_of_le h (Nat.le_trans (show B96 ≤ 64 * B96 by omega) (Nat.le_of_lt B96_lt))

set_option maxRecDepth 20000 in
set_option maxHeartbeats 4000000 in
theorem r9squares_any (ao : Option Addr) (c : Nat) (I : List Int) (w : World) (hI : BitsAt w ao c I) (hn : I.length ≤ 64) (hf : fnK I I.length = true) :
    Calls Tryz.prog 25 #[.slice ao I.length c] w fun e w' => ∃ v, e = .returned v ∧ IsLv w' v (-2148) (sqK I I.length) ∧ Below w.heap.size w w' := by
  have HI := hide hI
  obtain ⟨n, hnn⟩ : ∃ n, I.length = n := ⟨_, rfl⟩
  rw [hnn] at hn hf ⊢
  have HN := hide hnn
  have HF := hide hf
  have HL := hide (fun k hk => sqK_lvl I n hn hf k hk)
  have XR := hide ((Box3.new w (.bool false) (.slice none 0 0) (.int .i64 0)).old (.cells #[.bool false, .slice none 0 0, .int .i64 0] 54))
  have xs := Box3.new (w.alloc (.cells #[.bool false, .slice none 0 0, .int .i64 0] 54)) (.bool false) (.slice none 0 0) (.int .i64 0)
  rw [size_alloc9] at xs
  have XS := hide xs
  have B0 := hide ((below_alloc9 w (.cells #[.bool false, .slice none 0 0, .int .i64 0] 54)).alloc (by simp) (.cells #[.bool false, .slice none 0 0, .int .i64 0] 54))
  clear hI hnn xs hf
  go_enter Tryz.func25, Tryz.ntmps25
  go_wp2_with fail
  go_loopw [4] (fun i wr => ∃ (k : Nat) (nn : Bool) (aa : Option Addr) (ll cc : Nat) (X : Int), k ≤ n ∧ i = .int .i64 k ∧ Hid (Box3 wr w.heap.size (.bool false) (.slice none 0 0) (.int .i64 0)) ∧ Hid (Box3 wr (w.heap.size + 1) (.bool nn) (.slice aa ll cc) (.int .i64 X)) ∧ Hid (IsLv wr (.agg #[.bool nn, .slice aa ll cc, .int .i64 X]) (-2148) (sqK I k)) ∧ Hid (Below w.heap.size w wr)) (fun i _ => n - (intOf i).toNat)
  case atStart => exact ⟨0, false, none, 0, 0, 0, Nat.zero_le _, rfl, XR, XS, IsLv.zero _ _, B0⟩
  case round =>
    clear XR XS B0
    obtain ⟨k, nn, aa, ll, cc, X, hk, rfl, xr, xs, hs, hB⟩ := hrel
    by_cases hlt : k < n
    · have hkI : (k : Int) < (n : Int) := by omega
      obtain ⟨b, off, hao, hb, hc⟩ := ((unhide HI).below hB.out).ne (by rw [unhide HN]; omega)
      have hck := hc k (by rw [unhide HN]; exact hlt)
      have x64 := (unhide HI).lt k
      have hfx : fFin (atB I k) = true := by
        have h2 : (fnK I k && fFin (atB I k)) = true := fnK_down I n (k + 1) (by omega) (unhide HF)
        rw [Bool.and_eq_true] at h2
        exact h2.2
      have C1 := hide (fun w' => rvalueN (atB I k) w' x64 hfx)
      have C2 := hide (fun w' v (hv : IsLv w' v (-1074) (fZ (atB I k))) => rmulV x64 x64 hfx hfx hv hv)
      have l1 := unhide HL k (by omega)
      have C3 := hide (fun w' v u (hv : IsLv w' v (-2148) (sqK I k)) (hu : IsLv w' u (-2148) (fZ (atB I k) * fZ (atB I k))) => (show Calls Tryz.prog 29 #[v, u] w' fun r w'' => ∃ q, r = .returned q ∧ IsLv w'' q (-2148) (sqK I k + fZ (atB I k) * fZ (atB I k)) ∧ Below w'.heap.size w' w'' from raddN hv hu l1 (fZ_lvl2 _ hfx)))
      have eV : Hid (sqK I (k + 1) = sqK I k + fZ (atB I k) * fZ (atB I k)) := rfl
      subst hao
      clear hc x64 hfx l1
      generalize sqK I k + fZ (atB I k) * fZ (atB I k) = s2 at *
      generalize fZ (atB I k) * fZ (atB I k) = p at *
      generalize fZ (atB I k) = z at *
      generalize atB I k = x at *
      go_wp2_with fail
      refine (unhide C1 _).mono ?_
      rintro e wv ⟨q, rfl, ⟨n1, a1, c1, L1, rfl, i1⟩, hb1⟩
      have hv : IsLv wv (.agg #[.bool n1, .slice a1 L1.length c1, .int .i64 (oE z (-1074))]) (-1074) z := ⟨n1, a1, c1, L1, rfl, i1⟩
      generalize L1.length = l1 at *
      generalize oE z (-1074) = X1 at *
      have HV := hide (hv.below (below_alloc9 wv (.cells #[.bool n1, .slice a1 l1 c1, .int .i64 X1] 54)))
      have bv := hB.out.trans (hb1.mono hB.out.size)
      have BV := hide (bv.alloc bv.size (.cells #[.bool n1, .slice a1 l1 c1, .int .i64 X1] 54))
      have HS := hide (((unhide hs).below hb1).below (below_alloc9 wv (.cells #[.bool n1, .slice a1 l1 c1, .int .i64 X1] 54)))
      have XR := hide (((unhide xr).all hb1).old (.cells #[.bool n1, .slice a1 l1 c1, .int .i64 X1] 54))
      have XS := hide (((unhide xs).all hb1).old (.cells #[.bool n1, .slice a1 l1 c1, .int .i64 X1] 54))
      have XV := hide (Box3.new wv (.bool n1) (.slice a1 l1 c1) (.int .i64 X1))
      clear i1 hv hb1 bv hB hs xr xs C1
      go_wp2_with fail
      refine at_world (fun W => Below w.heap.size w W ∧ Box3 W w.heap.size (.bool false) (.slice none 0 0) (.int .i64 0) ∧ Box3 W (w.heap.size + 1) (.bool nn) (.slice aa ll cc) (.int .i64 X) ∧ Box3 W wv.heap.size (.bool n1) (.slice a1 l1 c1) (.int .i64 X1) ∧ IsLv W (.agg #[.bool nn, .slice aa ll cc, .int .i64 X]) (-2148) (sqK I k) ∧ IsLv W (.agg #[.bool n1, .slice a1 l1 c1, .int .i64 X1]) (-1074) z) ⟨unhide BV, unhide XR, unhide XS, unhide XV, unhide HS, unhide HV⟩ ?_
      rintro W0 ⟨b0, x0, x1, x2, h1, h2⟩
      have b0 := b0.drew; have x0 := x0.drew; have x1 := x1.drew; have x2 := x2.drew
      have h1 := h1.below ((Below.refl W0.heap.size W0).drew); have h2 := h2.below ((Below.refl W0.heap.size W0).drew)
      clear BV XR XS XV HS HV
      have hgs : w.heap.size ≤ w.heap.size + 1 := by omega
      have hne : w.heap.size ≠ w.heap.size + 1 := by omega
      have HZ := hide hgs; have HNE := hide hne
      clear hgs hne
      generalize wv.heap.size = gv at *
      have y0 := x1.c0; have y1 := x1.c1; have y2 := x1.c2; have f0 := x1.free 0; have f1 := x1.free 1; have f2 := x1.free 2
      have v0 := x2.c0; have v1 := x2.c1; have v2 := x2.c2
      have X0 := hide x0; have XX1 := hide x1; have XX2 := hide x2; have H1 := hide h1; have H2 := hide h2; have BB := hide b0
      clear x0 x1 x2 h1 h2 b0
      go_region_with (first | (go_at_call 65; refine (unhide C2 _ _ (unhide H2)).mono ?_; rintro e w4 ⟨q, rfl, ⟨n4, a4, c4, L4, rfl, i4⟩, hb4⟩; clear y0 y1 y2 f0 f1 f2 v0 v1 v2; have Q4 := hide (show IsLv w4 (.agg #[.bool n4, .slice a4 L4.length c4, .int .i64 (oE p (-2148))]) (-2148) p from ⟨n4, a4, c4, L4, rfl, i4⟩); generalize L4.length = l4 at *; generalize oE p (-2148) = X4 at *; have x1 := (unhide XX1).all hb4; have BB := hide ((unhide BB).trans (hb4.mono (unhide BB).size)); have X0 := hide ((unhide X0).all hb4); have H1 := hide ((unhide H1).below hb4); have XX1 := hide x1; have y0 := x1.c0; have y1 := x1.c1; have y2 := x1.c2; have f0 := x1.free 0; have f1 := x1.free 1; have f2 := x1.free 2; clear i4 hb4 x1) | (go_at_call 29; refine (unhide C3 _ _ _ (unhide H1) (unhide Q4)).mono ?_; rintro e w5 ⟨q, rfl, ⟨n5, a5, c5, L5, rfl, i5⟩, hb5⟩; clear y0 y1 y2 f0 f1 f2; have Q5 := hide (show IsLv w5 (.agg #[.bool n5, .slice a5 L5.length c5, .int .i64 (oE s2 (-2148))]) (-2148) s2 from ⟨n5, a5, c5, L5, rfl, i5⟩); generalize L5.length = l5 at *; generalize oE s2 (-2148) = X5 at *; have x1 := (unhide XX1).all hb5; have BB := hide ((unhide BB).trans (hb5.mono (unhide BB).size)); have X0 := hide ((unhide X0).all hb5); have XX1 := hide x1; have y0 := x1.c0; have y1 := x1.c1; have y2 := x1.c2; have f0 := x1.free 0; have f1 := x1.free 1; have f2 := x1.free 2; clear i5 hb5 x1) | fail "NO ARM")
      all_goals
        have X0' := hide ((((unhide X0).other (p := ⟨w.heap.size + 1, 0, none⟩) (unhide HNE) (.bool n5)).other (p := ⟨w.heap.size + 1, 1, none⟩) (unhide HNE) (.slice a5 l5 c5)).other (p := ⟨w.heap.size + 1, 2, none⟩) (unhide HNE) (.int .i64 X5))
        have X1' := hide ((unhide XX1).put (.bool n5) (.slice a5 l5 c5) (.int .i64 X5))
        have Q' := hide (IsDy.put3 (unhide Q5) (unhide XX1) (.bool n5) (.slice a5 l5 c5) (.int .i64 X5))
        have B' := hide ((((unhide BB).setCell (p := ⟨w.heap.size + 1, 0, none⟩) (unhide HZ) (.bool n5)).setCell (p := ⟨w.heap.size + 1, 1, none⟩) (unhide HZ) (.slice a5 l5 c5)).setCell (p := ⟨w.heap.size + 1, 2, none⟩) (unhide HZ) (.int .i64 X5))
        clear X0 XX1 Q5 BB
        go_wp2_with fail
        go_round
        case rel => exact ⟨k + 1, n5, a5, l5, c5, X5, by omega, by go_num, X0', X1', by rw [unhide eV]; exact Q', B'⟩
        case measure => simp [intOf]; omega
    · have hkk : k = n := by omega
      subst hkk
      have y0 := (unhide xs).c0
      have y1 := (unhide xs).c1
      have y2 := (unhide xs).c2
      have r0 := (unhide xr).c0
      have r1 := (unhide xr).c1
      have r2 := (unhide xr).c2
      have f0 := (unhide xr).free 0
      have f1 := (unhide xr).free 1
      have f2 := (unhide xr).free 2
      have hb1 : w.heap.size + 1 ≠ w.heap.size := by omega
      have HS := hide (IsDy.put3 (unhide hs) (unhide xr) (.bool nn) (.slice aa ll cc) (.int .i64 X))
      have BE := hide (((hB.out.setCell (p := ⟨w.heap.size, 0, none⟩) (Nat.le_refl _) (.bool nn)).setCell (p := ⟨w.heap.size, 1, none⟩) (Nat.le_refl _) (.slice aa ll cc)).setCell (p := ⟨w.heap.size, 2, none⟩) (Nat.le_refl _) (.int .i64 X))
      have xe := (unhide xr).put (.bool nn) (.slice aa ll cc) (.int .i64 X)
      have e0 := xe.c0; have e1 := xe.c1; have e2 := xe.c2
      clear xe hb1 xr xs hs hB
      go_wp2_with fail
      exact bodyPost_ret (v := .agg #[.bool nn, .slice aa ll cc, .int .i64 X]) (by simp [results, Tryz.results25, go_sem, e0, e1, e2]) rfl ⟨_, rfl, unhide HS, unhide BE⟩

end Go.Proofs.YtimejpbmehegeaaGreatDoor

/- What is reckoned place by place, and what is known of lists. -/
namespace Go.Proofs.YtimejpbmehegeaaGreatDoor
open Go.RowKit

/-- The numbers of a list. -/
def toN (I : List Int) : List Nat := I.map Int.toNat
theorem toN_len (I : List Int) : (toN I).length = I.length := by simp [toN]
theorem toN_at (I : List Int) (j : Nat) (hj : j < I.length) : (toN I)[j]? = some (atB I j) := by simp [toN, atB, hj]
theorem toN_take (I : List Int) (j : Nat) (hj : j < I.length) : (toN I).take (j + 1) = (toN I).take j ++ [atB I j] := by
  rw [List.take_add_one, toN_at I j hj]
  rfl
theorem toN_mem {w : World} {ao : Option Addr} {c : Nat} {I : List Int} (h : BitsAt w ao c I) : ∀ x ∈ toN I, x < 18446744073709551616 := by
  intro x hx
  obtain ⟨y, hy, rfl⟩ := List.mem_map.1 hx
  have := h.2.1 y hy
  omega
theorem toN_all (I : List Int) (P : Nat → Prop) (h : ∀ j, j < I.length → P (atB I j)) : ∀ x ∈ toN I, P x := by
  intro x hx
  obtain ⟨j, hj, rfl⟩ := List.getElem_of_mem hx
  have hj' : j < I.length := by rw [← toN_len]; exact hj
  have e := toN_at I j hj'
  rw [List.getElem?_eq_getElem hj] at e
  rw [Option.some.inj e]
  exact h j hj'

theorem bgF_snoc (x : Nat) : ∀ (xs : List Nat) (m : Nat), bgF m (xs ++ [x]) = mx (bgF m xs) (fR x) := by
  intro xs
  induction xs with
  | nil => intro m; rfl
  | cons y ys ih => intro m; exact ih _
theorem ssV_snoc (k : Int) (x : Nat) : ∀ (xs : List Nat) (s : Nat), ssV k s (xs ++ [x]) = sqV k (ssV k s xs) x := by
  intro xs
  induction xs with
  | nil => intro m; rfl
  | cons y ys ih => intro m; exact ih _
theorem sumQ_snoc (x : Nat) : ∀ (xs : List Nat), sumQ (xs ++ [x]) = sumQ xs + fQ x * fQ x := by
  intro xs
  induction xs with
  | nil =>
    show fQ x * fQ x + 0 = 0 + fQ x * fQ x
    rw [Rat.add_zero, Rat.zero_add]
  | cons y ys ih =>
    show fQ y * fQ y + sumQ (ys ++ [x]) = fQ y * fQ y + sumQ ys + fQ x * fQ x
    rw [ih, Rat.add_assoc]

theorem bgK_list (I : List Int) : ∀ j, j ≤ I.length → bgK I j = bgF 0 ((toN I).take j) := by
  intro j
  induction j with
  | zero => intro _; rfl
  | succ j ih =>
    intro hj
    rw [toN_take I j (by omega), bgF_snoc, ← ih (by omega)]
    rfl
theorem bgK_all (I : List Int) : bgK I I.length = bgF 0 (toN I) := by
  rw [bgK_list I _ (Nat.le_refl _), List.take_of_length_le (by rw [toN_len]; exact Nat.le_refl _)]
theorem dtK_list (k : Int) (I : List Int) : ∀ j, j ≤ I.length → dtK (tL k I) (tL k I) j = ssV k 0 ((toN I).take j) := by
  intro j
  induction j with
  | zero => intro _; rfl
  | succ j ih =>
    intro hj
    rw [toN_take I j (by omega), ssV_snoc, ← ih (by omega)]
    show aV (dtK (tL k I) (tL k I) j) (mV (atB (tL k I) j) (atB (tL k I) j)) = _
    rw [show atB (tL k I) j = xV (atB I j) (-k) from mkL_at _ _ j (by omega)]
    rfl
theorem dtK_all (k : Int) (I : List Int) : dtK (tL k I) (tL k I) I.length = ssV k 0 (toN I) := by
  rw [dtK_list k I _ (Nat.le_refl _), List.take_of_length_le (by rw [toN_len]; exact Nat.le_refl _)]
/-- The norm by places is the norm of the list. -/
theorem nmV_nrV (I : List Int) : nmV I = nrV (toN I) := by
  unfold nmV nrV
  rw [dtK_all, bgK_all]

theorem sqK_list (I : List Int) : ∀ j, j ≤ I.length → (sqK I j : Rat) * p2 (-2148) = sumQ ((toN I).take j) := by
  intro j
  induction j with
  | zero => intro _; exact Rat.zero_mul _
  | succ j ih =>
    intro hj
    rw [toN_take I j (by omega), sumQ_snoc, ← ih (by omega)]
    show ((sqK I j + fZ (atB I j) * fZ (atB I j) : Int) : Rat) * p2 (-2148) = _
    have e : p2 (-2148) = p2 (-1074) * p2 (-1074) := by rw [← p2_add]; rfl
    unfold fQ
    rw [Rat.intCast_add, Rat.intCast_mul, e]
    grind
theorem sqK_all (I : List Int) : (sqK I I.length : Rat) * p2 (-2148) = sumQ (toN I) := by
  rw [sqK_list I _ (Nat.le_refl _), List.take_of_length_le (by rw [toN_len]; exact Nat.le_refl _)]

theorem tame_list {w : World} {ao : Option Addr} {c : Nat} {I : List Int} {K : Int} (hI : BitsAt w ao c I) (h : tmK K I I.length = true) : TameV K (toN I) := by
  refine toN_all I _ fun j hj => ?_
  have h2 := tmK_at K I _ j hj h
  unfold tmB at h2
  rw [Bool.and_eq_true, Bool.or_eq_true] at h2
  refine ⟨hI.lt j, h2.1, ?_⟩
  rcases h2.2 with g | g
  · exact .inl (of_decide_eq_true g)
  · exact .inr (of_decide_eq_true g)
theorem tame_fn (I : List Int) (K : Int) (h : tmK K I I.length = true) : fnK I I.length = true := by
  have : ∀ n, tmK K I n = true → fnK I n = true := by
    intro n
    induction n with
    | zero => intro _; rfl
    | succ n ih =>
      intro h
      have h' : (tmK K I n && tmB K (atB I n)) = true := h
      rw [Bool.and_eq_true] at h'
      show (fnK I n && fFin (atB I n)) = true
      have h2 := h'.2
      unfold tmB at h2
      rw [Bool.and_eq_true] at h2
      rw [ih h'.1, h2.1]
      rfl
  exact this _ h

end Go.Proofs.YtimejpbmehegeaaGreatDoor

/- The reference's product of any two exact numbers, at their levels. Ahead of stage 11. -/
namespace Go.Proofs.YtimejpbmehegeaaGreatDoor
open Go.RowKit
attribute [local go_sem ↓] Go.wp_at_zero Go.wp_at_succ
/-- The difference of two numbers at a level. -/
theorem rsubL {w : World} {v u : Value} {lo : Int} {W : Nat} {z1 z2 : Int} (hv : IsLv w v lo z1) (hu : IsLv w u lo z2) (h1 : Lvl lo W z1) (h2 : Lvl lo W z2) :
    Calls Tryz.prog 26 #[v, u] w fun r w' => ∃ q, r = .returned q ∧ IsLv w' q lo (z1 - z2) ∧ Below w.heap.size w w' := rsubN hv hu h1 h2
theorem raddL {w : World} {v u : Value} {lo : Int} {W : Nat} {z1 z2 : Int} (hv : IsLv w v lo z1) (hu : IsLv w u lo z2) (h1 : Lvl lo W z1) (h2 : Lvl lo W z2) :
    Calls Tryz.prog 29 #[v, u] w fun r w' => ∃ q, r = .returned q ∧ IsLv w' q lo (z1 + z2) ∧ Below w.heap.size w w' := raddN hv hu h1 h2

end Go.Proofs.YtimejpbmehegeaaGreatDoor

/- Lists of bits that a call itself makes; the reference's Times and Axpy. -/
namespace Go.Proofs.YtimejpbmehegeaaGreatDoor
open Go.RowKit
attribute [local go_sem ↓] Go.wp_at_zero Go.wp_at_succ

theorem infoBits : (Tryz.prog.info? 24).map (fun i => (i.zero, i.size, i.bytes)) = some (some (.int .u64 0), 1, 8) := by kernel_rfl

/-- v is a list S of the call's own. -/
def OwnB (base : Nat) (w : World) (v : Value) (S : List Nat) : Prop := w.ownsRow base 24 1 v S.length (S.map bitV) ∧ ∀ x ∈ S, x < 18446744073709551616
theorem OwnB.below {base : Nat} {w w' : World} {v : Value} {S : List Nat} (h : OwnB base w v S) (hb : Below w.heap.size w w') : OwnB base w' v S :=
  ⟨h.1.kept (row := none) ⟨hb.os, hb.tape, hb.output, hb.size, fun k hk _ => hb.block k hk⟩ (by cases hv : v.ownBlock <;> simp), h.2⟩
theorem OwnB.bits {base : Nat} {w : World} {v : Value} {S : List Nat} (h : OwnB base w v S) : ∃ ao cap, v = .slice ao S.length cap ∧ BitsAt w ao cap (S.map (fun x : Nat => (x : Int))) := by
  have hl : (S.map bitV).length = S.length := by simp
  have hf : ∀ x ∈ S.map (fun x : Nat => (x : Int)), 0 ≤ x ∧ x ≤ 18446744073709551615 := by
    intro x hx
    obtain ⟨y, hy, rfl⟩ := List.mem_map.1 hx
    have := h.2 y hy
    omega
  rcases h.1.2 with ⟨hv, h0⟩ | ⟨g, cap, cur, hv, hg, hh, hc, hm, hs, ht⟩
  · have : S = [] := List.length_eq_zero_iff.1 (by omega)
    subst this
    exact ⟨none, 0, hv, ⟨by simp, by simp, .inl rfl⟩⟩
  · refine ⟨some ⟨g, 0, none⟩, cap, hv, ⟨by simp; omega, hf, .inr ⟨g, 0, rfl, (Array.getElem?_eq_some_iff.1 hh).1, fun i hi => ?_⟩⟩⟩
    have hi' : i < S.length := by simpa using hi
    have q : (S.map bitV)[i]? = some (.int .u64 ((S[i] : Nat) : Int)) := by
      rw [List.getElem?_map, List.getElem?_eq_getElem hi']; rfl
    rw [← ht, List.getElem?_take, if_pos (by omega)] at q
    rw [cell_of_row w g _ _ _ _ hh, Nat.zero_add]
    have e : (S.map (fun x : Nat => (x : Int)))[i]?.getD 0 = ((S[i] : Nat) : Int) := by simp [hi']
    rw [e]
    simpa using q
theorem OwnB.nil (w : World) (base : Nat) (h : base ≤ w.heap.size) : OwnB base (w.alloc (.cells #[] 24)) (.slice (some ⟨w.heap.size, 0, none⟩) 0 0) [] :=
  ⟨World.ownsRow_made w #[] 0 h (by simp [maxLen]) (by simp), by simp⟩
theorem OwnB.snoc {base : Nat} {w : World} {v : Value} {S : List Nat} {x n : Nat} (hn : n = S.length) (h : w.ownsRow base 24 1 v (n + 1) (S.map bitV ++ [.int .u64 (x : Int)])) (hS : ∀ x ∈ S, x < 18446744073709551616) (hx : x < 18446744073709551616) : OwnB base w v (S ++ [x]) := by
  subst hn
  refine ⟨by simpa [bitV] using h, fun y hy => ?_⟩
  rcases List.mem_append.1 hy with h1 | h1
  · exact hS y h1
  · simp at h1; subst h1; exact hx

/-- The first k places of what f makes. -/
def fsL (f : Nat → Nat) (k : Nat) : List Nat := (List.range k).map f
theorem fsL_len (f : Nat → Nat) (k : Nat) : (fsL f k).length = k := by simp [fsL]
theorem fsL_succ (f : Nat → Nat) (k : Nat) : fsL f (k + 1) = fsL f k ++ [f k] := by simp [fsL, List.range_succ]
end Go.Proofs.YtimejpbmehegeaaGreatDoor

/- One number more onto a list of the call's own. -/
namespace Go.Proofs.YtimejpbmehegeaaGreatDoor
open Go.RowKit

/-- An append whose run is known. -/
theorem wpList_append_ran {P : Program} (w : World) {ops : Array Oper} {rest : List Oper} {o : Oper} {a : Act} {Q : Exit → Act → World → Prop} (hgd : o.guard = none) (s x : Operand) (t : TypeId)
    (ho : o.op = .call { callee := .builtin .append, args := #[s, x], argTypes := #[t, t] }) (v1 v2 v' : Value) (w' : World) (hs : a.eval s = v1) (hx : a.eval x = v2)
    (hr : (Builtin.append_ #[t, t] o.type #[v1, v2]).run P w = .ok v' w') (h : wpList P ops Q rest (a.put o.dst v') w') : wpList P ops Q (o :: rest) a w :=
  wpList_plain hgd fun _ hK => by
    unfold Oper.wp execOp
    simp only [ho, resolve, invoke, builtin, Sem.run_bind, Sem.run_pure, Result.andThen_ok, List.map_toArray, List.map_cons, List.map_nil, hs, hx, hr]
    exact hK _ _ h

/-- Two lists of one's own lie apart. -/
def Apart (v u : Value) : Prop := ∀ g, v.ownBlock = some g → u.ownBlock ≠ some g
theorem Apart.symm {v u : Value} (h : Apart v u) : Apart u v := fun g h1 h2 => h g h2 h1

/-- The number x behind a list of one's own: what append does. -/
theorem OwnB.push {base : Nat} {w : World} {v : Value} {S : List Nat} (h : OwnB base w v S) (x : Nat) (hx : x < 18446744073709551616) (hl : S.length ≤ 1000000) (hb : base ≤ w.heap.size) (ty : TypeId) :
    ∃ v' w', (Builtin.append_ #[22, 22] ty #[v, .slice (some ⟨w.heap.size, 0, none⟩) 1 1]).run Tryz.prog (w.alloc (.cells #[.int .u64 (x : Int)] 24)) = .ok v' w' ∧ OwnB base w' v' (S ++ [x]) ∧ Below base w w' ∧
      (∀ u T, OwnB base w u T → Apart v u → OwnB base w' u T ∧ Apart v' u) ∧ (∀ ao c I, BitsAt w ao c I → (I = [] ∨ ∃ b off, ao = some ⟨b, off, none⟩ ∧ v.ownBlock ≠ some b) → BitsAt w' ao c I) := by
  obtain ⟨i0, hi, hz0, hz1, hz2⟩ := info_parts infoBits
  obtain ⟨v', w', e1, e2, e3, e4, e5⟩ := run_append_own_at (P := Tryz.prog) (w.alloc (.cells #[.int .u64 (x : Int)] 24)) base 22 ty 24 i0 (.int .u64 0) 1 8 Tryz.underlying22 hi hz0 hz1 hz2 rfl (by decide) v S.length (S.map bitV) (h.1.alloc _) ⟨w.heap.size, 0, none⟩ 1 1 [.int .u64 (x : Int)] rfl (cell_one_new _ _ _) (fun u hu => by simp at hu; subst hu; rfl) (by unfold maxLen; omega) (by omega) (by simp; omega)
  have hn : OwnB base w' v' (S ++ [x]) := OwnB.snoc rfl e2 h.2 hx
  refine ⟨v', w', e1, hn, ((below_alloc9 w _).mono hb).grown e3 (by simp; omega) (fun g hg => (h.1.lt g hg).1), ?_, ?_⟩
  · intro u T hu ha
    refine ⟨⟨(hu.1.alloc _).kept e3 ?_, hu.2⟩, ?_⟩
    · cases hv : u.ownBlock with
      | none => exact .inl rfl
      | some g =>
        right
        intro e
        exact ha g e.symm hv
    · intro g hg hg2
      rcases e5 with e5 | e5
      · exact ha g (by rw [← e5]; exact hg) hg2
      · rw [hg] at e5
        have h1 := (hu.1.lt g hg2).2
        simp at e5
        omega
  · intro ao c I hI hn2
    have hA := hI.below (below_alloc9 w (.cells #[.int .u64 (x : Int)] 24))
    refine ⟨hA.1, hA.2.1, ?_⟩
    rcases hA.2.2 with e | ⟨b, off, f1, f2, f3⟩
    · exact .inl e
    rcases hn2 with e | ⟨b', off', g1, g2⟩
    · exact .inl e
    rw [f1] at g1
    simp only [Option.some.injEq, Addr.mk.injEq] at g1
    obtain ⟨rfl, rfl, _⟩ := g1
    refine .inr ⟨b, off, f1, Nat.lt_of_lt_of_le f2 e3.size, fun i hi => ?_⟩
    exact e3.cell (f3 i hi) (fun e => g2 e.symm)

end Go.Proofs.YtimejpbmehegeaaGreatDoor

