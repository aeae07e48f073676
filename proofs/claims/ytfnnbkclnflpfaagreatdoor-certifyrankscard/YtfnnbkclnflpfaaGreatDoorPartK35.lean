/- Part 35 of the texts. -/
import Derived.Test.YtfnnbkclnflpfaaGreatDoorPartK34
import Derived.Test.YtfnnbkclnflpfaaGreatDoorPartK22
import Derived.Test.YtfnnbkclnflpfaaGreatDoorPartK30
import Derived.Test.YtfnnbkclnflpfaaGreatDoorPartK29
import Derived.Test.YtfnnbkclnflpfaaGreatDoorPartK08
import Derived.Test.YtfnnbkclnflpfaaGreatDoorPartK31
import Derived.Test.YtfnnbkclnflpfaaGreatDoorPartK27
import Derived.Test.YtfnnbkclnflpfaaGreatDoorPartK28
import Derived.Deep.RegionLaw
import Derived.Test.YtfnnbkclnflpfaaGreatDoorPartK20
import Derived.Deep.RegionHeld3
import Derived.Test.YtfnnbkclnflpfaaGreatDoorPartK21
import Derived.Deep.AppendLies
/- Package certify: the exact rank. -/
namespace Go.Proofs.YtfnnbkclnflpfaaGreatDoor
open Go.RowKit

theorem minor_congr {a b : Nat → Nat → Int} : ∀ (I C : List Nat), (∀ i ∈ I, ∀ c ∈ C, a i c = b i c) → minorD a I C = minorD b I C
  | [], C, _ => rfl
  | i :: I, C, h => by
    show exD (a i) C (detD (I.map _)) = exD (b i) C (detD (I.map _))
    rw [exD_row (a i) (b i) C _ (fun c hc => h i (by simp) c hc)]
    refine exD_congr (b i) C _ _ (fun l hl _ => ?_)
    exact minor_congr I l (fun j hj c hc => h j (by simp [hj]) c (hl.subset hc))
theorem van_congr {k m n : Nat} {a b : Nat → Nat → Int} (h : ∀ i c, i < m → c < n → a i c = b i c) (hv : Van k a m n) : Van k b m n := by
  intro I C hI hC lI lC
  rw [← minor_congr (a := a) I C (fun i hi c hc => h i c (hI.2 i hi) (hC.2 c hc))]
  exact hv I C hI hC lI lC
theorem rank_congr {k m n : Nat} {a b : Nat → Nat → Int} (h : ∀ i c, i < m → c < n → a i c = b i c) (hr : IsRank k a m n) : IsRank k b m n :=
  ⟨fun hv => hr.1 (van_congr (fun i c hi hc => (h i c hi hc).symm) hv), van_congr h hr.2⟩
theorem rank_norows {a : Nat → Nat → Int} (n : Nat) : IsRank 0 a 0 n := by
  refine ⟨fun hv => ?_, fun I C hI _ lI _ => ?_⟩
  · have := hv [] [] ⟨List.Pairwise.nil, by simp⟩ ⟨List.Pairwise.nil, by simp⟩ rfl rfl
    exact absurd (show (1 : Int) = 0 from this) (by decide)
  · cases I with
    | nil => cases lI
    | cons i I => exact absurd (hI.2 i (by simp)) (by omega)

theorem pow_66 (m k : Nat) (h : m ≤ 32 * k) : 2 ^ m ≤ 4294967296 ^ k := by
  rw [show (4294967296 : Nat) = 2 ^ 32 by decide, ← Nat.pow_mul]
  exact Nat.pow_le_pow_right (by decide) h

/-- A number below 2^2098 has at most 66 limbs: right and short. -/
theorem IsNm.good11 {w : World} {x : Nm} {z : Int} (h : IsNm w x z) (hz : z.natAbs < 2 ^ 2098) : rightN x = true ∧ shortN x = true ∧ sval x.neg x.L = z ∧ x.L.length ≤ 66 := by
  obtain ⟨neg, ao, cap, L⟩ := x
  obtain ⟨h1, h3, h4, h5, h6⟩ := h
  simp only at h1 h3 h4 h5 h6 ⊢
  have hl6 : L.length ≤ 66 := (length_le_iff L h1.2.1 h3 66).2 (by
    rw [h5]
    refine Nat.lt_of_lt_of_le hz ?_
    exact pow_66 2098 66 (by decide))
  have hl : L.length ≤ 512 := by omega
  show rightB neg L = true ∧ decide (L.length ≤ 80) = true ∧ sval neg L = z ∧ L.length ≤ 66
  refine ⟨?_, decide_eq_true (by omega), ?_, hl6⟩
  · have e0 : L.length = 0 → neg = false := fun e => by
      have : L = [] := List.length_eq_zero_iff.1 e
      subst this
      rw [h4]; simp [val] at h5; simp; omega
    have e1 : L.length = 0 ∨ L[L.length - 1]?.getD 0 ≠ 0 := by
      rcases h3 with h | h
      · left; rw [h]; rfl
      · exact .inr h
    simp only [rightB, Bool.and_eq_true, decide_eq_true_eq, Bool.not_eq_true', Bool.and_eq_false_iff, decide_eq_false_iff_not, Bool.or_eq_true]
    refine ⟨⟨hl, ?_⟩, e1⟩
    by_cases e : L.length = 0
    · exact .inr (e0 e)
    · exact .inl e
  · unfold sval
    rw [h4]
    by_cases hx0 : z < 0
    · simp [hx0]; omega
    · simp [hx0]; omega

/-- What rows of such numbers are. -/
theorem rows11 {w : World} {M : List Rw} {r c : Nat} {F : Nat → Nat → Int} (hl : M.length = r) (hr : r ≤ 6) (hc : c ≤ 6) (hw : ∀ i, i < r → (rwAt M i).R.length = c) (hx : ∀ i k, i < r → k < c → IsNm w (entry M i k) (F i k)) (hF : ∀ i k, i < r → k < c → (F i k).natAbs < 2 ^ 2098) :
    mChk M = 0 ∧ SmallM M ∧ (∀ i k, i < r → k < c → valM M i k = F i k) ∧ (0 < r → width M = c) := by
  have hm : ∀ y ∈ M, ∃ i, i < r ∧ y = rwAt M i := fun y hy => by
    obtain ⟨i, hi, rfl⟩ := List.getElem_of_mem hy
    exact ⟨i, by omega, by unfold rwAt; rw [List.getElem?_eq_getElem hi]; rfl⟩
  have hn : ∀ i, i < r → ∀ x ∈ (rwAt M i).R, ∃ k, k < c ∧ x = entry M i k := fun i hi x hx => by
    obtain ⟨k, hk, rfl⟩ := List.getElem_of_mem hx
    exact ⟨k, by rw [hw i hi] at hk; exact hk, by unfold entry nmAt; rw [List.getElem?_eq_getElem hk]; rfl⟩
  have hwd : 0 < r → width M = c := fun h => hw 0 h
  have hsh : shapeB M = true := by
    unfold shapeB
    rw [decide_eq_true (by omega), Bool.true_and, Bool.and_eq_true, decide_eq_true_eq, List.all_eq_true]
    rcases Nat.eq_zero_or_pos r with h0 | h0
    · have : M = [] := List.length_eq_zero_iff.1 (by omega)
      subst this
      exact ⟨by decide, fun x hx => by cases hx⟩
    · rw [hwd h0]
      refine ⟨hc, fun y hy => ?_⟩
      obtain ⟨i, hi, rfl⟩ := hm y hy
      exact decide_eq_true (hw i hi)
  have hg : ∀ y ∈ M, ∀ x ∈ y.R, rightN x = true ∧ shortN x = true ∧ x.L.length ≤ 66 := fun y hy x hxx => by
    obtain ⟨i, hi, rfl⟩ := hm y hy
    obtain ⟨k, hk, rfl⟩ := hn i hi x hxx
    have := (hx i k hi hk).good11 (hF i k hi hk)
    exact ⟨this.1, this.2.1, this.2.2.2⟩
  refine ⟨?_, ⟨by omega, fun y hy => ⟨?_, fun x hxx => by have := (hg y hy x hxx).2.2; omega⟩⟩, fun i k hi hk => ((hx i k hi hk).good11 (hF i k hi hk)).2.2.1, hwd⟩
  · unfold mChk
    rw [if_pos hsh, if_pos, if_pos]
    · rw [List.all_eq_true]; intro y hy; rw [List.all_eq_true]; exact fun x hxx => (hg y hy x hxx).2.1
    · rw [List.all_eq_true]; intro y hy; rw [List.all_eq_true]; exact fun x hxx => (hg y hy x hxx).1
  · obtain ⟨i, hi, rfl⟩ := hm y hy
    rw [hw i hi]; omega

theorem rank_of11 {k r c : Nat} {M : List Rw} {F : Nat → Nat → Int} (hl : M.length = r) (hv : ∀ i k, i < r → k < c → valM M i k = F i k) (hw : 0 < r → width M = c) (h : IsRank k (valM M) M.length (width M)) : IsRank k F r c := by
  rcases Nat.eq_zero_or_pos r with h0 | h0
  · subst h0
    rw [hl] at h
    have := h.unique (rank_norows (width M))
    rw [this]
    exact rank_norows c
  · rw [hw h0, hl] at h
    exact rank_congr hv h

theorem cRank_any (r c cap : Nat) (ao : Option Addr) (S : List Nat) (w : World) (h : Mx w ao cap r c S) (hf : ∀ x ∈ S, fFin x = true) (hT : Tab w) :
    Calls Tryz.prog 24 #[.agg #[.int .i64 r, .int .i64 c, .slice ao S.length cap]] w fun e w' => ∃ k : Nat, e = .returned (.tuple #[.int .i64 (k : Nat), .int .i64 0]) ∧ IsRank k (fun i k => fZ (elM c S i k)) r c ∧ Below w.heap.size w w' := by
  refine cRank_of r c S.length cap ao (fun i k => fZ (elM c S i k)) (fun k => IsRank k (fun i k => fZ (elM c S i k)) r c) w (fun w' hb => ccheck_ok r c cap ao S w' (h.below hb) hf) (fun w' hb => wholes_any r c cap ao S w' (h.below hb) hf (hT.all hb)) (fun w' g V hL => ?_)
  obtain ⟨M, m1, m2, m3, m4⟩ := hL.mat
  obtain ⟨q1, q2, q3, q4⟩ := rows11 m1 h.2.2.1 h.2.2.2 m3 m4 (fun i k _ _ => fZ_lt _ (el_fin c S i k hf))
  have C := rank_any (some ⟨g, 0, none⟩) r M w' m2 q2
  rw [m1] at C
  refine C.mono ?_
  rintro e w'' ⟨k, rfl, h1, _, hb⟩
  rw [q1]
  rw [← m1] at h1
  exact ⟨k, rfl, rank_of11 m1 q3 q4 (h1 q1), hb⟩

end Go.Proofs.YtfnnbkclnflpfaaGreatDoor

/- The reference of layer 11: Check, Square, Tame. The law's told, one, awake. -/
namespace Go.Proofs.YtfnnbkclnflpfaaGreatDoor
open Go.RowKit
attribute [local go_sem ↓] Go.wp_at_zero Go.wp_at_succ

theorem ckE_three (r c : Int) (I : List Int) : ckE r c I = 0 ∨ ckE r c I = 1 ∨ ckE r c I = 4 := by
  unfold ckE
  split
  · split
    · exact .inl rfl
    · exact .inr (.inr rfl)
  · exact .inr (.inl rfl)

set_option maxRecDepth 20000 in
set_option maxHeartbeats 4000000 in
theorem r11check_any (r c : Int) (ao : Option Addr) (cap : Nat) (I : List Int) (w : World) (hI : BitsAt w ao cap I) (hn : I.length ≤ 35184372088830) :
    Calls Tryz.prog 11 #[.agg #[.int .i64 r, .int .i64 c, .slice ao I.length cap]] w fun e w' => e = .returned (.int .i64 (ckE r c I)) ∧ Below w.heap.size w w' := by
  have K1 := hide (fun w' => rright_any r c ao I.length cap w')
  have K2 := hide (fun w' (h : BitsAt w' ao cap I) => r9finite_any ao cap I w' h hn)
  have BB := hide (below_alloc9 w (.cells #[.int .i64 r, .int .i64 c, .slice ao I.length cap] 24))
  have X0 := hide (BoxM.new w (.int .i64 r) (.int .i64 c) (.slice ao I.length cap))
  have HI := hide hI
  unfold ckE
  generalize okB r c I.length = b at *
  generalize fnK I I.length = f at *
  generalize I.length = n at *
  clear hI
  cases b
  · clear K2
    go_enter Tryz.func11, Tryz.ntmps11
    go_wp2_with fail
    refine (unhide K1 _).mono ?_
    rintro e w1 ⟨rfl, hb1⟩
    have PB := hide ((unhide BB).trans (hb1.mono (unhide BB).size))
    clear hb1 K1 X0
    go_wp2
    go_ret
    exact ⟨rfl, unhide PB⟩
  · cases f
    all_goals
      go_enter Tryz.func11, Tryz.ntmps11
      go_wp2_with fail
      refine (unhide K1 _).mono ?_
      rintro e w1 ⟨rfl, hb1⟩
      replace BB := hide ((unhide BB).trans (hb1.mono (unhide BB).size)); replace X0 := hide ((unhide X0).all hb1)
      clear hb1 K1
      have y2 := (unhide X0).c2
      go_wp2_with fail
      refine (unhide K2 _ ((unhide HI).below (unhide BB))).mono ?_
      rintro e w2 ⟨rfl, hb1⟩
      replace BB := hide ((unhide BB).trans (hb1.mono (unhide BB).size))
      clear hb1 K2 y2
      go_wp2
      go_ret
      exact ⟨rfl, unhide BB⟩

set_option maxRecDepth 20000 in
set_option maxHeartbeats 4000000 in
theorem r11tame_any (r c : Int) (ao : Option Addr) (cap : Nat) (I : List Int) (K : Int) (w : World) (hI : BitsAt w ao cap I) (hn : I.length ≤ 35184372088830) (hK : -5000 ≤ K ∧ K ≤ 5000) :
    Calls Tryz.prog 25 #[.agg #[.int .i64 r, .int .i64 c, .slice ao I.length cap], .int .i64 K] w fun e w' => e = .returned (.bool (okB r c I.length && tmK K I I.length)) ∧ Below w.heap.size w w' := by
  have K1 := hide (fun w' => rright_any r c ao I.length cap w')
  have K2 := hide (fun w' (h : BitsAt w' ao cap I) => r9tame_any ao cap I K w' h hn hK)
  have BB := hide (below_alloc9 w (.cells #[.int .i64 r, .int .i64 c, .slice ao I.length cap] 24))
  have X0 := hide (BoxM.new w (.int .i64 r) (.int .i64 c) (.slice ao I.length cap))
  have HI := hide hI
  generalize okB r c I.length = b at *
  generalize tmK K I I.length = f at *
  generalize I.length = n at *
  clear hI hK
  cases b
  · clear K2
    go_enter Tryz.func25, Tryz.ntmps25
    go_wp2_with fail
    refine (unhide K1 _).mono ?_
    rintro e w1 ⟨rfl, hb1⟩
    have PB := hide ((unhide BB).trans (hb1.mono (unhide BB).size))
    clear hb1 K1 X0
    go_wp2
    go_ret
    exact ⟨rfl, unhide PB⟩
  · go_enter Tryz.func25, Tryz.ntmps25
    go_wp2_with fail
    refine (unhide K1 _).mono ?_
    rintro e w1 ⟨rfl, hb1⟩
    replace BB := hide ((unhide BB).trans (hb1.mono (unhide BB).size)); replace X0 := hide ((unhide X0).all hb1)
    clear hb1 K1
    have y2 := (unhide X0).c2
    go_wp2_with fail
    refine (unhide K2 _ ((unhide HI).below (unhide BB))).mono ?_
    rintro e w2 ⟨rfl, hb1⟩
    replace BB := hide ((unhide BB).trans (hb1.mono (unhide BB).size))
    clear hb1 K2 y2
    go_wp2
    go_ret
    exact ⟨rfl, unhide BB⟩

theorem fnK_all {I : List Int} : ∀ n, fnK I n = true ↔ ∀ k, k < n → fFin (atB I k) = true
  | 0 => ⟨fun _ k hk => by omega, fun _ => rfl⟩
  | n + 1 => by
    show (fnK I n && fFin (atB I n)) = true ↔ _
    rw [Bool.and_eq_true, fnK_all n]
    constructor
    · rintro ⟨h1, h2⟩ k hk
      by_cases e : k = n
      · subst e; exact h2
      · exact h1 k (by omega)
    · exact fun h => ⟨fun k hk => h k (by omega), h n (by omega)⟩
theorem fin_all {S : List Nat} (h : fnK (mxL S) S.length = true) : ∀ x ∈ S, fFin x = true := fun x hx => by
  obtain ⟨i, hi, rfl⟩ := List.getElem_of_mem hx
  have := (fnK_all _).1 h i hi
  rw [mxL_at] at this
  rwa [List.getD_eq_getElem?_getD, List.getElem?_eq_getElem hi] at this
/-- What Check's answer 0 says. -/
theorem ckE_zero {r c : Int} {I : List Int} (h : ckE r c I = 0) : okB r c I.length = true ∧ fnK I I.length = true := by
  unfold ckE at h
  by_cases h1 : okB r c I.length = true
  · rw [if_pos h1] at h
    refine ⟨h1, ?_⟩
    by_cases h2 : fnK I I.length = true
    · exact h2
    · rw [if_neg h2] at h; omega
  · rw [if_neg h1] at h; omega
theorem Mx.asked {w : World} {ao : Option Addr} {cap : Nat} {I : List Int} {r c : Int} (h : BitsAt w ao cap I) (hc : ckE r c I = 0) : ∃ p q : Nat, r = (p : Int) ∧ c = (q : Int) ∧ Mx w ao cap p q (natL I) ∧ mxL (natL I) = I ∧ (∀ x ∈ natL I, fFin x = true) := by
  obtain ⟨h1, h2⟩ := ckE_zero hc
  obtain ⟨p, q, e1, e2, hM, hS⟩ := Mx.of h h1
  refine ⟨p, q, e1, e2, hM, hS, fin_all ?_⟩
  rw [hS, natL_len]
  exact h2

end Go.Proofs.YtfnnbkclnflpfaaGreatDoor

/- The law of layer 11: told, one, awake. -/
namespace Go.Proofs.YtfnnbkclnflpfaaGreatDoor
open Go.RowKit
attribute [local go_sem ↓] Go.wp_at_zero Go.wp_at_succ
set_option maxRecDepth 20000 in
set_option maxHeartbeats 4000000 in
theorem one11_any (b : Nat) (hb : b < 18446744073709551616) (w : World) :
    Calls Tryz.prog 43 #[.int .u64 b] w fun e w' => ∃ ao cap, e = .returned (.agg #[.int .i64 1, .int .i64 1, .slice ao 1 cap]) ∧ BitsAt w' ao cap (mxL [b]) ∧ Below w.heap.size w w' := by
  have b0 := below_alloc9 w (.cells #[.int .i64 1, .int .i64 1, .slice (some ⟨w.heap.size + 1, 0, none⟩) 1 1] 24)
  have s0 := size_alloc9 w (.cells #[.int .i64 1, .int .i64 1, .slice (some ⟨w.heap.size + 1, 0, none⟩) 1 1] 24)
  have x0 := BoxM.new w (.int .i64 1) (.int .i64 1) (.slice (some ⟨w.heap.size + 1, 0, none⟩) 1 1)
  generalize hw0 : w.alloc (.cells #[.int .i64 1, .int .i64 1, .slice (some ⟨w.heap.size + 1, 0, none⟩) 1 1] 24) = w0 at *
  have b1 := below_alloc9 w0 (.cells #[.int .u64 b] 52)
  have h1 := heap_alloc_new w0 (.cells #[.int .u64 b] 52)
  have s1 := size_alloc9 w0 (.cells #[.int .u64 b] 52)
  have x1 := x0.all b1
  have hB : BitsAt (w0.alloc (.cells #[.int .u64 b] 52)) (some ⟨w.heap.size + 1, 0, none⟩) 1 (mxL [b]) := by
    refine ⟨by simp [mxL], fun x hx => ?_, .inr ⟨_, _, rfl, by omega, fun i hi => ?_⟩⟩
    · obtain rfl : x = (b : Int) := by simpa [mxL] using hx
      omega
    · obtain rfl : i = 0 := by simpa [mxL] using hi
      rw [s0] at h1
      rw [cell_of_row _ _ _ _ _ _ h1]; rfl
  have y0 := x1.c0; have y1 := x1.c1; have y2 := x1.c2
  have HB := hide hB; have BB := hide (b0.trans (b1.mono b0.size))
  rw [← hw0] at y0 y1 y2 HB BB
  clear b0 s0 x0 hw0 b1 h1 s1 x1 hB
  go_enter Tryz.func43, Tryz.ntmps43
  go_wp2_with fail
  exact bodyPost_ret (v := .agg #[.int .i64 1, .int .i64 1, .slice (some ⟨w.heap.size + 1, 0, none⟩) 1 1]) (by simp [results, Tryz.results43, go_sem, y0, y1, y2]) rfl ⟨_, _, rfl, unhide HB, unhide BB⟩

theorem dy_one {w : World} {v : Value} (h : IsDy w v 1 0) : ∃ g off cap, v = .agg #[.bool false, .slice (some ⟨g, off, none⟩) 1 cap, .int .i64 0] ∧ g < w.heap.size ∧ w.cell? ⟨g, off, none⟩ = some (.int .u32 1) := by
  obtain ⟨neg, ao, cap, L, rfl, h1, h2, h3, h4, _⟩ := h.parts
  have e : L = [1] := eq_of_canon L [1] h1.2.1 (by intro x hx; simp at hx; omega) h2 (.inr (by simp)) (by rw [h4]; rfl)
  subst e
  have e2 : neg = false := by rw [h3]; rfl
  subst e2
  obtain ⟨g, off, rfl, hg, hc⟩ := h1.ne (by decide)
  exact ⟨g, off, cap, rfl, hg, hc 0 (by decide)⟩

set_option maxRecDepth 20000 in
set_option maxHeartbeats 8000000 in
theorem awake11_of (w : World)
    (C1 : ∀ w' ao ca bo cb co cc, Below w.heap.size w w' → BitsAt w' ao ca (mxL [4611686018427387904]) → BitsAt w' bo cb (mxL [4607182418800017408]) → BitsAt w' co cc (mxL [4607182418800017408]) → Calls Tryz.prog 17 #[.agg #[.int .i64 1, .int .i64 1, .slice ao 1 ca], .agg #[.int .i64 1, .int .i64 1, .slice bo 1 cb], .agg #[.int .i64 1, .int .i64 1, .slice co 1 cc]] w' fun e w'' => ∃ v, e = .returned (.tuple #[v, .int .i64 0]) ∧ IsDy w'' v 1 0 ∧ Below w'.heap.size w' w'')
    (C2 : ∀ w' ao ca, Below w.heap.size w w' → BitsAt w' ao ca (mxL [4607182418800017408]) → Calls Tryz.prog 24 #[.agg #[.int .i64 1, .int .i64 1, .slice ao 1 ca]] w' fun e w'' => e = .returned (.tuple #[.int .i64 1, .int .i64 0]) ∧ Below w'.heap.size w' w'') :
    Calls Tryz.prog 14 #[] w fun e w' => e = .returned (.bool true) ∧ Below w.heap.size w w' := by
  have K1 := hide C1; have K2 := hide C2
  have K3 := hide (fun w' => one11_any 4611686018427387904 (by decide) w')
  have K4 := hide (fun w' => one11_any 4607182418800017408 (by decide) w')
  have BB := hide (Below.refl w.heap.size w)
  clear C1 C2
  go_enter Tryz.func14, Tryz.ntmps14
  go_wp2_with fail
  refine (unhide K3 _).mono ?_
  rintro e w1 ⟨ao, ca, rfl, qa, hb1⟩
  replace BB := hide ((unhide BB).trans hb1)
  have QA := hide qa
  clear qa hb1 K3
  go_wp2_with fail
  refine (unhide K4 _).mono ?_
  rintro e w2 ⟨bo, cb, rfl, qb, hb1⟩
  replace BB := hide ((unhide BB).trans (hb1.mono (unhide BB).size)); replace QA := hide ((unhide QA).below hb1)
  have QB := hide qb
  clear qb hb1
  go_wp2_with fail
  refine (unhide K4 _).mono ?_
  rintro e w3 ⟨co, cc, rfl, qc, hb1⟩
  replace BB := hide ((unhide BB).trans (hb1.mono (unhide BB).size)); replace QA := hide ((unhide QA).below hb1); replace QB := hide ((unhide QB).below hb1)
  have QC := hide qc
  clear qc hb1
  go_wp2_with fail
  refine (unhide K1 _ _ _ _ _ _ _ (unhide BB) (unhide QA) (unhide QB) (unhide QC)).mono ?_
  rintro e w4 ⟨v, rfl, iL, hb1⟩
  obtain ⟨g, off, lc, rfl, hg, hc⟩ := dy_one iL
  have ba := below_alloc9 w4 (.cells #[.bool false, .slice (some ⟨g, off, none⟩) 1 lc, .int .i64 0] 29)
  have hbb := hb1.trans (ba.mono hb1.size)
  replace BB := hide ((unhide BB).trans (hbb.mono (unhide BB).size))
  have XD := hide (Box3.new w4 (.bool false) (.slice (some ⟨g, off, none⟩) 1 lc) (.int .i64 0))
  have HC := hide (cell_keep hc ba)
  have hg2 : g < (w4.alloc (.cells #[.bool false, .slice (some ⟨g, off, none⟩) 1 lc, .int .i64 0] 29)).heap.size := by simp; omega
  clear hb1 hbb ba QA QB QC K1 iL hc hg
  go_wp2_with fail
  generalize w4.heap.size = d at *
  refine (unhide K4 _).mono ?_
  rintro e w5 ⟨bo, cb, rfl, qb, hb1⟩
  replace BB := hide ((unhide BB).trans (hb1.mono (unhide BB).size)); replace XD := hide ((unhide XD).all hb1); replace HC := hide (cell_keep (unhide HC) hb1)
  have QB := hide qb
  clear qb hb1 K4 hg2
  go_wp2_with fail
  refine (unhide K2 _ _ _ (unhide BB) (unhide QB)).mono ?_
  rintro e w6 ⟨rfl, hb1⟩
  replace BB := hide ((unhide BB).trans (hb1.mono (unhide BB).size)); replace XD := hide ((unhide XD).all hb1); replace HC := hide (cell_keep (unhide HC) hb1)
  clear hb1 K2 QB
  have c0 := unhide HC
  have x0 := (unhide XD).c0; have x1 := (unhide XD).c1; have x2 := (unhide XD).c2
  go_wp2
  go_ret
  exact ⟨rfl, unhide BB⟩

theorem awake_rs : rsQ 1 1 1 [4611686018427387904] [4607182418800017408] [4607182418800017408] = 1 * 2 ^ 4296 := by decide +kernel
theorem awake_dy {w : World} {v : Value} (h : IsLv w v (-4296) (rsQ 1 1 1 [4611686018427387904] [4607182418800017408] [4607182418800017408])) : IsDy w v 1 0 := by
  unfold IsLv at h
  rw [awake_rs] at h
  obtain ⟨e1, e2⟩ := oM_scale 1 4296 (-4296)
  rw [e1, e2] at h
  exact h
theorem rank_one {a : Nat → Nat → Int} (h : a 0 0 ≠ 0) : IsRank 1 a 1 1 := by
  refine ⟨fun hv => h ?_, fun I C hI _ lI _ => ?_⟩
  · have := hv [0] [0] ⟨List.pairwise_singleton _ _, by simp⟩ ⟨List.pairwise_singleton _ _, by simp⟩ rfl rfl
    have e : minorD a [0] [0] = a 0 0 := by simp [minorD, detD, exD]
    rw [← e]; exact this
  · obtain ⟨i, j, rfl⟩ : ∃ i j, I = [i, j] := by
      match I, lI with
      | [i, j], _ => exact ⟨i, j, rfl⟩
    have h1 := hI.2 i (by simp)
    have h2 := hI.2 j (by simp)
    have h3 := hI.1
    simp at h3
    omega
theorem fin_two : ∀ x ∈ [4611686018427387904], fFin x = true := by decide
theorem fin_one : ∀ x ∈ [4607182418800017408], fFin x = true := by decide
theorem fZ_one : fZ 4607182418800017408 ≠ 0 := by decide +kernel
theorem awake11_any (w : World) (hT : Tab w) : Calls Tryz.prog 14 #[] w fun e w' => e = .returned (.bool true) ∧ Below w.heap.size w w' := by
  have hm : ∀ (w' : World) ao cap (b : Nat), BitsAt w' ao cap (mxL [b]) → Mx w' ao cap 1 1 [b] := fun w' ao cap b h => ⟨h, rfl, by omega, by omega⟩
  refine awake11_of w (fun w' ao ca bo cb co cc hb ha hB hc => ?_) (fun w' ao ca hb ha => ?_)
  · refine (cRes_any 1 1 1 ca cb cc ao bo co [4611686018427387904] [4607182418800017408] [4607182418800017408] w' (hm _ _ _ _ ha) (hm _ _ _ _ hB) (hm _ _ _ _ hc) fin_two fin_one fin_one (hT.all hb)).mono ?_
    rintro e w'' ⟨v, h1, h2, h3⟩
    exact ⟨v, h1, awake_dy h2, h3⟩
  · refine (cRank_any 1 1 ca ao [4607182418800017408] w' (hm _ _ _ _ ha) fin_one (hT.all hb)).mono ?_
    rintro e w'' ⟨k, rfl, h2, h3⟩
    have := h2.unique (rank_one (a := fun i k => fZ (elM 1 [4607182418800017408] i k)) fZ_one)
    subst this
    exact ⟨rfl, h3⟩

end Go.Proofs.YtfnnbkclnflpfaaGreatDoor

/- Contracts of the reference's zero, pivot. -/
namespace Go.Proofs.YtfnnbkclnflpfaaGreatDoor
open Go.RowKit
attribute [local go_sem ↓] Go.wp_at_zero Go.wp_at_succ

set_option maxHeartbeats 400000 in
theorem zero3_any (ng : Bool) (ao : Option Addr) (cap : Nat) (n : Nat) (w : World) :
    Calls Tryz.prog 116 #[.agg #[.bool ng, .slice ao n cap]] w fun e w' => e = .returned (.bool (decide (n = 0))) ∧ Below w.heap.size w w' := by
  by_cases h0 : n = 0
  · subst h0
    go_enter Tryz.func116, Tryz.ntmps116
    go_wp2
    go_ret
    exact ⟨rfl, (Below.refl _ _).alloc (Nat.le_refl _) _⟩
  · have h1 : ((n : Int) == 0) = false := by simp; omega
    have H := hide (decide_eq_false h0)
    clear h0
    go_enter Tryz.func116, Tryz.ntmps116
    go_wp2
    go_ret
    exact ⟨ret_bool (unhide H).symm, (Below.refl _ _).alloc (Nat.le_refl _) _⟩

/-- Is the number 0? -/
def nilAt (N : List Rw) (i c : Nat) : Prop := (nmAt (rwAt N i).R c).L.length = 0

set_option maxHeartbeats 4000000 in
theorem pivot_any (b off cap : Nat) (N : List Rw) (fr c n : Nat) (w : World) (h : MatAt w (some ⟨b, off, none⟩) cap N) (hr : ∀ i, i < N.length → (rwAt N i).R.length = n) (hc : c < n) (hfr : fr ≤ N.length) (hm : N.length ≤ 6) (hn : n ≤ 6) :
    Calls Tryz.prog 115 #[.slice (some ⟨b, off, none⟩) N.length cap, .int .i64 fr, .int .i64 c] w fun e w' => (∃ k : Int, e = .returned (.int .i64 k) ∧ ((k = -1 ∧ ∀ i, fr ≤ i → i < N.length → nilAt N i c) ∨ ∃ i : Nat, k = i ∧ fr ≤ i ∧ i < N.length ∧ ¬ nilAt N i c)) ∧ Below w.heap.size w w' := by
  obtain ⟨ml, hml⟩ : ∃ ml, N.length = ml := ⟨_, rfl⟩
  have HL := hide hml; have HM := hide h; have HR := hide hr
  rw [hml] at hfr hm ⊢
  have hcI : (c : Int) < (n : Int) := by omega
  clear h hr hml
  go_enter Tryz.func115, Tryz.ntmps115
  go_wp2_with fail
  go_loopw [7] (fun v wr => ∃ i : Nat, fr ≤ i ∧ i ≤ ml ∧ v = .int .i64 i ∧ Hid (Below w.heap.size w wr) ∧ Hid (∀ q, fr ≤ q → q < i → nilAt N q c)) (fun v _ => ml - (intOf v).toNat)
  case atStart => exact ⟨fr, Nat.le_refl _, hfr, rfl, hide (Below.refl _ _), hide (fun q h1 h2 => by omega)⟩
  case round =>
    obtain ⟨i, hfi, hi, rfl, hbw, hz⟩ := hrel
    by_cases hlt : i < ml
    · have hiI : (i : Int) < (ml : Int) := by omega
      have hiM : i < N.length := by rw [unhide HL]; exact hlt
      have hMb := (unhide HM).below (unhide hbw)
      have hrl := unhide HR i hiM
      have hnum := hMb.nums hiM
      obtain ⟨b1, o1, hao1, hb1, _⟩ := hnum.ne (by omega)
      obtain ⟨b', off', e', hbb', hcr'⟩ := hMb.ne (by omega)
      simp only [Option.some.injEq, Addr.mk.injEq, and_true] at e'
      obtain ⟨rfl, rfl⟩ := e'
      have hcr := hcr' i hiM
      rw [hao1, hrl] at hcr
      rw [hao1] at hnum
      have hcx := hnum.cells (k := c) (by omega)
      obtain ⟨x, hx⟩ : ∃ x, nmAt (rwAt N i).R c = x := ⟨_, rfl⟩
      have HX := hide (show nilAt N i c ↔ x.L.length = 0 by unfold nilAt; rw [hx])
      rw [hx] at hcx
      obtain ⟨c1, c2⟩ := hcx
      generalize (rwAt N i).cap = cr at *
      obtain ⟨nx, ax, cx, Lx⟩ := x
      simp only at c1 c2 HX
      generalize Lx.length = lx at *
      clear hMb hrl hnum hcr' hx hb1 hao1 hbb'
      go_wp2_with fail
      refine (zero3_any nx ax cx lx _).mono ?_
      rintro e w1 ⟨rfl, hb1⟩
      have B1 := hide ((unhide hbw).trans (hb1.mono (unhide hbw).size))
      by_cases h0 : lx = 0
      · rw [decide_eq_true h0]
        have HZ := hide (fun q (h1 : fr ≤ q) (h2 : q < i + 1) => (show nilAt N q c by
          rcases Nat.lt_or_ge q i with h | h
          · exact unhide hz q h1 h
          · obtain rfl : q = i := by omega
            exact (unhide HX).2 h0))
        clear hb1 hbw hz c1 c2 hcr HX h0
        go_wp2
        go_roundw
        case rel => exact ⟨i + 1, by omega, by omega, by go_num, B1, HZ⟩
        case measure => simp [intOf]; omega
      · rw [decide_eq_false h0]
        have HNZ := hide (show ¬ nilAt N i c from fun hh => h0 ((unhide HX).1 hh))
        clear hb1 hbw hz c1 c2 hcr HX h0
        go_wp2
        go_ret
        exact ⟨⟨_, rfl, .inr ⟨i, rfl, hfi, hlt, unhide HNZ⟩⟩, unhide B1⟩
    · have hgI : ¬ (i : Int) < (ml : Int) := by omega
      have hgD : decide ((i : Int) < (ml : Int)) = false := decide_eq_false hgI
      go_wp2
      go_ret
      exact ⟨⟨_, rfl, .inl ⟨rfl, fun q h1 h2 => unhide hz q h1 (by omega)⟩⟩, unhide hbw⟩

end Go.Proofs.YtfnnbkclnflpfaaGreatDoor

/- Contract of the reference's less. -/
namespace Go.Proofs.YtfnnbkclnflpfaaGreatDoor
open Go.RowKit
attribute [local go_sem ↓] Go.wp_at_zero Go.wp_at_succ

/-- As great as no number of 8192 limbs is. -/
def TOPRN : Nat := 8192
def TOPR : Nat := 4294967296 ^ TOPRN

theorem IsNum.limbsR {B : Nat} {w : World} {v : Value} {x : Int} (h : IsNum B w v x) (hx : x.natAbs < TOPR) : ∃ na ao ca A, v = .agg #[.bool na, .slice ao A.length ca] ∧ LimbsAt w ao ca A ∧ sval na A = x ∧ A.length ≤ 8192 := by
  obtain ⟨na, ao, ca, A, rfl, h2, h3, h4, h5, h6, h7⟩ := h
  exact ⟨na, ao, ca, A, rfl, h2, sval_IsNum h5 h6, (length_le_iff A h2.2.1 h4 TOPRN).2 (by rw [h6]; exact hx)⟩

theorem refMulR_num {B B' : Nat} {w : World} {v u : Value} {x y : Int} (hv : IsNum B w v x) (hu : IsNum B' w u y) (hx : x.natAbs < TOPR) (hy : y.natAbs < TOPR) :
    Calls Tryz.prog 96 #[v, u] w fun e w' => ∃ r, e = .returned r ∧ IsNum 0 w' r (x * y) ∧ Below w.heap.size w w' := by
  obtain ⟨na, ao, ca, A, rfl, a1, a3, a4⟩ := hv.limbsR hx
  obtain ⟨nb, bo, cb, C, rfl, b1, b3, b4⟩ := hu.limbsR hy
  have := refMul_any na nb ao bo ca cb A C w a1 b1 (by omega) (by omega)
  rwa [a3, b3] at this

theorem refSub_num {B B' : Nat} {w : World} {v u : Value} {x y : Int} (hv : IsNum B w v x) (hu : IsNum B' w u y) (hx : x.natAbs < TOPR) (hy : y.natAbs < TOPR) :
    Calls Tryz.prog 157 #[v, u] w fun e w' => ∃ r, e = .returned r ∧ IsNum w.heap.size w' r (x - y) ∧ Below w.heap.size w w' := by
  obtain ⟨na, ao, ca, A, rfl, a1, a3, a4⟩ := hv.limbsR hx
  obtain ⟨nb, bo, cb, C, rfl, b1, b3, b4⟩ := hu.limbsR hy
  refine (refSub_any na nb ao bo ca cb A C w a1 b1 (by omega) (by omega)).mono ?_
  rintro e w' ⟨r, rfl, hr, hb⟩
  rw [a3, b3] at hr
  exact ⟨r, rfl, hr.num (by omega), hb⟩

/-- What holds in less's loop. -/
def LsI (w wr : World) (v : Value) (R : List Nm) (k : Nat) (f : Nat → Int) (x y : Nm) : Prop :=
  OwnNums (w.heap.size + 2) wr v R ∧ R.length = k ∧ (∀ q, q < k → IsNm wr (nmAt R q) (f q)) ∧ (∀ z ∈ R, NewAt w.heap.size z.ao z.L) ∧ Below w.heap.size w wr ∧ Box2 wr w.heap.size (.bool x.neg) (.slice x.ao x.L.length x.cap) ∧ Box2 wr (w.heap.size + 1) (.bool y.neg) (.slice y.ao y.L.length y.cap) ∧ w.heap.size + 2 ≤ wr.heap.size

theorem LsI.below {w wr w2 : World} {v : Value} {R : List Nm} {k : Nat} {f : Nat → Int} {x y : Nm} (h : LsI w wr v R k f x y) (hb : Below wr.heap.size wr w2) : LsI w w2 v R k f x y :=
  ⟨h.1.below hb, h.2.1, fun q hq => (h.2.2.1 q hq).below hb, h.2.2.2.1, h.2.2.2.2.1.trans (hb.mono h.2.2.2.2.1.size), h.2.2.2.2.2.1.below hb h.2.2.2.2.2.1.lt, h.2.2.2.2.2.2.1.below hb h.2.2.2.2.2.2.1.lt, Nat.le_trans h.2.2.2.2.2.2.2 hb.size⟩

/-- One number more. -/
theorem LsI.snoc {w wr w2 : World} {v v' : Value} {R : List Nm} {k : Nat} {f : Nat → Int} {x y z : Nm} (h : LsI w wr v R k f x y) (hz : IsNm wr z (f k)) (hn : NewAt w.heap.size z.ao z.L) (ha : Av v.ownBlock z)
    (ho : w2.ownsRow (w.heap.size + 2) 27 2 v' (k + 1) (numCells R ++ [.bool z.neg, .slice z.ao z.L.length z.cap])) (hg : wr.grownBy w2 v.ownBlock) (hl : v'.ownBlock = v.ownBlock ∨ v'.ownBlock = some wr.heap.size) : LsI w w2 v' (R ++ [z]) (k + 1) f x y := by
  obtain ⟨h1, h2, h3, h4, h5, h6, h7, h8⟩ := h
  have ho' := h1.snoc hz.1 ha (by rw [h2]; exact ho) hg hl
  have hob : ∀ m, v.ownBlock = some m → w.heap.size + 2 ≤ m := fun m hm => (h1.lt m hm).1
  have hl2 : ∀ q, q < k + 1 → LimbsAt w2 (nmAt (R ++ [z]) q).ao (nmAt (R ++ [z]) q).cap (nmAt (R ++ [z]) q).L := fun q hq => (ho'.2 _ (nmAt_mem (by simp; omega))).1
  refine ⟨ho', by simp [h2], fun q hq => ?_, fun u hu => ?_, below_of_grown h5 hg h5.size (fun m hm => by have := hob m hm; omega), ?_, ?_, Nat.le_trans h8 hg.size⟩
  · have := hl2 q hq
    rcases Nat.lt_or_ge q k with e | e
    · have e1 : nmAt (R ++ [z]) q = nmAt R q := by unfold nmAt; rw [List.getElem?_append_left (by omega)]
      rw [e1] at this ⊢
      exact ⟨this, (h3 q e).2⟩
    · obtain rfl : q = k := by omega
      have e1 : nmAt (R ++ [z]) q = z := by unfold nmAt; rw [← h2, List.getElem?_append_right (Nat.le_refl _)]; simp
      rw [e1] at this ⊢
      exact ⟨this, hz.2⟩
  · rcases List.mem_append.1 hu with hu | hu
    · exact h4 u hu
    · simp at hu; subst hu; exact hn
  · exact (hg.block w.heap.size (by omega) (fun e => by have := hob w.heap.size e.symm; omega)).trans h6
  · exact (hg.block (w.heap.size + 1) (by omega) (fun e => by have := hob (w.heap.size + 1) e.symm; omega)).trans h7

set_option maxHeartbeats 8000000 in
theorem less_any (b1 o1 c1 b2 o2 c2 n : Nat) (R1 R2 : List Nm) (x y : Nm) (fa fb : Nat → Int) (X Y : Int) (w : World) (h1 : NumsAt w (some ⟨b1, o1, none⟩) c1 R1) (h2 : NumsAt w (some ⟨b2, o2, none⟩) c2 R2) (l1 : R1.length = n) (l2 : R2.length = n) (hn : 0 < n) (hn6 : n ≤ 6)
    (v1 : ∀ k, k < n → IsNm w (nmAt R1 k) (fa k)) (v2 : ∀ k, k < n → IsNm w (nmAt R2 k) (fb k)) (hx : IsNm w x X) (hy : IsNm w y Y)
    (t1 : ∀ k, k < n → (fa k).natAbs < TOPR ∧ (fb k).natAbs < TOPR ∧ (fa k * X).natAbs < TOPR ∧ (fb k * Y).natAbs < TOPR) (tX : X.natAbs < TOPR) (tY : Y.natAbs < TOPR) :
    Calls Tryz.prog 117 #[.slice (some ⟨b1, o1, none⟩) n c1, .agg #[.bool x.neg, .slice x.ao x.L.length x.cap], .slice (some ⟨b2, o2, none⟩) n c2, .agg #[.bool y.neg, .slice y.ao y.L.length y.cap]] w fun e w' => ∃ ao cap R, e = .returned (.slice ao n cap) ∧ NumsAt w' ao cap R ∧ NewAt (w.heap.size + 2) ao (R.map (fun _ => 0)) ∧ R.length = n ∧ (∀ q, q < n → IsNm w' (nmAt R q) (fa q * X - fb q * Y)) ∧ (∀ z ∈ R, NewAt w.heap.size z.ao z.L) ∧ Below w.heap.size w w' := by
  obtain ⟨i0, hi0, hz0, hz1, hz2⟩ := info_parts infoWhole
  have H1 := hide h1; have H2 := hide h2; have V1 := hide v1; have V2 := hide v2; have HX := hide hx; have HY := hide hy; have T1 := hide t1; have TX := hide (fun _ : Unit => tX); have TY := hide (fun _ : Unit => tY); have L1 := hide l1; have L2 := hide l2
  have hS0 : LsI w (((w.alloc (.cells #[.bool x.neg, .slice x.ao x.L.length x.cap] 27)).alloc (.cells #[.bool y.neg, .slice y.ao y.L.length y.cap] 27)).alloc (.cells #[] 27)) (.slice (some ⟨w.heap.size + 2, 0, none⟩) 0 0) [] 0 (fun q => fa q * X - fb q * Y) x y := by
    have e : ((w.alloc (.cells #[.bool x.neg, .slice x.ao x.L.length x.cap] 27)).alloc (.cells #[.bool y.neg, .slice y.ao y.L.length y.cap] 27)).heap.size = w.heap.size + 2 := by simp
    have s := OwnNums.start ((w.alloc (.cells #[.bool x.neg, .slice x.ao x.L.length x.cap] 27)).alloc (.cells #[.bool y.neg, .slice y.ao y.L.length y.cap] 27)) (w.heap.size + 2) (by omega)
    rw [e] at s
    refine ⟨s, rfl, fun q hq => by omega, by simp, (((Below.refl _ _).alloc (Nat.le_refl _) _).alloc (by simp) _).alloc (by simp; omega) _, ((Box2.new _ _ _).old _).old _, ?_, by simp⟩
    have := Box2.new (w.alloc (.cells #[.bool x.neg, .slice x.ao x.L.length x.cap] 27)) (.bool y.neg) (.slice y.ao y.L.length y.cap)
    simp only [World.size_alloc] at this
    exact this.old _
  have HS0 := hide hS0
  obtain ⟨nx, ax, cx, Lx⟩ := x
  obtain ⟨ny, ay, cy, Ly⟩ := y
  simp only at HS0 ⊢
  have hnI : (0 : Int) < (n : Int) := by omega
  clear h1 h2 v1 v2 hx hy t1 tX tY hS0 l1 l2
  go_enter Tryz.func117, Tryz.ntmps117
  go_wp2_with fail
  go_loopw [9, 10] (fun v i wr => ∃ (k : Nat) (R : List Nm), k ≤ n ∧ i = .int .i64 k ∧ Hid (LsI w wr v R k (fun q => fa q * X - fb q * Y) ⟨nx, ax, cx, Lx⟩ ⟨ny, ay, cy, Ly⟩)) (fun _ i _ => n - (intOf i).toNat)
  case atStart => exact ⟨0, [], Nat.zero_le _, rfl, HS0⟩
  case round =>
    obtain ⟨k, R, hk, rfl, hI⟩ := hrel
    clear HS0
    by_cases hlt : k < n
    · have hkI : (k : Int) < (n : Int) := by omega
      have li := unhide hI
      have hbw := li.2.2.2.2.1
      have hBs := li.2.2.2.2.2.2.2
      obtain ⟨b1', o1', e1', hb1, hc1⟩ := (unhide H1).ne (by rw [unhide L1]; exact hn)
      obtain ⟨b2', o2', e2', hb2, hc2⟩ := (unhide H2).ne (by rw [unhide L2]; exact hn)
      simp only [Option.some.injEq, Addr.mk.injEq, and_true] at e1' e2'
      obtain ⟨rfl, rfl⟩ := e1'
      obtain ⟨rfl, rfl⟩ := e2'
      have d1 := hc1 k (by rw [unhide L1]; exact hlt)
      have d2 := hc2 k (by rw [unhide L2]; exact hlt)
      have p1 := unhide V1 k hlt
      have p2 := unhide V2 k hlt
      obtain ⟨pp, hpp⟩ : ∃ pp, nmAt R1 k = pp := ⟨_, rfl⟩
      obtain ⟨qq, hqq⟩ : ∃ qq, nmAt R2 k = qq := ⟨_, rfl⟩
      rw [hpp] at d1 p1
      rw [hqq] at d2 p2
      obtain ⟨np, ap, cp, Lp⟩ := pp
      obtain ⟨nq, aq, cq, Lq⟩ := qq
      simp only at d1 d2
      have CM1 := hide (fun w' (h : Below w.heap.size w w') => refMulR_num (p1.below h).num ((unhide HX).below h).num (unhide T1 k hlt).1 (unhide TX ()))
      have CM2 := hide (fun w' (h : Below w.heap.size w w') => refMulR_num (p2.below h).num ((unhide HY).below h).num (unhide T1 k hlt).2.1 (unhide TY ()))
      have CSB := hide (fun w' u v (hu : IsNum 0 w' u (fa k * X)) (hv : IsNum 0 w' v (fb k * Y)) => refSub_num hu hv (unhide T1 k hlt).2.2.1 (unhide T1 k hlt).2.2.2)
      have HKw := hide (fun w' (h : Below (w.heap.size + 2) wr w') => (show Below (w.heap.size + 2) wr w' ∧ w'.cell? ⟨b1, o1 + k * 2, none⟩ = some (.bool np) ∧ w'.cell? ⟨b1, o1 + k * 2 + 1, none⟩ = some (.slice ap Lp.length cp) ∧ w'.cell? ⟨b2, o2 + k * 2, none⟩ = some (.bool nq) ∧ w'.cell? ⟨b2, o2 + k * 2 + 1, none⟩ = some (.slice aq Lq.length cq) ∧ w'.cell? ⟨w.heap.size, 0, none⟩ = some (.bool nx) ∧ w'.cell? ⟨w.heap.size, 1, none⟩ = some (.slice ax Lx.length cx) ∧ w'.cell? ⟨w.heap.size + 1, 0, none⟩ = some (.bool ny) ∧ w'.cell? ⟨w.heap.size + 1, 1, none⟩ = some (.slice ay Ly.length cy) from by
        have hh := hbw.trans (h.mono (by omega))
        have x0 := li.2.2.2.2.2.1.below h (by omega)
        have x1 := li.2.2.2.2.2.2.1.below h (by omega)
        refine ⟨h, ?_, ?_, ?_, ?_, x0.c0, x0.c1, x1.c0, x1.c1⟩
        · rw [hh.cell (p := ⟨b1, o1 + k * 2, none⟩) hb1]; exact d1.1
        · rw [hh.cell (p := ⟨b1, o1 + k * 2 + 1, none⟩) hb1]; exact d1.2
        · rw [hh.cell (p := ⟨b2, o2 + k * 2, none⟩) hb2]; exact d2.1
        · rw [hh.cell (p := ⟨b2, o2 + k * 2 + 1, none⟩) hb2]; exact d2.2))
      have hob : ∀ m, u9.ownBlock = some m → w.heap.size + 2 ≤ m ∧ m < wr.heap.size := fun m hm => li.1.lt m hm
      have HOB := hide hob; have BW := hide hbw; have HBS := hide hBs
      clear li hbw hBs hc1 hc2 d1 d2 p1 p2 hpp hqq hb1 hb2 hob
      go_wp2_with fail
      refine at_world (fun W => W = wr) rfl ?_
      rintro W0 e0
      subst e0
      have hB0 : Below W0.heap.size W0 W0.drew := (Below.refl _ _).drew
      refine wp_region_held_drew (S := (fun w' => Below (w.heap.size + 2) W0 w' ∧ w'.cell? ⟨b1, o1 + k * 2, none⟩ = some (.bool np) ∧ w'.cell? ⟨b1, o1 + k * 2 + 1, none⟩ = some (.slice ap Lp.length cp) ∧ w'.cell? ⟨b2, o2 + k * 2, none⟩ = some (.bool nq) ∧ w'.cell? ⟨b2, o2 + k * 2 + 1, none⟩ = some (.slice aq Lq.length cq) ∧ w'.cell? ⟨w.heap.size, 0, none⟩ = some (.bool nx) ∧ w'.cell? ⟨w.heap.size, 1, none⟩ = some (.slice ax Lx.length cx) ∧ w'.cell? ⟨w.heap.size + 1, 0, none⟩ = some (.bool ny) ∧ w'.cell? ⟨w.heap.size + 1, 1, none⟩ = some (.slice ay Ly.length cy))) (by kernel_rfl) ?_ (fun hHeld => ?_)
      · exact unhide HKw _ (hB0.mono (unhide HBS))
      refine wpAnyH_take (i := 0) (oi := { dst := some 18, op := Op.move (Operand.tmp 9), type := 87, pos := "ref.go:90", after := #[], guard := none }) (v := ?_) rfl (by kernel_rfl) (by kernel_rfl) (by kernel_rfl) (fun _ _ _ h => h) (Or.inl ⟨by rfl, ?_⟩) (by assumption) ?_
      rotate_left
      · ((intro w hSw; (try dsimp only at hSw); go_simp) <;> with_reducible rfl)
      simp only [Act.put, List.setIfInBounds_toArray, List.set_cons_zero, List.set_cons_succ]
      refine wpAnyH_take (i := 1) (oi := { dst := some 19, op := Op.move (Operand.tmp 0), type := 87, pos := "ref.go:90", after := #[], guard := none }) (v := ?_) rfl (by kernel_rfl) (by kernel_rfl) (by kernel_rfl) (fun _ _ _ h => h) (Or.inl ⟨by rfl, ?_⟩) (by assumption) ?_
      rotate_left
      · ((intro w hSw; (try dsimp only at hSw); go_simp) <;> with_reducible rfl)
      simp only [Act.put, List.setIfInBounds_toArray, List.set_cons_zero, List.set_cons_succ]
      refine wpAnyH_take (i := 2) (oi := { dst := some 20, op := Op.move (Operand.tmp 10), type := 3, pos := "ref.go:90", after := #[], guard := none }) (v := ?_) rfl (by kernel_rfl) (by kernel_rfl) (by kernel_rfl) (fun _ _ _ h => h) (Or.inl ⟨by rfl, ?_⟩) (by assumption) ?_
      rotate_left
      · ((intro w hSw; (try dsimp only at hSw); go_simp) <;> with_reducible rfl)
      simp only [Act.put, List.setIfInBounds_toArray, List.set_cons_zero, List.set_cons_succ]
      refine wpAnyH_take (i := 3) (oi := { dst := some 21, op := Op.indexAddr 87 (Operand.tmp 19) (Operand.tmp 20), type := 0, pos := "ref.go:90", after := #[{ on := 1, ground := Ground.data }, { on := 2, ground := Ground.data }], guard := none }) (v := ?_) rfl (by kernel_rfl) (by kernel_rfl) (by kernel_rfl) (fun _ _ _ h => h) (Or.inl ⟨by rfl, ?_⟩) (by assumption) ?_
      rotate_left
      · ((intro w hSw; (try dsimp only at hSw); go_simp) <;> with_reducible rfl)
      simp only [Act.put, List.setIfInBounds_toArray, List.set_cons_zero, List.set_cons_succ]
      refine wpAnyH_take (i := 4) (oi := { dst := some 22, op := Op.load 27 (Operand.tmp 21), type := 27, pos := "ref.go:90", after := #[{ on := 3, ground := Ground.data }], guard := none }) (v := ?_) rfl (by kernel_rfl) (by kernel_rfl) (by kernel_rfl) (fun _ _ _ h => h) (Or.inl ⟨by rfl, ?_⟩) (by assumption) ?_
      rotate_left
      · ((intro w hSw; (try dsimp only at hSw); go_simp) <;> with_reducible rfl)
      simp only [Act.put, List.setIfInBounds_toArray, List.set_cons_zero, List.set_cons_succ]
      refine wpAnyH_take (i := 5) (oi := { dst := some 23, op := Op.load 27 (Operand.tmp 5), type := 27, pos := "ref.go:90", after := #[], guard := none }) (v := ?_) rfl (by kernel_rfl) (by kernel_rfl) (by kernel_rfl) (fun _ _ _ h => h) (Or.inl ⟨by rfl, ?_⟩) (by assumption) ?_
      rotate_left
      · ((intro w hSw; (try dsimp only at hSw); go_simp) <;> with_reducible rfl)
      simp only [Act.put, List.setIfInBounds_toArray, List.set_cons_zero, List.set_cons_succ]
      refine wpAnyH_take (i := 7) (oi := { dst := some 25, op := Op.move (Operand.tmp 2), type := 87, pos := "ref.go:90", after := #[], guard := none }) (v := ?_) rfl (by kernel_rfl) (by kernel_rfl) (by kernel_rfl) (fun _ _ _ h => h) (Or.inl ⟨by rfl, ?_⟩) (by assumption) ?_
      rotate_left
      · ((intro w hSw; (try dsimp only at hSw); go_simp) <;> with_reducible rfl)
      simp only [Act.put, List.setIfInBounds_toArray, List.set_cons_zero, List.set_cons_succ]
      refine wpAnyH_take (i := 8) (oi := { dst := some 26, op := Op.move (Operand.tmp 10), type := 3, pos := "ref.go:90", after := #[], guard := none }) (v := ?_) rfl (by kernel_rfl) (by kernel_rfl) (by kernel_rfl) (fun _ _ _ h => h) (Or.inl ⟨by rfl, ?_⟩) (by assumption) ?_
      rotate_left
      · ((intro w hSw; (try dsimp only at hSw); go_simp) <;> with_reducible rfl)
      simp only [Act.put, List.setIfInBounds_toArray, List.set_cons_zero, List.set_cons_succ]
      refine wpAnyH_take (i := 9) (oi := { dst := some 27, op := Op.indexAddr 87 (Operand.tmp 25) (Operand.tmp 26), type := 0, pos := "ref.go:90", after := #[{ on := 7, ground := Ground.data }, { on := 8, ground := Ground.data }], guard := none }) (v := ?_) rfl (by kernel_rfl) (by kernel_rfl) (by kernel_rfl) (fun _ _ _ h => h) (Or.inl ⟨by rfl, ?_⟩) (by assumption) ?_
      rotate_left
      · ((intro w hSw; (try dsimp only at hSw); go_simp) <;> with_reducible rfl)
      simp only [Act.put, List.setIfInBounds_toArray, List.set_cons_zero, List.set_cons_succ]
      refine wpAnyH_take (i := 10) (oi := { dst := some 28, op := Op.load 27 (Operand.tmp 27), type := 27, pos := "ref.go:90", after := #[{ on := 9, ground := Ground.data }], guard := none }) (v := ?_) rfl (by kernel_rfl) (by kernel_rfl) (by kernel_rfl) (fun _ _ _ h => h) (Or.inl ⟨by rfl, ?_⟩) (by assumption) ?_
      rotate_left
      · ((intro w hSw; (try dsimp only at hSw); go_simp) <;> with_reducible rfl)
      simp only [Act.put, List.setIfInBounds_toArray, List.set_cons_zero, List.set_cons_succ]
      refine wpAnyH_take (i := 11) (oi := { dst := some 29, op := Op.load 27 (Operand.tmp 7), type := 27, pos := "ref.go:90", after := #[], guard := none }) (v := ?_) rfl (by kernel_rfl) (by kernel_rfl) (by kernel_rfl) (fun _ _ _ h => h) (Or.inl ⟨by rfl, ?_⟩) (by assumption) ?_
      rotate_left
      · ((intro w hSw; (try dsimp only at hSw); go_simp) <;> with_reducible rfl)
      simp only [Act.put, List.setIfInBounds_toArray, List.set_cons_zero, List.set_cons_succ]
      refine wpAnyH_ready (rs := [6]) (by kernel_rfl) (by simp) ?_
      refine AllReadyH.cons (o := { dst := some 24, op := Op.call { callee := Callee.value (Operand.func 96), args := #[Operand.tmp 22, Operand.tmp 23], argTypes := #[27, 27] }, type := 27, pos := "ref.go:90", after := #[{ on := 4, ground := Ground.data }, { on := 5, ground := Ground.data }], guard := none }) rfl (fun K hK => ?_) AllReadyH.nil
      go_simp
      refine (unhide CM1 _ ((unhide BW).trans (hB0.mono (unhide BW).size))).mono ?_
      rintro e w2 ⟨vm, rfl, im, hb2'⟩
      have hB2 : Below W0.heap.size W0 w2 := hB0.trans (hb2'.mono hB0.size)
      have IM := hide im
      clear hb2' im
      go_wp2_with fail
      refine hK.out _ _ ?_ (fun hHeld => ?_)
      · exact unhide HKw _ (hB2.mono (unhide HBS))
      clear hK K
      refine wpAnyH_ready (rs := [12]) (by kernel_rfl) (by simp) ?_
      refine AllReadyH.cons (o := { dst := some 30, op := Op.call { callee := Callee.value (Operand.func 96), args := #[Operand.tmp 28, Operand.tmp 29], argTypes := #[27, 27] }, type := 27, pos := "ref.go:90", after := #[{ on := 10, ground := Ground.data }, { on := 11, ground := Ground.data }, { on := 6, ground := Ground.chain }], guard := none }) rfl (fun K hK => ?_) AllReadyH.nil
      go_simp
      refine (unhide CM2 _ ((unhide BW).trans (hB2.mono (unhide BW).size))).mono ?_
      rintro e w3 ⟨vn, rfl, im2, hb3'⟩
      have hB3 : Below W0.heap.size W0 w3 := hB2.trans (hb3'.mono hB2.size)
      have IM3 := hide ((unhide IM).below hb3'); have IN := hide im2
      clear hb3' im2 IM
      go_wp2_with fail
      refine hK.out _ _ ?_ (fun hHeld => ?_)
      · exact unhide HKw _ (hB3.mono (unhide HBS))
      clear hK K
      refine wpAnyH_ready (rs := [13]) (by kernel_rfl) (by simp) ?_
      refine AllReadyH.cons (o := { dst := some 31, op := Op.call { callee := Callee.value (Operand.func 157), args := #[Operand.tmp 24, Operand.tmp 30], argTypes := #[27, 27] }, type := 27, pos := "ref.go:90", after := #[{ on := 6, ground := Ground.data }, { on := 12, ground := Ground.data }, { on := 12, ground := Ground.chain }], guard := none }) rfl (fun K hK => ?_) AllReadyH.nil
      go_simp
      refine (unhide CSB _ _ _ (unhide IM3) (unhide IN)).mono ?_
      rintro e w4 ⟨vs, rfl, iz, hb4'⟩
      have hB4 : Below W0.heap.size W0 w4 := hB3.trans (hb4'.mono hB3.size)
      obtain ⟨nz, az, cz, Lz, rfl, z1, z2, z3, z4, z5, z6⟩ := iz
      have hbA : Below w4.heap.size w4 (w4.alloc (.cells #[.bool nz, .slice az Lz.length cz] 27)) := (Below.refl _ _).alloc (Nat.le_refl _) _
      have hB5 : Below W0.heap.size W0 (w4.alloc (.cells #[.bool nz, .slice az Lz.length cz] 27)) := hB4.trans (hbA.mono hB4.size)
      have LI5 := hide ((unhide hI).below hB5)
      have IZ := hide ((show IsNm w4 ⟨nz, az, cz, Lz⟩ (fa k * X - fb k * Y) from ⟨z1, z3, z4, z5, z6⟩).below hbA)
      have NZ := hide (show NewAt w.heap.size az Lz from z2.mono (Nat.le_trans (unhide BW).size hB3.size))
      have AZ := hide (show Av u9.ownBlock ⟨nz, az, cz, Lz⟩ from Av.old z2 (fun m hm => Nat.lt_of_lt_of_le (unhide HOB m hm).2 hB3.size))
      have OWN := hide (show (w4.alloc (.cells #[.bool nz, .slice az Lz.length cz] 27)).ownsRow (w.heap.size + 2) 27 2 u9 k (numCells R) by have := (unhide LI5).1.1; rwa [(unhide LI5).2.1] at this)
      clear hb4' z1 z2 z3 z4 z5 z6 hbA IM3 IN
      go_wp2_with fail
      refine hK.out _ _ ?_ (fun hHeld => ?_)
      · exact unhide HKw _ (hB4.mono (unhide HBS))
      clear hK K
      refine wpAnyH_ready (rs := [14]) (by kernel_rfl) (by simp) ?_
      refine AllReadyH.cons (o := { dst := some 32, op := Op.buildSlice 87 1 #[(0, Operand.tmp 31)], type := 87, pos := "ref.go:90", after := #[{ on := 13, ground := Ground.data }], guard := none }) rfl (fun K hK => ?_) AllReadyH.nil
      go_simp
      refine hK.out _ _ ?_ (fun hHeld => ?_)
      · exact unhide HKw _ (hB5.mono (unhide HBS))
      clear hK K
      refine wpAnyH_ready (rs := [15]) (by kernel_rfl) (by simp) ?_
      refine AllReadyH.cons (o := { dst := some 33, op := Op.call { callee := Callee.builtin Builtin.append, args := #[Operand.tmp 18, Operand.tmp 32], argTypes := #[87, 87] }, type := 87, pos := "ref.go:90", after := #[{ on := 0, ground := Ground.data }, { on := 14, ground := Ground.data }, { on := 13, ground := Ground.chain }], guard := none }) rfl (fun K hK => ?_) AllReadyH.nil
      refine step_append_lies _ (by rfl) _ _ _ (by rfl) (w.heap.size + 2) 27 i0 (.agg #[.bool false, .slice none 0 0]) 2 32 Tryz.underlying87 hi0 hz0 hz1 hz2 rfl (by omega) u9 k (numCells R) (by rfl) (unhide OWN) ⟨w4.heap.size, 0, none⟩ 1 1 [.bool nz, .slice az Lz.length cz] (by rfl) (by rfl) (cell_two_new _ _ _ _) (fun u hu => by simp at hu; rcases hu with rfl | rfl <;> rfl) (by decide) (by unfold maxLen; omega) (by omega) (Nat.le_trans (unhide HBS) hB5.size) (w4.heap.size + 1) (by simp) ?_
      intro gg cc w6 hown hgrow hat hlt6
      have FIN := hide ((unhide LI5).snoc (v' := .slice (some ⟨gg, 0, none⟩) (k + 1) cc) (unhide IZ) (unhide NZ) (unhide AZ) hown hgrow (by
        rcases hat with e | e
        · exact .inl e.symm
        · right; show some gg = some _; rw [e]; simp))
      have hB6 : Below (w.heap.size + 2) W0 w6 := below_of_grown (hB5.mono (unhide HBS)) hgrow (Nat.le_trans (unhide HBS) hB5.size) (fun m hm => (unhide HOB m hm).1)
      clear hown hgrow hat hlt6
      refine hK.out _ _ ?_ (fun hHeld => ?_)
      · exact unhide HKw _ hB6
      clear hK K
      refine wpAnyH_take (i := 16) (oi := { dst := some 9, op := Op.assign (Operand.tmp 33), type := 87, pos := "ref.go:90", after := #[{ on := 15, ground := Ground.data }, { on := 15, ground := Ground.chain }, { on := 0, ground := Ground.phase }, { on := 1, ground := Ground.phase }, { on := 2, ground := Ground.phase }, { on := 3, ground := Ground.phase }, { on := 4, ground := Ground.phase }, { on := 5, ground := Ground.phase }, { on := 6, ground := Ground.phase }, { on := 7, ground := Ground.phase }, { on := 8, ground := Ground.phase }, { on := 9, ground := Ground.phase }, { on := 10, ground := Ground.phase }, { on := 11, ground := Ground.phase }, { on := 12, ground := Ground.phase }, { on := 13, ground := Ground.phase }, { on := 14, ground := Ground.phase }, { on := 15, ground := Ground.phase }], guard := none }) (v := ?_) rfl (by kernel_rfl) (by kernel_rfl) (by kernel_rfl) (fun _ _ _ h => h) (Or.inl ⟨by rfl, ?_⟩) (by assumption) ?_
      rotate_left
      · ((intro w hSw; (try dsimp only at hSw); go_simp) <;> with_reducible rfl)
      simp only [Act.put, List.setIfInBounds_toArray, List.set_cons_zero, List.set_cons_succ]
      refine wpAnyH_done (by kernel_rfl) ?_ _
      clear HKw CM1 CM2 CSB HOB BW HBS hB0 hB2 hB3 hB4 hB5 hB6 hHeld LI5 IZ NZ AZ OWN
      go_wp2
      go_roundw
      case rel => exact ⟨k + 1, _, by omega, by go_num, FIN⟩
      case measure => simp [intOf]; omega
    · have hkn : k = n := by omega
      have hgD : decide ((k : Int) < (n : Int)) = false := decide_eq_false (by omega)
      have hgI : ¬ (k : Int) < (n : Int) := by omega
      have li := unhide hI
      obtain ⟨ao', cap', e', q1, q2⟩ := li.1.nums
      rw [li.2.1, hkn] at e'
      have Q := hide (show ∃ ao cap R, Ending.returned u9 = .returned (.slice ao n cap) ∧ NumsAt wr ao cap R ∧ NewAt (w.heap.size + 2) ao (R.map (fun _ => 0)) ∧ R.length = n ∧ (∀ q, q < n → IsNm wr (nmAt R q) (fa q * X - fb q * Y)) ∧ (∀ z ∈ R, NewAt w.heap.size z.ao z.L) ∧ Below w.heap.size w wr from
        ⟨ao', cap', R, by rw [e'], q1, q2, by rw [li.2.1, hkn], fun q hq => li.2.2.1 q (by omega), li.2.2.2.1, li.2.2.2.2.1⟩)
      clear li q1 q2 e' hI
      go_wp2
      go_ret
      obtain ⟨a9, c9, R9, h9, rest9⟩ := unhide Q
      exact ⟨a9, c9, h9, R9, rest9⟩

end Go.Proofs.YtfnnbkclnflpfaaGreatDoor

