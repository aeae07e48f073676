/- Part 36 of the texts. -/
import Derived.Test.YtfnnbkclnflpfaaGreatDoorPartS35
import Derived.Test.YtfnnbkclnflpfaaGreatDoorPartS31
import Derived.Test.YtfnnbkclnflpfaaGreatDoorPartS08
import Derived.Test.YtfnnbkclnflpfaaGreatDoorPartS23
import Derived.Test.YtfnnbkclnflpfaaGreatDoorPartS32
import Derived.Test.YtfnnbkclnflpfaaGreatDoorPartS28
import Derived.Test.YtfnnbkclnflpfaaGreatDoorPartS29
import Derived.Test.YtfnnbkclnflpfaaGreatDoorPartS30
import Derived.Test.YtfnnbkclnflpfaaGreatDoorPartS21
import Derived.Deep.RegionHeld3
import Derived.Test.YtfnnbkclnflpfaaGreatDoorPartS22
import Derived.Deep.AppendLies
/- Package certify: the exact rank. -/
namespace Go.Proofs.YtfnnbkclnflpfaaGreatDoor
open Go.RowKit

theorem minor_congr {a b : Nat → Nat → Int} : ∀ (I C : List Nat), (∀ i ∈ I, ∀ c ∈ C, a i c = b i c) → minorD a I C = minorD b I C
  | [], C, _ => rfl
  | i :: I, C, h => by
    show exD (a i) C (detD (I.map _)) = exD (b i) C (detD (I.map _))
    rw [exD_row (a i) (b i) C _ (fun c hc => h i (by simp) c hc)]
    refine exD_congr (b i) C _ _ (fun l hl _ => ?_)
    exact minor_congr I l (fun j hj c hc => h j (by simp [hj]) c (hl.subset hc))
theorem van_congr {k m n : Nat} {a b : Nat → Nat → Int} (h : ∀ i c, i < m → c < n → a i c = b i c) (hv : Van k a m n) : Van k b m n := by
  intro I C hI hC lI lC
  rw [← minor_congr (a := a) I C (fun i hi c hc => h i c (hI.2 i hi) (hC.2 c hc))]
  exact hv I C hI hC lI lC
theorem rank_congr {k m n : Nat} {a b : Nat → Nat → Int} (h : ∀ i c, i < m → c < n → a i c = b i c) (hr : IsRank k a m n) : IsRank k b m n :=
  ⟨fun hv => hr.1 (van_congr (fun i c hi hc => (h i c hi hc).symm) hv), van_congr h hr.2⟩
theorem rank_norows {a : Nat → Nat → Int} (n : Nat) : IsRank 0 a 0 n := by
  refine ⟨fun hv => ?_, fun I C hI _ lI _ => ?_⟩
  · have := hv [] [] ⟨List.Pairwise.nil, by simp⟩ ⟨List.Pairwise.nil, by simp⟩ rfl rfl
    exact absurd (show (1 : Int) = 0 from this) (by decide)
  · cases I with
    | nil => cases lI
    | cons i I => exact absurd (hI.2 i (by simp)) (by omega)

theorem pow_66 (m k : Nat) (h : m ≤ 32 * k) : 2 ^ m ≤ 4294967296 ^ k := by
  rw [show (4294967296 : Nat) = 2 ^ 32 by decide, ← Nat.pow_mul]
  exact Nat.pow_le_pow_right (by decide) h

/-- A number below 2^2098 has at most 66 limbs: right and short. -/
theorem IsNm.good11 {w : World} {x : Nm} {z : Int} (h : IsNm w x z) (hz : z.natAbs < 2 ^ 2098) : rightN x = true ∧ shortN x = true ∧ sval x.neg x.L = z ∧ x.L.length ≤ 66 := by
  obtain ⟨neg, ao, cap, L⟩ := x
  obtain ⟨h1, h3, h4, h5, h6⟩ := h
  simp only at h1 h3 h4 h5 h6 ⊢
  have hl6 : L.length ≤ 66 := (length_le_iff L h1.2.1 h3 66).2 (by
    rw [h5]
    refine Nat.lt_of_lt_of_le hz ?_
    exact pow_66 2098 66 (by decide))
  have hl : L.length ≤ 512 := by omega
  show rightB neg L = true ∧ decide (L.length ≤ 80) = true ∧ sval neg L = z ∧ L.length ≤ 66
  refine ⟨?_, decide_eq_true (by omega), ?_, hl6⟩
  · have e0 : L.length = 0 → neg = false := fun e => by
      have : L = [] := List.length_eq_zero_iff.1 e
      subst this
      rw [h4]; simp [val] at h5; simp; omega
    have e1 : L.length = 0 ∨ L[L.length - 1]?.getD 0 ≠ 0 := by
      rcases h3 with h | h
      · left; rw [h]; rfl
      · exact .inr h
    simp only [rightB, Bool.and_eq_true, decide_eq_true_eq, Bool.not_eq_true', Bool.and_eq_false_iff, decide_eq_false_iff_not, Bool.or_eq_true]
    refine ⟨⟨hl, ?_⟩, e1⟩
    by_cases e : L.length = 0
    · exact .inr (e0 e)
    · exact .inl e
  · unfold sval
    rw [h4]
    by_cases hx0 : z < 0
    · simp [hx0]; omega
    · simp [hx0]; omega

/-- What rows of such numbers are. -/
theorem rows11 {w : World} {M : List Rw} {r c : Nat} {F : Nat → Nat → Int} (hl : M.length = r) (hr : r ≤ 6) (hc : c ≤ 6) (hw : ∀ i, i < r → (rwAt M i).R.length = c) (hx : ∀ i k, i < r → k < c → IsNm w (entry M i k) (F i k)) (hF : ∀ i k, i < r → k < c → (F i k).natAbs < 2 ^ 2098) :
    mChk M = 0 ∧ SmallM M ∧ (∀ i k, i < r → k < c → valM M i k = F i k) ∧ (0 < r → width M = c) := by
  have hm : ∀ y ∈ M, ∃ i, i < r ∧ y = rwAt M i := fun y hy => by
    obtain ⟨i, hi, rfl⟩ := List.getElem_of_mem hy
    exact ⟨i, by omega, by unfold rwAt; rw [List.getElem?_eq_getElem hi]; rfl⟩
  have hn : ∀ i, i < r → ∀ x ∈ (rwAt M i).R, ∃ k, k < c ∧ x = entry M i k := fun i hi x hx => by
    obtain ⟨k, hk, rfl⟩ := List.getElem_of_mem hx
    exact ⟨k, by rw [hw i hi] at hk; exact hk, by unfold entry nmAt; rw [List.getElem?_eq_getElem hk]; rfl⟩
  have hwd : 0 < r → width M = c := fun h => hw 0 h
  have hsh : shapeB M = true := by
    unfold shapeB
    rw [decide_eq_true (by omega), Bool.true_and, Bool.and_eq_true, decide_eq_true_eq, List.all_eq_true]
    rcases Nat.eq_zero_or_pos r with h0 | h0
    · have : M = [] := List.length_eq_zero_iff.1 (by omega)
      subst this
      exact ⟨by decide, fun x hx => by cases hx⟩
    · rw [hwd h0]
      refine ⟨hc, fun y hy => ?_⟩
      obtain ⟨i, hi, rfl⟩ := hm y hy
      exact decide_eq_true (hw i hi)
  have hg : ∀ y ∈ M, ∀ x ∈ y.R, rightN x = true ∧ shortN x = true ∧ x.L.length ≤ 66 := fun y hy x hxx => by
    obtain ⟨i, hi, rfl⟩ := hm y hy
    obtain ⟨k, hk, rfl⟩ := hn i hi x hxx
    have := (hx i k hi hk).good11 (hF i k hi hk)
    exact ⟨this.1, this.2.1, this.2.2.2⟩
  refine ⟨?_, ⟨by omega, fun y hy => ⟨?_, fun x hxx => by have := (hg y hy x hxx).2.2; omega⟩⟩, fun i k hi hk => ((hx i k hi hk).good11 (hF i k hi hk)).2.2.1, hwd⟩
  · unfold mChk
    rw [if_pos hsh, if_pos, if_pos]
    · rw [List.all_eq_true]; intro y hy; rw [List.all_eq_true]; exact fun x hxx => (hg y hy x hxx).2.1
    · rw [List.all_eq_true]; intro y hy; rw [List.all_eq_true]; exact fun x hxx => (hg y hy x hxx).1
  · obtain ⟨i, hi, rfl⟩ := hm y hy
    rw [hw i hi]; omega

theorem rank_of11 {k r c : Nat} {M : List Rw} {F : Nat → Nat → Int} (hl : M.length = r) (hv : ∀ i k, i < r → k < c → valM M i k = F i k) (hw : 0 < r → width M = c) (h : IsRank k (valM M) M.length (width M)) : IsRank k F r c := by
  rcases Nat.eq_zero_or_pos r with h0 | h0
  · subst h0
    rw [hl] at h
    have := h.unique (rank_norows (width M))
    rw [this]
    exact rank_norows c
  · rw [hw h0, hl] at h
    exact rank_congr hv h

theorem cRank_any (r c cap : Nat) (ao : Option Addr) (S : List Nat) (w : World) (h : Mx w ao cap r c S) (hf : ∀ x ∈ S, fFin x = true) (hT : Tab w) :
    Calls Tryz.prog 24 #[.agg #[.int .i64 r, .int .i64 c, .slice ao S.length cap]] w fun e w' => ∃ k : Nat, e = .returned (.tuple #[.int .i64 (k : Nat), .int .i64 0]) ∧ IsRank k (fun i k => fZ (elM c S i k)) r c ∧ Below w.heap.size w w' := by
  refine cRank_of r c S.length cap ao (fun i k => fZ (elM c S i k)) (fun k => IsRank k (fun i k => fZ (elM c S i k)) r c) w (fun w' hb => ccheck_ok r c cap ao S w' (h.below hb) hf) (fun w' hb => wholes_any r c cap ao S w' (h.below hb) hf (hT.all hb)) (fun w' g V hL => ?_)
  obtain ⟨M, m1, m2, m3, m4⟩ := hL.mat
  obtain ⟨q1, q2, q3, q4⟩ := rows11 m1 h.2.2.1 h.2.2.2 m3 m4 (fun i k _ _ => fZ_lt _ (el_fin c S i k hf))
  have C := rank_any (some ⟨g, 0, none⟩) r M w' m2 q2
  rw [m1] at C
  refine C.mono ?_
  rintro e w'' ⟨k, rfl, h1, _, hb⟩
  rw [q1]
  rw [← m1] at h1
  exact ⟨k, rfl, rank_of11 m1 q3 q4 (h1 q1), hb⟩

end Go.Proofs.YtfnnbkclnflpfaaGreatDoor

/- The reference of layer 11: Check, Square, Tame. The law's told, one, awake. -/
namespace Go.Proofs.YtfnnbkclnflpfaaGreatDoor
open Go.RowKit
attribute [local go_sem ↓] Go.wp_at_zero Go.wp_at_succ
set_option maxRecDepth 20000 in
set_option maxHeartbeats 4000000 in
theorem r11tame_any (r c : Int) (ao : Option Addr) (cap : Nat) (I : List Int) (K : Int) (w : World) (hI : BitsAt w ao cap I) (hn : I.length ≤ 35184372088830) (hK : -5000 ≤ K ∧ K ≤ 5000) :
    Calls Tryz.prog 25 #[.agg #[.int .i64 r, .int .i64 c, .slice ao I.length cap], .int .i64 K] w fun e w' => e = .returned (.bool (okB r c I.length && tmK K I I.length)) ∧ Below w.heap.size w w' := by
  have K1 := hide (fun w' => rright_any r c ao I.length cap w')
  have K2 := hide (fun w' (h : BitsAt w' ao cap I) => r9tame_any ao cap I K w' h hn hK)
  have BB := hide (below_alloc9 w (.cells #[.int .i64 r, .int .i64 c, .slice ao I.length cap] 24))
  have X0 := hide (BoxM.new w (.int .i64 r) (.int .i64 c) (.slice ao I.length cap))
  have HI := hide hI
  generalize okB r c I.length = b at *
  generalize tmK K I I.length = f at *
  generalize I.length = n at *
  clear hI hK
  cases b
  · clear K2
    go_enter Tryz.func25, Tryz.ntmps25
    go_wp2_with fail
    refine (unhide K1 _).mono ?_
    rintro e w1 ⟨rfl, hb1⟩
    have PB := hide ((unhide BB).trans (hb1.mono (unhide BB).size))
    clear hb1 K1 X0
    go_wp2
    go_ret
    exact ⟨rfl, unhide PB⟩
  · go_enter Tryz.func25, Tryz.ntmps25
    go_wp2_with fail
    refine (unhide K1 _).mono ?_
    rintro e w1 ⟨rfl, hb1⟩
    replace BB := hide ((unhide BB).trans (hb1.mono (unhide BB).size)); replace X0 := hide ((unhide X0).all hb1)
    clear hb1 K1
    have y2 := (unhide X0).c2
    go_wp2_with fail
    refine (unhide K2 _ ((unhide HI).below (unhide BB))).mono ?_
    rintro e w2 ⟨rfl, hb1⟩
    replace BB := hide ((unhide BB).trans (hb1.mono (unhide BB).size))
    clear hb1 K2 y2
    go_wp2
    go_ret
    exact ⟨rfl, unhide BB⟩

theorem fnK_all {I : List Int} : ∀ n, fnK I n = true ↔ ∀ k, k < n → fFin (atB I k) = true
  | 0 => ⟨fun _ k hk => by omega, fun _ => rfl⟩
  | n + 1 => by
    show (fnK I n && fFin (atB I n)) = true ↔ _
    rw [Bool.and_eq_true, fnK_all n]
    constructor
    · rintro ⟨h1, h2⟩ k hk
      by_cases e : k = n
      · subst e; exact h2
      · exact h1 k (by omega)
    · exact fun h => ⟨fun k hk => h k (by omega), h n (by omega)⟩
theorem fin_all {S : List Nat} (h : fnK (mxL S) S.length = true) : ∀ x ∈ S, fFin x = true := fun x hx => by
  obtain ⟨i, hi, rfl⟩ := List.getElem_of_mem hx
  have := (fnK_all _).1 h i hi
  rw [mxL_at] at this
  rwa [List.getD_eq_getElem?_getD, List.getElem?_eq_getElem hi] at this
end Go.Proofs.YtfnnbkclnflpfaaGreatDoor

/- The law of layer 11: told, one, awake. -/
namespace Go.Proofs.YtfnnbkclnflpfaaGreatDoor
open Go.RowKit
attribute [local go_sem ↓] Go.wp_at_zero Go.wp_at_succ
set_option maxRecDepth 20000 in
set_option maxHeartbeats 4000000 in
theorem one11_any (b : Nat) (hb : b < 18446744073709551616) (w : World) :
    Calls Tryz.prog 43 #[.int .u64 b] w fun e w' => ∃ ao cap, e = .returned (.agg #[.int .i64 1, .int .i64 1, .slice ao 1 cap]) ∧ BitsAt w' ao cap (mxL [b]) ∧ Below w.heap.size w w' := by
  have b0 := below_alloc9 w (.cells #[.int .i64 1, .int .i64 1, .slice (some ⟨w.heap.size + 1, 0, none⟩) 1 1] 24)
  have s0 := size_alloc9 w (.cells #[.int .i64 1, .int .i64 1, .slice (some ⟨w.heap.size + 1, 0, none⟩) 1 1] 24)
  have x0 := BoxM.new w (.int .i64 1) (.int .i64 1) (.slice (some ⟨w.heap.size + 1, 0, none⟩) 1 1)
  generalize hw0 : w.alloc (.cells #[.int .i64 1, .int .i64 1, .slice (some ⟨w.heap.size + 1, 0, none⟩) 1 1] 24) = w0 at *
  have b1 := below_alloc9 w0 (.cells #[.int .u64 b] 52)
  have h1 := heap_alloc_new w0 (.cells #[.int .u64 b] 52)
  have s1 := size_alloc9 w0 (.cells #[.int .u64 b] 52)
  have x1 := x0.all b1
  have hB : BitsAt (w0.alloc (.cells #[.int .u64 b] 52)) (some ⟨w.heap.size + 1, 0, none⟩) 1 (mxL [b]) := by
    refine ⟨by simp [mxL], fun x hx => ?_, .inr ⟨_, _, rfl, by omega, fun i hi => ?_⟩⟩
    · obtain rfl : x = (b : Int) := by simpa [mxL] using hx
      omega
    · obtain rfl : i = 0 := by simpa [mxL] using hi
      rw [s0] at h1
      rw [cell_of_row _ _ _ _ _ _ h1]; rfl
  have y0 := x1.c0; have y1 := x1.c1; have y2 := x1.c2
  have HB := hide hB; have BB := hide (b0.trans (b1.mono b0.size))
  rw [← hw0] at y0 y1 y2 HB BB
  clear b0 s0 x0 hw0 b1 h1 s1 x1 hB
  go_enter Tryz.func43, Tryz.ntmps43
  go_wp2_with fail
  exact bodyPost_ret (v := .agg #[.int .i64 1, .int .i64 1, .slice (some ⟨w.heap.size + 1, 0, none⟩) 1 1]) (by simp [results, Tryz.results43, go_sem, y0, y1, y2]) rfl ⟨_, _, rfl, unhide HB, unhide BB⟩

theorem dy_one {w : World} {v : Value} (h : IsDy w v 1 0) : ∃ g off cap, v = .agg #[.bool false, .slice (some ⟨g, off, none⟩) 1 cap, .int .i64 0] ∧ g < w.heap.size ∧ w.cell? ⟨g, off, none⟩ = some (.int .u32 1) := by
  obtain ⟨neg, ao, cap, L, rfl, h1, h2, h3, h4, _⟩ := h.parts
  have e : L = [1] := eq_of_canon L [1] h1.2.1 (by intro x hx; simp at hx; omega) h2 (.inr (by simp)) (by rw [h4]; rfl)
  subst e
  have e2 : neg = false := by rw [h3]; rfl
  subst e2
  obtain ⟨g, off, rfl, hg, hc⟩ := h1.ne (by decide)
  exact ⟨g, off, cap, rfl, hg, hc 0 (by decide)⟩

set_option maxRecDepth 20000 in
set_option maxHeartbeats 8000000 in
theorem awake11_of (w : World)
    (C1 : ∀ w' ao ca bo cb co cc, Below w.heap.size w w' → BitsAt w' ao ca (mxL [4611686018427387904]) → BitsAt w' bo cb (mxL [4607182418800017408]) → BitsAt w' co cc (mxL [4607182418800017408]) → Calls Tryz.prog 17 #[.agg #[.int .i64 1, .int .i64 1, .slice ao 1 ca], .agg #[.int .i64 1, .int .i64 1, .slice bo 1 cb], .agg #[.int .i64 1, .int .i64 1, .slice co 1 cc]] w' fun e w'' => ∃ v, e = .returned (.tuple #[v, .int .i64 0]) ∧ IsDy w'' v 1 0 ∧ Below w'.heap.size w' w'')
    (C2 : ∀ w' ao ca, Below w.heap.size w w' → BitsAt w' ao ca (mxL [4607182418800017408]) → Calls Tryz.prog 24 #[.agg #[.int .i64 1, .int .i64 1, .slice ao 1 ca]] w' fun e w'' => e = .returned (.tuple #[.int .i64 1, .int .i64 0]) ∧ Below w'.heap.size w' w'') :
    Calls Tryz.prog 14 #[] w fun e w' => e = .returned (.bool true) ∧ Below w.heap.size w w' := by
  have K1 := hide C1; have K2 := hide C2
  have K3 := hide (fun w' => one11_any 4611686018427387904 (by decide) w')
  have K4 := hide (fun w' => one11_any 4607182418800017408 (by decide) w')
  have BB := hide (Below.refl w.heap.size w)
  clear C1 C2
  go_enter Tryz.func14, Tryz.ntmps14
  go_wp2_with fail
  refine (unhide K3 _).mono ?_
  rintro e w1 ⟨ao, ca, rfl, qa, hb1⟩
  replace BB := hide ((unhide BB).trans hb1)
  have QA := hide qa
  clear qa hb1 K3
  go_wp2_with fail
  refine (unhide K4 _).mono ?_
  rintro e w2 ⟨bo, cb, rfl, qb, hb1⟩
  replace BB := hide ((unhide BB).trans (hb1.mono (unhide BB).size)); replace QA := hide ((unhide QA).below hb1)
  have QB := hide qb
  clear qb hb1
  go_wp2_with fail
  refine (unhide K4 _).mono ?_
  rintro e w3 ⟨co, cc, rfl, qc, hb1⟩
  replace BB := hide ((unhide BB).trans (hb1.mono (unhide BB).size)); replace QA := hide ((unhide QA).below hb1); replace QB := hide ((unhide QB).below hb1)
  have QC := hide qc
  clear qc hb1
  go_wp2_with fail
  refine (unhide K1 _ _ _ _ _ _ _ (unhide BB) (unhide QA) (unhide QB) (unhide QC)).mono ?_
  rintro e w4 ⟨v, rfl, iL, hb1⟩
  obtain ⟨g, off, lc, rfl, hg, hc⟩ := dy_one iL
  have ba := below_alloc9 w4 (.cells #[.bool false, .slice (some ⟨g, off, none⟩) 1 lc, .int .i64 0] 29)
  have hbb := hb1.trans (ba.mono hb1.size)
  replace BB := hide ((unhide BB).trans (hbb.mono (unhide BB).size))
  have XD := hide (Box3.new w4 (.bool false) (.slice (some ⟨g, off, none⟩) 1 lc) (.int .i64 0))
  have HC := hide (cell_keep hc ba)
  have hg2 : g < (w4.alloc (.cells #[.bool false, .slice (some ⟨g, off, none⟩) 1 lc, .int .i64 0] 29)).heap.size := by simp; omega
  clear hb1 hbb ba QA QB QC K1 iL hc hg
  go_wp2_with fail
  generalize w4.heap.size = d at *
  refine (unhide K4 _).mono ?_
  rintro e w5 ⟨bo, cb, rfl, qb, hb1⟩
  replace BB := hide ((unhide BB).trans (hb1.mono (unhide BB).size)); replace XD := hide ((unhide XD).all hb1); replace HC := hide (cell_keep (unhide HC) hb1)
  have QB := hide qb
  clear qb hb1 K4 hg2
  go_wp2_with fail
  refine (unhide K2 _ _ _ (unhide BB) (unhide QB)).mono ?_
  rintro e w6 ⟨rfl, hb1⟩
  replace BB := hide ((unhide BB).trans (hb1.mono (unhide BB).size)); replace XD := hide ((unhide XD).all hb1); replace HC := hide (cell_keep (unhide HC) hb1)
  clear hb1 K2 QB
  have c0 := unhide HC
  have x0 := (unhide XD).c0; have x1 := (unhide XD).c1; have x2 := (unhide XD).c2
  go_wp2
  go_ret
  exact ⟨rfl, unhide BB⟩

theorem awake_rs : rsQ 1 1 1 [4611686018427387904] [4607182418800017408] [4607182418800017408] = 1 * 2 ^ 4296 := by decide +kernel
theorem awake_dy {w : World} {v : Value} (h : IsLv w v (-4296) (rsQ 1 1 1 [4611686018427387904] [4607182418800017408] [4607182418800017408])) : IsDy w v 1 0 := by
  unfold IsLv at h
  rw [awake_rs] at h
  obtain ⟨e1, e2⟩ := oM_scale 1 4296 (-4296)
  rw [e1, e2] at h
  exact h
theorem rank_one {a : Nat → Nat → Int} (h : a 0 0 ≠ 0) : IsRank 1 a 1 1 := by
  refine ⟨fun hv => h ?_, fun I C hI _ lI _ => ?_⟩
  · have := hv [0] [0] ⟨List.pairwise_singleton _ _, by simp⟩ ⟨List.pairwise_singleton _ _, by simp⟩ rfl rfl
    have e : minorD a [0] [0] = a 0 0 := by simp [minorD, detD, exD]
    rw [← e]; exact this
  · obtain ⟨i, j, rfl⟩ : ∃ i j, I = [i, j] := by
      match I, lI with
      | [i, j], _ => exact ⟨i, j, rfl⟩
    have h1 := hI.2 i (by simp)
    have h2 := hI.2 j (by simp)
    have h3 := hI.1
    simp at h3
    omega
theorem fin_two : ∀ x ∈ [4611686018427387904], fFin x = true := by decide
theorem fin_one : ∀ x ∈ [4607182418800017408], fFin x = true := by decide
theorem fZ_one : fZ 4607182418800017408 ≠ 0 := by decide +kernel
theorem awake11_any (w : World) (hT : Tab w) : Calls Tryz.prog 14 #[] w fun e w' => e = .returned (.bool true) ∧ Below w.heap.size w w' := by
  have hm : ∀ (w' : World) ao cap (b : Nat), BitsAt w' ao cap (mxL [b]) → Mx w' ao cap 1 1 [b] := fun w' ao cap b h => ⟨h, rfl, by omega, by omega⟩
  refine awake11_of w (fun w' ao ca bo cb co cc hb ha hB hc => ?_) (fun w' ao ca hb ha => ?_)
  · refine (cRes_any 1 1 1 ca cb cc ao bo co [4611686018427387904] [4607182418800017408] [4607182418800017408] w' (hm _ _ _ _ ha) (hm _ _ _ _ hB) (hm _ _ _ _ hc) fin_two fin_one fin_one (hT.all hb)).mono ?_
    rintro e w'' ⟨v, h1, h2, h3⟩
    exact ⟨v, h1, awake_dy h2, h3⟩
  · refine (cRank_any 1 1 ca ao [4607182418800017408] w' (hm _ _ _ _ ha) fin_one (hT.all hb)).mono ?_
    rintro e w'' ⟨k, rfl, h2, h3⟩
    have := h2.unique (rank_one (a := fun i k => fZ (elM 1 [4607182418800017408] i k)) fZ_one)
    subst this
    exact ⟨rfl, h3⟩

end Go.Proofs.YtfnnbkclnflpfaaGreatDoor

/- Contract of the reference's less. -/
namespace Go.Proofs.YtfnnbkclnflpfaaGreatDoor
open Go.RowKit
attribute [local go_sem ↓] Go.wp_at_zero Go.wp_at_succ
/-- What holds in less's loop. -/
def LsI (w wr : World) (v : Value) (R : List Nm) (k : Nat) (f : Nat → Int) (x y : Nm) : Prop :=
  OwnNums (w.heap.size + 2) wr v R ∧ R.length = k ∧ (∀ q, q < k → IsNm wr (nmAt R q) (f q)) ∧ (∀ z ∈ R, NewAt w.heap.size z.ao z.L) ∧ Below w.heap.size w wr ∧ Box2 wr w.heap.size (.bool x.neg) (.slice x.ao x.L.length x.cap) ∧ Box2 wr (w.heap.size + 1) (.bool y.neg) (.slice y.ao y.L.length y.cap) ∧ w.heap.size + 2 ≤ wr.heap.size

theorem LsI.below {w wr w2 : World} {v : Value} {R : List Nm} {k : Nat} {f : Nat → Int} {x y : Nm} (h : LsI w wr v R k f x y) (hb : Below wr.heap.size wr w2) : LsI w w2 v R k f x y :=
  ⟨h.1.below hb, h.2.1, fun q hq => (h.2.2.1 q hq).below hb, h.2.2.2.1, h.2.2.2.2.1.trans (hb.mono h.2.2.2.2.1.size), h.2.2.2.2.2.1.below hb h.2.2.2.2.2.1.lt, h.2.2.2.2.2.2.1.below hb h.2.2.2.2.2.2.1.lt, Nat.le_trans h.2.2.2.2.2.2.2 hb.size⟩

end Go.Proofs.YtfnnbkclnflpfaaGreatDoor

/- Rows taken off crosswise, column by column: what stays true, and the rank at the end. No program. -/
namespace Go.Proofs.YtfnnbkclnflpfaaGreatDoor

/-- c columns are done, dn of them with a pivot. -/
def St (A a : Nat → Nat → Int) (m n c dn : Nat) : Prop :=
  (∀ k, Van k A m n ↔ Van k a m n) ∧ dn ≤ m ∧ ∃ P : List Nat, P.Pairwise (· < ·) ∧ (∀ p ∈ P, p < c) ∧ P.length = dn ∧ (∀ j, j < dn → a j (P[j]?.getD 0) ≠ 0) ∧ (∀ j i, j < dn → j < i → i < m → a i (P[j]?.getD 0) = 0) ∧ (∀ i, dn ≤ i → i < m → ∀ c', c' < c → a i c' = 0)

theorem St.none {A a : Nat → Nat → Int} {m n c dn : Nat} (h : St A a m n c dn) (hz : ∀ i, dn ≤ i → i < m → a i c = 0) : St A a m n (c + 1) dn := by
  obtain ⟨h1, h2, P, p1, p2, p3, p4, p5, p6⟩ := h
  refine ⟨h1, h2, P, p1, fun p hp => by have := p2 p hp; omega, p3, p4, p5, fun i hi hm c' hc => ?_⟩
  rcases Nat.lt_or_ge c' c with h | h
  · exact p6 i hi hm c' h
  · obtain rfl : c' = c := by omega
    exact hz i hi hm

theorem St.rank {A a : Nat → Nat → Int} {m n dn : Nat} (h : St A a m n n dn) : IsRank dn A m n := by
  obtain ⟨q1, q2, P, p1, p2, p3, p4, p5, p6⟩ := h
  have := rank_stairs (a := a) P ⟨p1, p2⟩ (by omega) (fun j hj => p4 j (by omega)) (fun j i hj => p5 j i (by omega)) (fun i hi => p6 i (by omega))
  rw [p3] at this
  exact ⟨fun hv => this.1 ((q1 _).1 hv), (q1 _).2 this.2⟩

end Go.Proofs.YtfnnbkclnflpfaaGreatDoor

