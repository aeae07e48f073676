/- Part 34 of the texts. -/
import Derived.Test.YtfnnbkclnflpfaaGreatDoorPartW29
import Derived.Test.YtfnnbkclnflpfaaGreatDoorPartW28
import Derived.OwnWalk
import Derived.Test.YtfnnbkclnflpfaaGreatDoorPartW30
import Derived.Test.YtfnnbkclnflpfaaGreatDoorPartW11
import Derived.Test.YtfnnbkclnflpfaaGreatDoorPartW06
import Derived.Test.YtfnnbkclnflpfaaGreatDoorPartW02
import Derived.Test.YtfnnbkclnflpfaaGreatDoorPartW08
import Derived.Test.YtfnnbkclnflpfaaGreatDoorPartW10
import Derived.Test.YtfnnbkclnflpfaaGreatDoorPartW33
import Derived.Test.YtfnnbkclnflpfaaGreatDoorPartW09
import Derived.Test.YtfnnbkclnflpfaaGreatDoorPartW21
import Derived.Test.YtfnnbkclnflpfaaGreatDoorPartW26
import Derived.Test.YtfnnbkclnflpfaaGreatDoorChecked
import Derived.Test.YtfnnbkclnflpfaaGreatDoorPartW04
import Derived.ProofKit
import Derived.SizedLaws
import Derived.Lib.SmallJoins
/- Determinants by the first row, as the reference reckons them. -/
namespace Go.Proofs.YtfnnbkclnflpfaaGreatDoor
open Go.RowKit
/-- Places that are some of the first n. -/
def InI (n : Nat) (I : List Int) : Prop := ∀ x ∈ I, 0 ≤ x ∧ x < n
theorem InI.at {n : Nat} {I : List Int} (h : InI n I) {j : Nat} (hj : j < I.length) : ∃ q : Nat, atI I j = (q : Int) ∧ q < n ∧ (natI I)[j]?.getD 0 = q := by
  have h1 := h _ (List.getElem_mem hj)
  refine ⟨(I[j]).toNat, ?_, by omega, ?_⟩
  · unfold atI; rw [List.getElem?_eq_getElem hj]; simp; omega
  · unfold natI; rw [List.getElem?_map, List.getElem?_eq_getElem hj]; rfl
theorem IntsAt.nil (w : World) (ao : Option Addr) (cap : Nat) : IntsAt w ao cap [] := ⟨by simp, by simp, .inl rfl⟩

end Go.Proofs.YtfnnbkclnflpfaaGreatDoor

/- Package certify: the exact rank. -/
namespace Go.Proofs.YtfnnbkclnflpfaaGreatDoor
open Go.RowKit

theorem minor_congr {a b : Nat → Nat → Int} : ∀ (I C : List Nat), (∀ i ∈ I, ∀ c ∈ C, a i c = b i c) → minorD a I C = minorD b I C
  | [], C, _ => rfl
  | i :: I, C, h => by
    show exD (a i) C (detD (I.map _)) = exD (b i) C (detD (I.map _))
    rw [exD_row (a i) (b i) C _ (fun c hc => h i (by simp) c hc)]
    refine exD_congr (b i) C _ _ (fun l hl _ => ?_)
    exact minor_congr I l (fun j hj c hc => h j (by simp [hj]) c (hl.subset hc))
theorem van_congr {k m n : Nat} {a b : Nat → Nat → Int} (h : ∀ i c, i < m → c < n → a i c = b i c) (hv : Van k a m n) : Van k b m n := by
  intro I C hI hC lI lC
  rw [← minor_congr (a := a) I C (fun i hi c hc => h i c (hI.2 i hi) (hC.2 c hc))]
  exact hv I C hI hC lI lC
theorem rank_congr {k m n : Nat} {a b : Nat → Nat → Int} (h : ∀ i c, i < m → c < n → a i c = b i c) (hr : IsRank k a m n) : IsRank k b m n :=
  ⟨fun hv => hr.1 (van_congr (fun i c hi hc => (h i c hi hc).symm) hv), van_congr h hr.2⟩
theorem rank_norows {a : Nat → Nat → Int} (n : Nat) : IsRank 0 a 0 n := by
  refine ⟨fun hv => ?_, fun I C hI _ lI _ => ?_⟩
  · have := hv [] [] ⟨List.Pairwise.nil, by simp⟩ ⟨List.Pairwise.nil, by simp⟩ rfl rfl
    exact absurd (show (1 : Int) = 0 from this) (by decide)
  · cases I with
    | nil => cases lI
    | cons i I => exact absurd (hI.2 i (by simp)) (by omega)

theorem pow_66 (m k : Nat) (h : m ≤ 32 * k) : 2 ^ m ≤ 4294967296 ^ k := by
  rw [show (4294967296 : Nat) = 2 ^ 32 by decide, ← Nat.pow_mul]
  exact Nat.pow_le_pow_right (by decide) h

/-- A number below 2^2098 has at most 66 limbs: right and short. -/
theorem IsNm.good11 {w : World} {x : Nm} {z : Int} (h : IsNm w x z) (hz : z.natAbs < 2 ^ 2098) : rightN x = true ∧ shortN x = true ∧ sval x.neg x.L = z ∧ x.L.length ≤ 66 := by
  obtain ⟨neg, ao, cap, L⟩ := x
  obtain ⟨h1, h3, h4, h5, h6⟩ := h
  simp only at h1 h3 h4 h5 h6 ⊢
  have hl6 : L.length ≤ 66 := (length_le_iff L h1.2.1 h3 66).2 (by
    rw [h5]
    refine Nat.lt_of_lt_of_le hz ?_
    exact pow_66 2098 66 (by decide))
  have hl : L.length ≤ 512 := by omega
  show rightB neg L = true ∧ decide (L.length ≤ 80) = true ∧ sval neg L = z ∧ L.length ≤ 66
  refine ⟨?_, decide_eq_true (by omega), ?_, hl6⟩
  · have e0 : L.length = 0 → neg = false := fun e => by
      have : L = [] := List.length_eq_zero_iff.1 e
      subst this
      rw [h4]; simp [val] at h5; simp; omega
    have e1 : L.length = 0 ∨ L[L.length - 1]?.getD 0 ≠ 0 := by
      rcases h3 with h | h
      · left; rw [h]; rfl
      · exact .inr h
    simp only [rightB, Bool.and_eq_true, decide_eq_true_eq, Bool.not_eq_true', Bool.and_eq_false_iff, decide_eq_false_iff_not, Bool.or_eq_true]
    refine ⟨⟨hl, ?_⟩, e1⟩
    by_cases e : L.length = 0
    · exact .inr (e0 e)
    · exact .inl e
  · unfold sval
    rw [h4]
    by_cases hx0 : z < 0
    · simp [hx0]; omega
    · simp [hx0]; omega

/-- What rows of such numbers are. -/
theorem rows11 {w : World} {M : List Rw} {r c : Nat} {F : Nat → Nat → Int} (hl : M.length = r) (hr : r ≤ 6) (hc : c ≤ 6) (hw : ∀ i, i < r → (rwAt M i).R.length = c) (hx : ∀ i k, i < r → k < c → IsNm w (entry M i k) (F i k)) (hF : ∀ i k, i < r → k < c → (F i k).natAbs < 2 ^ 2098) :
    mChk M = 0 ∧ SmallM M ∧ (∀ i k, i < r → k < c → valM M i k = F i k) ∧ (0 < r → width M = c) := by
  have hm : ∀ y ∈ M, ∃ i, i < r ∧ y = rwAt M i := fun y hy => by
    obtain ⟨i, hi, rfl⟩ := List.getElem_of_mem hy
    exact ⟨i, by omega, by unfold rwAt; rw [List.getElem?_eq_getElem hi]; rfl⟩
  have hn : ∀ i, i < r → ∀ x ∈ (rwAt M i).R, ∃ k, k < c ∧ x = entry M i k := fun i hi x hx => by
    obtain ⟨k, hk, rfl⟩ := List.getElem_of_mem hx
    exact ⟨k, by rw [hw i hi] at hk; exact hk, by unfold entry nmAt; rw [List.getElem?_eq_getElem hk]; rfl⟩
  have hwd : 0 < r → width M = c := fun h => hw 0 h
  have hsh : shapeB M = true := by
    unfold shapeB
    rw [decide_eq_true (by omega), Bool.true_and, Bool.and_eq_true, decide_eq_true_eq, List.all_eq_true]
    rcases Nat.eq_zero_or_pos r with h0 | h0
    · have : M = [] := List.length_eq_zero_iff.1 (by omega)
      subst this
      exact ⟨by decide, fun x hx => by cases hx⟩
    · rw [hwd h0]
      refine ⟨hc, fun y hy => ?_⟩
      obtain ⟨i, hi, rfl⟩ := hm y hy
      exact decide_eq_true (hw i hi)
  have hg : ∀ y ∈ M, ∀ x ∈ y.R, rightN x = true ∧ shortN x = true ∧ x.L.length ≤ 66 := fun y hy x hxx => by
    obtain ⟨i, hi, rfl⟩ := hm y hy
    obtain ⟨k, hk, rfl⟩ := hn i hi x hxx
    have := (hx i k hi hk).good11 (hF i k hi hk)
    exact ⟨this.1, this.2.1, this.2.2.2⟩
  refine ⟨?_, ⟨by omega, fun y hy => ⟨?_, fun x hxx => by have := (hg y hy x hxx).2.2; omega⟩⟩, fun i k hi hk => ((hx i k hi hk).good11 (hF i k hi hk)).2.2.1, hwd⟩
  · unfold mChk
    rw [if_pos hsh, if_pos, if_pos]
    · rw [List.all_eq_true]; intro y hy; rw [List.all_eq_true]; exact fun x hxx => (hg y hy x hxx).2.1
    · rw [List.all_eq_true]; intro y hy; rw [List.all_eq_true]; exact fun x hxx => (hg y hy x hxx).1
  · obtain ⟨i, hi, rfl⟩ := hm y hy
    rw [hw i hi]; omega

theorem rank_of11 {k r c : Nat} {M : List Rw} {F : Nat → Nat → Int} (hl : M.length = r) (hv : ∀ i k, i < r → k < c → valM M i k = F i k) (hw : 0 < r → width M = c) (h : IsRank k (valM M) M.length (width M)) : IsRank k F r c := by
  rcases Nat.eq_zero_or_pos r with h0 | h0
  · subst h0
    rw [hl] at h
    have := h.unique (rank_norows (width M))
    rw [this]
    exact rank_norows c
  · rw [hw h0, hl] at h
    exact rank_congr hv h

theorem cRank_any (r c cap : Nat) (ao : Option Addr) (S : List Nat) (w : World) (h : Mx w ao cap r c S) (hf : ∀ x ∈ S, fFin x = true) (hT : Tab w) :
    Calls Tryz.prog 24 #[.agg #[.int .i64 r, .int .i64 c, .slice ao S.length cap]] w fun e w' => ∃ k : Nat, e = .returned (.tuple #[.int .i64 (k : Nat), .int .i64 0]) ∧ IsRank k (fun i k => fZ (elM c S i k)) r c ∧ Below w.heap.size w w' := by
  refine cRank_of r c S.length cap ao (fun i k => fZ (elM c S i k)) (fun k => IsRank k (fun i k => fZ (elM c S i k)) r c) w (fun w' hb => ccheck_ok r c cap ao S w' (h.below hb) hf) (fun w' hb => wholes_any r c cap ao S w' (h.below hb) hf (hT.all hb)) (fun w' g V hL => ?_)
  obtain ⟨M, m1, m2, m3, m4⟩ := hL.mat
  obtain ⟨q1, q2, q3, q4⟩ := rows11 m1 h.2.2.1 h.2.2.2 m3 m4 (fun i k _ _ => fZ_lt _ (el_fin c S i k hf))
  have C := rank_any (some ⟨g, 0, none⟩) r M w' m2 q2
  rw [m1] at C
  refine C.mono ?_
  rintro e w'' ⟨k, rfl, h1, _, hb⟩
  rw [q1]
  rw [← m1] at h1
  exact ⟨k, rfl, rank_of11 m1 q3 q4 (h1 q1), hb⟩

end Go.Proofs.YtfnnbkclnflpfaaGreatDoor

/- The law of layer 11: told, one, awake. -/
namespace Go.Proofs.YtfnnbkclnflpfaaGreatDoor
open Go.RowKit
attribute [local go_sem ↓] Go.wp_at_zero Go.wp_at_succ
set_option maxRecDepth 20000 in
set_option maxHeartbeats 4000000 in
theorem one11_any (b : Nat) (hb : b < 18446744073709551616) (w : World) :
    Calls Tryz.prog 43 #[.int .u64 b] w fun e w' => ∃ ao cap, e = .returned (.agg #[.int .i64 1, .int .i64 1, .slice ao 1 cap]) ∧ BitsAt w' ao cap (mxL [b]) ∧ Below w.heap.size w w' := by
  have b0 := below_alloc9 w (.cells #[.int .i64 1, .int .i64 1, .slice (some ⟨w.heap.size + 1, 0, none⟩) 1 1] 24)
  have s0 := size_alloc9 w (.cells #[.int .i64 1, .int .i64 1, .slice (some ⟨w.heap.size + 1, 0, none⟩) 1 1] 24)
  have x0 := BoxM.new w (.int .i64 1) (.int .i64 1) (.slice (some ⟨w.heap.size + 1, 0, none⟩) 1 1)
  generalize hw0 : w.alloc (.cells #[.int .i64 1, .int .i64 1, .slice (some ⟨w.heap.size + 1, 0, none⟩) 1 1] 24) = w0 at *
  have b1 := below_alloc9 w0 (.cells #[.int .u64 b] 52)
  have h1 := heap_alloc_new w0 (.cells #[.int .u64 b] 52)
  have s1 := size_alloc9 w0 (.cells #[.int .u64 b] 52)
  have x1 := x0.all b1
  have hB : BitsAt (w0.alloc (.cells #[.int .u64 b] 52)) (some ⟨w.heap.size + 1, 0, none⟩) 1 (mxL [b]) := by
    refine ⟨by simp [mxL], fun x hx => ?_, .inr ⟨_, _, rfl, by omega, fun i hi => ?_⟩⟩
    · obtain rfl : x = (b : Int) := by simpa [mxL] using hx
      omega
    · obtain rfl : i = 0 := by simpa [mxL] using hi
      rw [s0] at h1
      rw [cell_of_row _ _ _ _ _ _ h1]; rfl
  have y0 := x1.c0; have y1 := x1.c1; have y2 := x1.c2
  have HB := hide hB; have BB := hide (b0.trans (b1.mono b0.size))
  rw [← hw0] at y0 y1 y2 HB BB
  clear b0 s0 x0 hw0 b1 h1 s1 x1 hB
  go_enter Tryz.func43, Tryz.ntmps43
  go_wp2_with fail
  exact bodyPost_ret (v := .agg #[.int .i64 1, .int .i64 1, .slice (some ⟨w.heap.size + 1, 0, none⟩) 1 1]) (by simp [results, Tryz.results43, go_sem, y0, y1, y2]) rfl ⟨_, _, rfl, unhide HB, unhide BB⟩

theorem dy_one {w : World} {v : Value} (h : IsDy w v 1 0) : ∃ g off cap, v = .agg #[.bool false, .slice (some ⟨g, off, none⟩) 1 cap, .int .i64 0] ∧ g < w.heap.size ∧ w.cell? ⟨g, off, none⟩ = some (.int .u32 1) := by
  obtain ⟨neg, ao, cap, L, rfl, h1, h2, h3, h4, _⟩ := h.parts
  have e : L = [1] := eq_of_canon L [1] h1.2.1 (by intro x hx; simp at hx; omega) h2 (.inr (by simp)) (by rw [h4]; rfl)
  subst e
  have e2 : neg = false := by rw [h3]; rfl
  subst e2
  obtain ⟨g, off, rfl, hg, hc⟩ := h1.ne (by decide)
  exact ⟨g, off, cap, rfl, hg, hc 0 (by decide)⟩

set_option maxRecDepth 20000 in
set_option maxHeartbeats 8000000 in
theorem awake11_of (w : World)
    (C1 : ∀ w' ao ca bo cb co cc, Below w.heap.size w w' → BitsAt w' ao ca (mxL [4611686018427387904]) → BitsAt w' bo cb (mxL [4607182418800017408]) → BitsAt w' co cc (mxL [4607182418800017408]) → Calls Tryz.prog 17 #[.agg #[.int .i64 1, .int .i64 1, .slice ao 1 ca], .agg #[.int .i64 1, .int .i64 1, .slice bo 1 cb], .agg #[.int .i64 1, .int .i64 1, .slice co 1 cc]] w' fun e w'' => ∃ v, e = .returned (.tuple #[v, .int .i64 0]) ∧ IsDy w'' v 1 0 ∧ Below w'.heap.size w' w'')
    (C2 : ∀ w' ao ca, Below w.heap.size w w' → BitsAt w' ao ca (mxL [4607182418800017408]) → Calls Tryz.prog 24 #[.agg #[.int .i64 1, .int .i64 1, .slice ao 1 ca]] w' fun e w'' => e = .returned (.tuple #[.int .i64 1, .int .i64 0]) ∧ Below w'.heap.size w' w'') :
    Calls Tryz.prog 14 #[] w fun e w' => e = .returned (.bool true) ∧ Below w.heap.size w w' := by
  have K1 := hide C1; have K2 := hide C2
  have K3 := hide (fun w' => one11_any 4611686018427387904 (by decide) w')
  have K4 := hide (fun w' => one11_any 4607182418800017408 (by decide) w')
  have BB := hide (Below.refl w.heap.size w)
  clear C1 C2
  go_enter Tryz.func14, Tryz.ntmps14
  go_wp2_with fail
  refine (unhide K3 _).mono ?_
  rintro e w1 ⟨ao, ca, rfl, qa, hb1⟩
  replace BB := hide ((unhide BB).trans hb1)
  have QA := hide qa
  clear qa hb1 K3
  go_wp2_with fail
  refine (unhide K4 _).mono ?_
  rintro e w2 ⟨bo, cb, rfl, qb, hb1⟩
  replace BB := hide ((unhide BB).trans (hb1.mono (unhide BB).size)); replace QA := hide ((unhide QA).below hb1)
  have QB := hide qb
  clear qb hb1
  go_wp2_with fail
  refine (unhide K4 _).mono ?_
  rintro e w3 ⟨co, cc, rfl, qc, hb1⟩
  replace BB := hide ((unhide BB).trans (hb1.mono (unhide BB).size)); replace QA := hide ((unhide QA).below hb1); replace QB := hide ((unhide QB).below hb1)
  have QC := hide qc
  clear qc hb1
  go_wp2_with fail
  refine (unhide K1 _ _ _ _ _ _ _ (unhide BB) (unhide QA) (unhide QB) (unhide QC)).mono ?_
  rintro e w4 ⟨v, rfl, iL, hb1⟩
  obtain ⟨g, off, lc, rfl, hg, hc⟩ := dy_one iL
  have ba := below_alloc9 w4 (.cells #[.bool false, .slice (some ⟨g, off, none⟩) 1 lc, .int .i64 0] 29)
  have hbb := hb1.trans (ba.mono hb1.size)
  replace BB := hide ((unhide BB).trans (hbb.mono (unhide BB).size))
  have XD := hide (Box3.new w4 (.bool false) (.slice (some ⟨g, off, none⟩) 1 lc) (.int .i64 0))
  have HC := hide (cell_keep hc ba)
  have hg2 : g < (w4.alloc (.cells #[.bool false, .slice (some ⟨g, off, none⟩) 1 lc, .int .i64 0] 29)).heap.size := by simp; omega
  clear hb1 hbb ba QA QB QC K1 iL hc hg
  go_wp2_with fail
  generalize w4.heap.size = d at *
  refine (unhide K4 _).mono ?_
  rintro e w5 ⟨bo, cb, rfl, qb, hb1⟩
  replace BB := hide ((unhide BB).trans (hb1.mono (unhide BB).size)); replace XD := hide ((unhide XD).all hb1); replace HC := hide (cell_keep (unhide HC) hb1)
  have QB := hide qb
  clear qb hb1 K4 hg2
  go_wp2_with fail
  refine (unhide K2 _ _ _ (unhide BB) (unhide QB)).mono ?_
  rintro e w6 ⟨rfl, hb1⟩
  replace BB := hide ((unhide BB).trans (hb1.mono (unhide BB).size)); replace XD := hide ((unhide XD).all hb1); replace HC := hide (cell_keep (unhide HC) hb1)
  clear hb1 K2 QB
  have c0 := unhide HC
  have x0 := (unhide XD).c0; have x1 := (unhide XD).c1; have x2 := (unhide XD).c2
  go_wp2
  go_ret
  exact ⟨rfl, unhide BB⟩

theorem awake_rs : rsQ 1 1 1 [4611686018427387904] [4607182418800017408] [4607182418800017408] = 1 * 2 ^ 4296 := by decide +kernel
theorem awake_dy {w : World} {v : Value} (h : IsLv w v (-4296) (rsQ 1 1 1 [4611686018427387904] [4607182418800017408] [4607182418800017408])) : IsDy w v 1 0 := by
  unfold IsLv at h
  rw [awake_rs] at h
  obtain ⟨e1, e2⟩ := oM_scale 1 4296 (-4296)
  rw [e1, e2] at h
  exact h
theorem rank_one {a : Nat → Nat → Int} (h : a 0 0 ≠ 0) : IsRank 1 a 1 1 := by
  refine ⟨fun hv => h ?_, fun I C hI _ lI _ => ?_⟩
  · have := hv [0] [0] ⟨List.pairwise_singleton _ _, by simp⟩ ⟨List.pairwise_singleton _ _, by simp⟩ rfl rfl
    have e : minorD a [0] [0] = a 0 0 := by simp [minorD, detD, exD]
    rw [← e]; exact this
  · obtain ⟨i, j, rfl⟩ : ∃ i j, I = [i, j] := by
      match I, lI with
      | [i, j], _ => exact ⟨i, j, rfl⟩
    have h1 := hI.2 i (by simp)
    have h2 := hI.2 j (by simp)
    have h3 := hI.1
    simp at h3
    omega
theorem fin_two : ∀ x ∈ [4611686018427387904], fFin x = true := by decide
theorem fin_one : ∀ x ∈ [4607182418800017408], fFin x = true := by decide
theorem fZ_one : fZ 4607182418800017408 ≠ 0 := by decide +kernel
theorem awake11_any (w : World) (hT : Tab w) : Calls Tryz.prog 14 #[] w fun e w' => e = .returned (.bool true) ∧ Below w.heap.size w w' := by
  have hm : ∀ (w' : World) ao cap (b : Nat), BitsAt w' ao cap (mxL [b]) → Mx w' ao cap 1 1 [b] := fun w' ao cap b h => ⟨h, rfl, by omega, by omega⟩
  refine awake11_of w (fun w' ao ca bo cb co cc hb ha hB hc => ?_) (fun w' ao ca hb ha => ?_)
  · refine (cRes_any 1 1 1 ca cb cc ao bo co [4611686018427387904] [4607182418800017408] [4607182418800017408] w' (hm _ _ _ _ ha) (hm _ _ _ _ hB) (hm _ _ _ _ hc) fin_two fin_one fin_one (hT.all hb)).mono ?_
    rintro e w'' ⟨v, h1, h2, h3⟩
    exact ⟨v, h1, awake_dy h2, h3⟩
  · refine (cRank_any 1 1 ca ao [4607182418800017408] w' (hm _ _ _ _ ha) fin_one (hT.all hb)).mono ?_
    rintro e w'' ⟨k, rfl, h2, h3⟩
    have := h2.unique (rank_one (a := fun i k => fZ (elM 1 [4607182418800017408] i k)) fZ_one)
    subst this
    exact ⟨rfl, h3⟩

end Go.Proofs.YtfnnbkclnflpfaaGreatDoor

/- The law CertifyWithins, walked. Written by mke1.py. -/
namespace Go.Proofs.YtfnnbkclnflpfaaGreatDoor
open Go.RowKit
attribute [local go_sem ↓] Go.wp_at_zero Go.wp_at_succ

set_option maxRecDepth 20000 in
set_option maxHeartbeats 8000000 in
theorem certifyWithins_long (na nb : Bool) (ao bo : Option Addr) (ka kb ca cb : Nat) (x y k : Int) (w : World) (h : 60 < ka ∨ (ka ≤ 60 ∧ 60 < kb))
    (CA : ∀ w', Below w.heap.size w w' → Calls Tryz.prog 14 #[] w' fun e w'' => e = .returned (.bool true) ∧ Below w'.heap.size w' w'') :
    Calls Tryz.prog 5 #[.agg #[.bool na, .slice ao ka ca, .int .i64 x], .agg #[.bool nb, .slice bo kb cb, .int .i64 y], .int .i64 k] w fun e w' => e = .returned (.bool true) ∧ Below w.heap.size w w' := by
  have KA := hide CA
  have ST := hide (AmSt.start w na nb ao bo ka kb ca cb x y)
  clear CA
  rcases h with h | ⟨h, h2⟩
  all_goals
    have x0 := (unhide ST).1.c0; have x1 := (unhide ST).1.c1; have x2 := (unhide ST).1.c2; have y0 := (unhide ST).2.1.c0; have y1 := (unhide ST).2.1.c1; have y2 := (unhide ST).2.1.c2
    go_enter Tryz.func5, Tryz.ntmps5
    go_wp2_with fail
    refine (unhide KA _ (unhide ST).2.2).mono ?_
    rintro e w9 ⟨rfl, hb1⟩
    clear x0 x1 x2 y0 y1 y2
    replace ST := hide ((unhide ST).all hb1)
    clear hb1
    go_wp2
    go_ret
    exact ⟨rfl, (unhide ST).2.2⟩

set_option maxRecDepth 20000 in
set_option maxHeartbeats 8000000 in
theorem certifyWithins_x (na nb : Bool) (ao bo : Option Addr) (ka kb ca cb : Nat) (x y k : Int) (w : World) (ha : ka ≤ 60) (hb : kb ≤ 60)
    (CA : ∀ w', Below w.heap.size w w' → Calls Tryz.prog 14 #[] w' fun e w'' => e = .returned (.bool true) ∧ Below w'.heap.size w' w'')
    (CW : ∀ w', Below w.heap.size w w' → Calls Tryz.prog 21 #[.agg #[.bool na, .slice ao ka ca, .int .i64 x], .agg #[.bool nb, .slice bo kb cb, .int .i64 y], .int .i64 k] w' fun e w'' => e = .returned (.tuple #[.bool false, .int .i64 1]) ∧ Below w'.heap.size w' w'')
    (CX : ∀ w', Below w.heap.size w w' → Calls Tryz.prog 22 #[.agg #[.bool na, .slice ao ka ca, .int .i64 x]] w' fun e w'' => e = .returned (.bool false) ∧ Below w'.heap.size w' w'') :
    Calls Tryz.prog 5 #[.agg #[.bool na, .slice ao ka ca, .int .i64 x], .agg #[.bool nb, .slice bo kb cb, .int .i64 y], .int .i64 k] w fun e w' => e = .returned (.bool true) ∧ Below w.heap.size w w' := by
  have KA := hide CA
  have ST := hide (AmSt.start w na nb ao bo ka kb ca cb x y)
  clear CA
  have KW := hide CW; have KX := hide CX
  clear CW CX
  have x0 := (unhide ST).1.c0; have x1 := (unhide ST).1.c1; have x2 := (unhide ST).1.c2; have y0 := (unhide ST).2.1.c0; have y1 := (unhide ST).2.1.c1; have y2 := (unhide ST).2.1.c2
  go_enter Tryz.func5, Tryz.ntmps5
  go_wp2_with fail
  refine (unhide KW _ (unhide ST).2.2).mono ?_
  rintro e w1 ⟨rfl, hb1⟩
  clear x0 x1 x2 y0 y1 y2
  replace ST := hide ((unhide ST).all hb1)
  clear hb1
  have x0 := (unhide ST).1.c0; have x1 := (unhide ST).1.c1; have x2 := (unhide ST).1.c2; have y0 := (unhide ST).2.1.c0; have y1 := (unhide ST).2.1.c1; have y2 := (unhide ST).2.1.c2
  go_wp2_with fail
  refine (unhide KX _ (unhide ST).2.2).mono ?_
  rintro e w2 ⟨rfl, hb1⟩
  clear x0 x1 x2 y0 y1 y2
  replace ST := hide ((unhide ST).all hb1)
  clear hb1
  have x0 := (unhide ST).1.c0; have x1 := (unhide ST).1.c1; have x2 := (unhide ST).1.c2; have y0 := (unhide ST).2.1.c0; have y1 := (unhide ST).2.1.c1; have y2 := (unhide ST).2.1.c2
  go_wp2_with fail
  refine (unhide KA _ (unhide ST).2.2).mono ?_
  rintro e w9 ⟨rfl, hb1⟩
  clear x0 x1 x2 y0 y1 y2
  replace ST := hide ((unhide ST).all hb1)
  clear hb1
  go_wp2
  go_ret
  exact ⟨rfl, (unhide ST).2.2⟩

set_option maxRecDepth 20000 in
set_option maxHeartbeats 8000000 in
theorem certifyWithins_y (na nb : Bool) (ao bo : Option Addr) (ka kb ca cb : Nat) (x y k : Int) (w : World) (ha : ka ≤ 60) (hb : kb ≤ 60)
    (CA : ∀ w', Below w.heap.size w w' → Calls Tryz.prog 14 #[] w' fun e w'' => e = .returned (.bool true) ∧ Below w'.heap.size w' w'')
    (CW : ∀ w', Below w.heap.size w w' → Calls Tryz.prog 21 #[.agg #[.bool na, .slice ao ka ca, .int .i64 x], .agg #[.bool nb, .slice bo kb cb, .int .i64 y], .int .i64 k] w' fun e w'' => e = .returned (.tuple #[.bool false, .int .i64 1]) ∧ Below w'.heap.size w' w'')
    (CX : ∀ w', Below w.heap.size w w' → Calls Tryz.prog 22 #[.agg #[.bool na, .slice ao ka ca, .int .i64 x]] w' fun e w'' => e = .returned (.bool true) ∧ Below w'.heap.size w' w'')
    (CY : ∀ w', Below w.heap.size w w' → Calls Tryz.prog 22 #[.agg #[.bool nb, .slice bo kb cb, .int .i64 y]] w' fun e w'' => e = .returned (.bool false) ∧ Below w'.heap.size w' w'') :
    Calls Tryz.prog 5 #[.agg #[.bool na, .slice ao ka ca, .int .i64 x], .agg #[.bool nb, .slice bo kb cb, .int .i64 y], .int .i64 k] w fun e w' => e = .returned (.bool true) ∧ Below w.heap.size w w' := by
  have KA := hide CA
  have ST := hide (AmSt.start w na nb ao bo ka kb ca cb x y)
  clear CA
  have KW := hide CW; have KX := hide CX; have KY := hide CY
  clear CW CX CY
  have x0 := (unhide ST).1.c0; have x1 := (unhide ST).1.c1; have x2 := (unhide ST).1.c2; have y0 := (unhide ST).2.1.c0; have y1 := (unhide ST).2.1.c1; have y2 := (unhide ST).2.1.c2
  go_enter Tryz.func5, Tryz.ntmps5
  go_wp2_with fail
  refine (unhide KW _ (unhide ST).2.2).mono ?_
  rintro e w1 ⟨rfl, hb1⟩
  clear x0 x1 x2 y0 y1 y2
  replace ST := hide ((unhide ST).all hb1)
  clear hb1
  have x0 := (unhide ST).1.c0; have x1 := (unhide ST).1.c1; have x2 := (unhide ST).1.c2; have y0 := (unhide ST).2.1.c0; have y1 := (unhide ST).2.1.c1; have y2 := (unhide ST).2.1.c2
  go_wp2_with fail
  refine (unhide KX _ (unhide ST).2.2).mono ?_
  rintro e w2 ⟨rfl, hb1⟩
  clear x0 x1 x2 y0 y1 y2
  replace ST := hide ((unhide ST).all hb1)
  clear hb1
  have x0 := (unhide ST).1.c0; have x1 := (unhide ST).1.c1; have x2 := (unhide ST).1.c2; have y0 := (unhide ST).2.1.c0; have y1 := (unhide ST).2.1.c1; have y2 := (unhide ST).2.1.c2
  go_wp2_with fail
  refine (unhide KY _ (unhide ST).2.2).mono ?_
  rintro e w3 ⟨rfl, hb1⟩
  clear x0 x1 x2 y0 y1 y2
  replace ST := hide ((unhide ST).all hb1)
  clear hb1
  have x0 := (unhide ST).1.c0; have x1 := (unhide ST).1.c1; have x2 := (unhide ST).1.c2; have y0 := (unhide ST).2.1.c0; have y1 := (unhide ST).2.1.c1; have y2 := (unhide ST).2.1.c2
  go_wp2_with fail
  refine (unhide KA _ (unhide ST).2.2).mono ?_
  rintro e w9 ⟨rfl, hb1⟩
  clear x0 x1 x2 y0 y1 y2
  replace ST := hide ((unhide ST).all hb1)
  clear hb1
  go_wp2
  go_ret
  exact ⟨rfl, (unhide ST).2.2⟩

set_option maxRecDepth 20000 in
set_option maxHeartbeats 8000000 in
theorem certifyWithins_no (na nb : Bool) (ao bo : Option Addr) (ka kb ca cb : Nat) (x y k : Int) (w : World) (ha : ka ≤ 60) (hb : kb ≤ 60) (h : na = true ∨ (na = false ∧ nb = true) ∨ (na = false ∧ nb = false ∧ k < 0) ∨ (na = false ∧ nb = false ∧ ¬ k < 0 ∧ 200 < k))
    (CA : ∀ w', Below w.heap.size w w' → Calls Tryz.prog 14 #[] w' fun e w'' => e = .returned (.bool true) ∧ Below w'.heap.size w' w'')
    (CW : ∀ w', Below w.heap.size w w' → Calls Tryz.prog 21 #[.agg #[.bool na, .slice ao ka ca, .int .i64 x], .agg #[.bool nb, .slice bo kb cb, .int .i64 y], .int .i64 k] w' fun e w'' => e = .returned (.tuple #[.bool false, .int .i64 1]) ∧ Below w'.heap.size w' w'')
    (CX : ∀ w', Below w.heap.size w w' → Calls Tryz.prog 22 #[.agg #[.bool na, .slice ao ka ca, .int .i64 x]] w' fun e w'' => e = .returned (.bool true) ∧ Below w'.heap.size w' w'')
    (CY : ∀ w', Below w.heap.size w w' → Calls Tryz.prog 22 #[.agg #[.bool nb, .slice bo kb cb, .int .i64 y]] w' fun e w'' => e = .returned (.bool true) ∧ Below w'.heap.size w' w'') :
    Calls Tryz.prog 5 #[.agg #[.bool na, .slice ao ka ca, .int .i64 x], .agg #[.bool nb, .slice bo kb cb, .int .i64 y], .int .i64 k] w fun e w' => e = .returned (.bool true) ∧ Below w.heap.size w w' := by
  have KA := hide CA
  have ST := hide (AmSt.start w na nb ao bo ka kb ca cb x y)
  clear CA
  have KW := hide CW; have KX := hide CX; have KY := hide CY
  clear CW CX CY
  rcases h with rfl | ⟨rfl, rfl⟩ | ⟨rfl, rfl, h⟩ | ⟨rfl, rfl, h, h2⟩
  all_goals
    have x0 := (unhide ST).1.c0; have x1 := (unhide ST).1.c1; have x2 := (unhide ST).1.c2; have y0 := (unhide ST).2.1.c0; have y1 := (unhide ST).2.1.c1; have y2 := (unhide ST).2.1.c2
    go_enter Tryz.func5, Tryz.ntmps5
    go_wp2_with fail
    refine (unhide KW _ (unhide ST).2.2).mono ?_
    rintro e w1 ⟨rfl, hb1⟩
    clear x0 x1 x2 y0 y1 y2
    replace ST := hide ((unhide ST).all hb1)
    clear hb1
    have x0 := (unhide ST).1.c0; have x1 := (unhide ST).1.c1; have x2 := (unhide ST).1.c2; have y0 := (unhide ST).2.1.c0; have y1 := (unhide ST).2.1.c1; have y2 := (unhide ST).2.1.c2
    go_wp2_with fail
    refine (unhide KX _ (unhide ST).2.2).mono ?_
    rintro e w2 ⟨rfl, hb1⟩
    clear x0 x1 x2 y0 y1 y2
    replace ST := hide ((unhide ST).all hb1)
    clear hb1
    have x0 := (unhide ST).1.c0; have x1 := (unhide ST).1.c1; have x2 := (unhide ST).1.c2; have y0 := (unhide ST).2.1.c0; have y1 := (unhide ST).2.1.c1; have y2 := (unhide ST).2.1.c2
    go_wp2_with fail
    refine (unhide KY _ (unhide ST).2.2).mono ?_
    rintro e w3 ⟨rfl, hb1⟩
    clear x0 x1 x2 y0 y1 y2
    replace ST := hide ((unhide ST).all hb1)
    clear hb1
    have x0 := (unhide ST).1.c0; have x1 := (unhide ST).1.c1; have x2 := (unhide ST).1.c2; have y0 := (unhide ST).2.1.c0; have y1 := (unhide ST).2.1.c1; have y2 := (unhide ST).2.1.c2
    go_wp2_with fail
    refine (unhide KA _ (unhide ST).2.2).mono ?_
    rintro e w9 ⟨rfl, hb1⟩
    clear x0 x1 x2 y0 y1 y2
    replace ST := hide ((unhide ST).all hb1)
    clear hb1
    go_wp2
    go_ret
    exact ⟨rfl, (unhide ST).2.2⟩

set_option maxRecDepth 20000 in
set_option maxHeartbeats 8000000 in
theorem certifyWithins_far (na nb : Bool) (ao bo : Option Addr) (ka kb ca cb : Nat) (x y k : Int) (w : World) (ha : ka ≤ 60) (hb : kb ≤ 60) (b : Bool) (h1 : na = false) (h2 : nb = false) (h3 : ¬ k < 0) (h4 : ¬ 200 < k) (h5 : y < -9000 ∨ (¬ y < -9000 ∧ 9000 < y))
    (CA : ∀ w', Below w.heap.size w w' → Calls Tryz.prog 14 #[] w' fun e w'' => e = .returned (.bool true) ∧ Below w'.heap.size w' w'')
    (CW : ∀ w', Below w.heap.size w w' → Calls Tryz.prog 21 #[.agg #[.bool na, .slice ao ka ca, .int .i64 x], .agg #[.bool nb, .slice bo kb cb, .int .i64 y], .int .i64 k] w' fun e w'' => e = .returned (.tuple #[.bool b, .int .i64 0]) ∧ Below w'.heap.size w' w'')
    (CX : ∀ w', Below w.heap.size w w' → Calls Tryz.prog 22 #[.agg #[.bool na, .slice ao ka ca, .int .i64 x]] w' fun e w'' => e = .returned (.bool true) ∧ Below w'.heap.size w' w'')
    (CY : ∀ w', Below w.heap.size w w' → Calls Tryz.prog 22 #[.agg #[.bool nb, .slice bo kb cb, .int .i64 y]] w' fun e w'' => e = .returned (.bool true) ∧ Below w'.heap.size w' w'') :
    Calls Tryz.prog 5 #[.agg #[.bool na, .slice ao ka ca, .int .i64 x], .agg #[.bool nb, .slice bo kb cb, .int .i64 y], .int .i64 k] w fun e w' => e = .returned (.bool true) ∧ Below w.heap.size w w' := by
  have KA := hide CA
  have ST := hide (AmSt.start w na nb ao bo ka kb ca cb x y)
  clear CA
  have KW := hide CW; have KX := hide CX; have KY := hide CY
  clear CW CX CY
  subst h1 h2
  rcases h5 with h5 | ⟨h5, h6⟩
  all_goals
    have x0 := (unhide ST).1.c0; have x1 := (unhide ST).1.c1; have x2 := (unhide ST).1.c2; have y0 := (unhide ST).2.1.c0; have y1 := (unhide ST).2.1.c1; have y2 := (unhide ST).2.1.c2
    go_enter Tryz.func5, Tryz.ntmps5
    go_wp2_with fail
    refine (unhide KW _ (unhide ST).2.2).mono ?_
    rintro e w1 ⟨rfl, hb1⟩
    clear x0 x1 x2 y0 y1 y2
    replace ST := hide ((unhide ST).all hb1)
    clear hb1
    have x0 := (unhide ST).1.c0; have x1 := (unhide ST).1.c1; have x2 := (unhide ST).1.c2; have y0 := (unhide ST).2.1.c0; have y1 := (unhide ST).2.1.c1; have y2 := (unhide ST).2.1.c2
    go_wp2_with fail
    refine (unhide KX _ (unhide ST).2.2).mono ?_
    rintro e w2 ⟨rfl, hb1⟩
    clear x0 x1 x2 y0 y1 y2
    replace ST := hide ((unhide ST).all hb1)
    clear hb1
    have x0 := (unhide ST).1.c0; have x1 := (unhide ST).1.c1; have x2 := (unhide ST).1.c2; have y0 := (unhide ST).2.1.c0; have y1 := (unhide ST).2.1.c1; have y2 := (unhide ST).2.1.c2
    go_wp2_with fail
    refine (unhide KY _ (unhide ST).2.2).mono ?_
    rintro e w3 ⟨rfl, hb1⟩
    clear x0 x1 x2 y0 y1 y2
    replace ST := hide ((unhide ST).all hb1)
    clear hb1
    have x0 := (unhide ST).1.c0; have x1 := (unhide ST).1.c1; have x2 := (unhide ST).1.c2; have y0 := (unhide ST).2.1.c0; have y1 := (unhide ST).2.1.c1; have y2 := (unhide ST).2.1.c2
    go_wp2_with fail
    refine (unhide KA _ (unhide ST).2.2).mono ?_
    rintro e w9 ⟨rfl, hb1⟩
    clear x0 x1 x2 y0 y1 y2
    replace ST := hide ((unhide ST).all hb1)
    clear hb1
    go_wp2
    go_ret
    exact ⟨rfl, (unhide ST).2.2⟩

set_option maxRecDepth 20000 in
set_option maxHeartbeats 8000000 in
theorem certifyWithins_is (na nb : Bool) (ao bo : Option Addr) (ka kb ca cb : Nat) (x y k : Int) (w : World) (ha : ka ≤ 60) (hb : kb ≤ 60) (b : Bool) (h1 : na = false) (h2 : nb = false) (h3 : ¬ k < 0) (h4 : ¬ 200 < k) (h5 : ¬ y < -9000) (h6 : ¬ 9000 < y)
    (CA : ∀ w', Below w.heap.size w w' → Calls Tryz.prog 14 #[] w' fun e w'' => e = .returned (.bool true) ∧ Below w'.heap.size w' w'')
    (CW : ∀ w', Below w.heap.size w w' → Calls Tryz.prog 21 #[.agg #[.bool na, .slice ao ka ca, .int .i64 x], .agg #[.bool nb, .slice bo kb cb, .int .i64 y], .int .i64 k] w' fun e w'' => e = .returned (.tuple #[.bool b, .int .i64 0]) ∧ Below w'.heap.size w' w'')
    (CX : ∀ w', Below w.heap.size w w' → Calls Tryz.prog 22 #[.agg #[.bool na, .slice ao ka ca, .int .i64 x]] w' fun e w'' => e = .returned (.bool true) ∧ Below w'.heap.size w' w'')
    (CY : ∀ w', Below w.heap.size w w' → Calls Tryz.prog 22 #[.agg #[.bool nb, .slice bo kb cb, .int .i64 y]] w' fun e w'' => e = .returned (.bool true) ∧ Below w'.heap.size w' w'')
    (CR : ∀ w', Below w.heap.size w w' → Calls Tryz.prog 23 #[.agg #[.bool na, .slice ao ka ca, .int .i64 x], .agg #[.bool nb, .slice bo kb cb, .int .i64 y], .int .i64 k] w' fun e w'' => e = .returned (.bool b) ∧ Below w'.heap.size w' w'') :
    Calls Tryz.prog 5 #[.agg #[.bool na, .slice ao ka ca, .int .i64 x], .agg #[.bool nb, .slice bo kb cb, .int .i64 y], .int .i64 k] w fun e w' => e = .returned (.bool true) ∧ Below w.heap.size w w' := by
  have KA := hide CA
  have ST := hide (AmSt.start w na nb ao bo ka kb ca cb x y)
  clear CA
  have KW := hide CW; have KX := hide CX; have KY := hide CY; have KR := hide CR
  clear CW CX CY CR
  subst h1 h2
  have x0 := (unhide ST).1.c0; have x1 := (unhide ST).1.c1; have x2 := (unhide ST).1.c2; have y0 := (unhide ST).2.1.c0; have y1 := (unhide ST).2.1.c1; have y2 := (unhide ST).2.1.c2
  go_enter Tryz.func5, Tryz.ntmps5
  go_wp2_with fail
  refine (unhide KW _ (unhide ST).2.2).mono ?_
  rintro e w1 ⟨rfl, hb1⟩
  clear x0 x1 x2 y0 y1 y2
  replace ST := hide ((unhide ST).all hb1)
  clear hb1
  have x0 := (unhide ST).1.c0; have x1 := (unhide ST).1.c1; have x2 := (unhide ST).1.c2; have y0 := (unhide ST).2.1.c0; have y1 := (unhide ST).2.1.c1; have y2 := (unhide ST).2.1.c2
  go_wp2_with fail
  refine (unhide KX _ (unhide ST).2.2).mono ?_
  rintro e w2 ⟨rfl, hb1⟩
  clear x0 x1 x2 y0 y1 y2
  replace ST := hide ((unhide ST).all hb1)
  clear hb1
  have x0 := (unhide ST).1.c0; have x1 := (unhide ST).1.c1; have x2 := (unhide ST).1.c2; have y0 := (unhide ST).2.1.c0; have y1 := (unhide ST).2.1.c1; have y2 := (unhide ST).2.1.c2
  go_wp2_with fail
  refine (unhide KY _ (unhide ST).2.2).mono ?_
  rintro e w3 ⟨rfl, hb1⟩
  clear x0 x1 x2 y0 y1 y2
  replace ST := hide ((unhide ST).all hb1)
  clear hb1
  have x0 := (unhide ST).1.c0; have x1 := (unhide ST).1.c1; have x2 := (unhide ST).1.c2; have y0 := (unhide ST).2.1.c0; have y1 := (unhide ST).2.1.c1; have y2 := (unhide ST).2.1.c2
  go_wp2_with fail
  refine (unhide KR _ (unhide ST).2.2).mono ?_
  rintro e w4 ⟨rfl, hb1⟩
  clear x0 x1 x2 y0 y1 y2
  replace ST := hide ((unhide ST).all hb1)
  clear hb1
  have x0 := (unhide ST).1.c0; have x1 := (unhide ST).1.c1; have x2 := (unhide ST).1.c2; have y0 := (unhide ST).2.1.c0; have y1 := (unhide ST).2.1.c1; have y2 := (unhide ST).2.1.c2
  go_wp2_with fail
  refine (unhide KA _ (unhide ST).2.2).mono ?_
  rintro e w9 ⟨rfl, hb1⟩
  clear x0 x1 x2 y0 y1 y2
  replace ST := hide ((unhide ST).all hb1)
  clear hb1
  go_wp2
  go_ret
  exact ⟨rfl, (unhide ST).2.2⟩

theorem certifyWithins_walk (na nb : Bool) (ao bo : Option Addr) (ca cb : Nat) (A B : List Nat) (x y k : Int) (w : World) (hA : LimbsAt w ao ca A) (hB : LimbsAt w bo cb B) (la : A.length ≤ 35184372087808) (lb : B.length ≤ 35184372087808) (_bx : -9223372036854775808 ≤ x ∧ x ≤ 9223372036854775807) (_by : -9223372036854775808 ≤ y ∧ y ≤ 9223372036854775807) (bk : -9223372036854775808 ≤ k ∧ k ≤ 9223372036854775807) (hT : Tab w) :
    Calls Tryz.prog 5 #[.agg #[.bool na, .slice ao A.length ca, .int .i64 x], .agg #[.bool nb, .slice bo B.length cb, .int .i64 y], .int .i64 k] w fun e w' => e = .returned (.bool true) ∧ Below w.heap.size w w' := by
  have CA := fun w' (hb : Below w.heap.size w w') => awake11_any w' (hT.all hb)
  by_cases h60 : 60 < A.length ∨ (A.length ≤ 60 ∧ 60 < B.length)
  · exact certifyWithins_long na nb ao bo A.length B.length ca cb x y k w h60 CA
  have ha : A.length ≤ 60 := by omega
  have hb : B.length ≤ 60 := by omega
  have CW := fun w' (hb : Below w.heap.size w w') => cWithin_any na nb ao bo ca cb A B x y k w' (hA.below hb) (hB.below hb) (by omega) (by omega) bk (hT.all hb)
  have CX := fun w' (hb : Below w.heap.size w w') => dright_any na ao ca A x w' (hA.below hb) (by omega)
  have CY := fun w' (hb : Below w.heap.size w w') => dright_any nb bo cb B y w' (hB.below hb) (by omega)
  by_cases hK : wnK na nb A B x y k
  · obtain ⟨⟨r1, n1⟩, ⟨r2, n2⟩, k1, k2⟩ := id hK
    have CW' : ∀ w', Below w.heap.size w w' → Calls Tryz.prog 21 #[.agg #[.bool na, .slice ao A.length ca, .int .i64 x], .agg #[.bool nb, .slice bo B.length cb, .int .i64 y], .int .i64 k] w' fun e w'' => e = .returned (.tuple #[.bool (wnB (val A) (val B) x y (2 * k)), .int .i64 0]) ∧ Below w'.heap.size w' w'' := fun w' hb => (CW w' hb).mono fun e w'' h => by
      obtain ⟨h | h, h2⟩ := h
      · exact ⟨h.2, h2⟩
      · exact absurd hK h.1
    rw [r1] at CX
    rw [r2] at CY
    by_cases hy : y < -9000 ∨ (¬ y < -9000 ∧ 9000 < y)
    · exact certifyWithins_far na nb ao bo A.length B.length ca cb x y k w ha hb _ n1 n2 (by omega) (by omega) hy CA CW' CX CY
    · subst n1 n2
      exact certifyWithins_is false false ao bo A.length B.length ca cb x y k w ha hb _ rfl rfl (by omega) (by omega) (by omega) (by omega) CA CW' CX CY (fun w' hb' => rWithin_any ao bo ca cb A B x y k w' (hA.below hb') (hB.below hb') r1 r2 hb (by omega) ⟨k1, k2⟩)
  · have CW' : ∀ w', Below w.heap.size w w' → Calls Tryz.prog 21 #[.agg #[.bool na, .slice ao A.length ca, .int .i64 x], .agg #[.bool nb, .slice bo B.length cb, .int .i64 y], .int .i64 k] w' fun e w'' => e = .returned (.tuple #[.bool false, .int .i64 1]) ∧ Below w'.heap.size w' w'' := fun w' hb => (CW w' hb).mono fun e w'' h => by
      obtain ⟨h | h, h2⟩ := h
      · exact absurd h.1 hK
      · exact ⟨h.2, h2⟩
    cases r1 : drB na A x
    · rw [r1] at CX
      exact certifyWithins_x na nb ao bo A.length B.length ca cb x y k w ha hb CA CW' CX
    · rw [r1] at CX
      cases r2 : drB nb B y
      · rw [r2] at CY
        exact certifyWithins_y na nb ao bo A.length B.length ca cb x y k w ha hb CA CW' CX CY
      · rw [r2] at CY
        refine certifyWithins_no na nb ao bo A.length B.length ca cb x y k w ha hb ?_ CA CW' CX CY
        cases h1 : na
        · cases h2 : nb
          · right; right
            by_cases h3 : k < 0
            · exact .inl ⟨rfl, rfl, h3⟩
            · refine .inr ⟨rfl, rfl, h3, ?_⟩
              by_cases h4 : 200 < k
              · exact h4
              · exact absurd ⟨⟨r1, h1⟩, ⟨r2, h2⟩, by omega, by omega⟩ hK
          · exact .inr (.inl ⟨rfl, rfl⟩)
        · exact .inl rfl

end Go.Proofs.YtfnnbkclnflpfaaGreatDoor

/- A struct of a sign and limbs that came in, opened. -/
namespace Go.Proofs.YtfnnbkclnflpfaaGreatDoor
open Go.ChangeShapes Go.WideShapes Go.ChangeAt Go.RowKit Go.Joins

theorem Tryz.own : ownKnob Tryz.prog.godebug = none := by kernel_rfl
theorem Tryz.laidOut : laidOutB Tryz.prog = true := by kernel_rfl
theorem Tryz.cellsW : Tryz.prog.cellsOf 27 = 2 := by kernel_rfl
theorem Tryz.cellsU : Tryz.prog.cellsOf 70 = 1 := by kernel_rfl
theorem Tryz.bytesU : Tryz.prog.bytesOf 70 = 4 := by kernel_rfl

theorem bounds_of_u32 {x : Int} (h : (Lit.int .u32 x).wf = true) : 0 ≤ x ∧ x < 4294967296 := by
  simp [Lit.wf, IntKind.min, IntKind.max, IntKind.signed, IntKind.bits] at h
  omega

theorem limbs_of_ints {W : World} {a : Addr} {len cap : Nat} {zs : List Int} (hl : len ≤ cap) (hz : zs.length = cap) (hc : ∀ i, i < zs.length → W.cell? (a.add i) = some (.int .u32 (zs.getD i 0))) (hw : ∀ n ∈ zs, (Lit.int .u32 n).wf = true) :
    LimbsAt W (some a) cap ((zs.take len).map Int.toNat) ∧ ((zs.take len).map Int.toNat).length = len := by
  have hlen : ((zs.take len).map Int.toNat).length = len := by simp; omega
  refine ⟨⟨by omega, ?_, ?_⟩, hlen⟩
  · intro x hx
    obtain ⟨y, hy, rfl⟩ := List.mem_map.1 hx
    have := bounds_of_u32 (hw y (List.mem_of_mem_take hy))
    omega
  · rcases Nat.eq_zero_or_pos len with rfl | hp
    · left; simp
    · right
      obtain ⟨b, off, spot⟩ := a
      have h0 := hc 0 (by omega)
      have hspot : spot = none := by simpa [Addr.add] using World.cell?_spot h0
      subst hspot
      have hb : b < W.heap.size := by
        have := World.block_lt_of_cell? W _ h0
        simpa [Addr.add] using this
      refine ⟨b, off, rfl, hb, fun i hi => ?_⟩
      have h1 := hc i (by omega)
      have h2 : (0 : Int) ≤ zs[i]'(by omega) := (bounds_of_u32 (hw _ (List.getElem_mem _))).1
      have h3 : (⟨b, off, none⟩ : Addr).add i = ⟨b, off + i, none⟩ := by simp [Addr.add]
      rw [h3] at h1
      rw [h1]
      have e : ((zs.take len).map Int.toNat)[i]?.getD 0 = (zs[i]'(by omega)).toNat := by
        rw [List.getElem?_map, List.getElem?_take, if_pos (by omega), List.getElem?_eq_getElem (by omega)]; rfl
      rw [e, List.getD_eq_getElem?_getD, List.getElem?_eq_getElem (by omega)]
      simp only [Option.getD_some, Option.some.injEq, Value.int.injEq, true_and]
      omega

end Go.Proofs.YtfnnbkclnflpfaaGreatDoor

