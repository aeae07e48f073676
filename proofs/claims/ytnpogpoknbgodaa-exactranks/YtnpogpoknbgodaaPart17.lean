/- Part 17 of the texts. -/
import Derived.Test.YtnpogpoknbgodaaPart16
import Derived.Test.YtnpogpoknbgodaaPart09
import Derived.Test.YtnpogpoknbgodaaPart06
import Derived.Test.YtnpogpoknbgodaaPart10
import Derived.Test.YtnpogpoknbgodaaPart15
/- The law ExactDets, walked. -/
namespace Go.Proofs.Ytnpogpoknbgodaa
open Go.RowKit
attribute [local go_sem ↓] Go.wp_at_zero Go.wp_at_succ

theorem natI_first (n : Nat) : natI (firstI n) = List.range n := by
  unfold natI firstI
  rw [List.map_map]
  refine (List.map_congr_left (g := id) (fun a _ => by simp)).trans (List.map_id _)
theorem first_in (n : Nat) : InI n (firstI n) := fun x hx => by
  obtain ⟨i, hi, rfl⟩ := List.mem_map.1 hx
  have := List.mem_range.1 hi
  omega
theorem dm_full (M : List Rw) (h : M.length ≤ 6) : dm M (2 ^ M.length - 1) = detD ((natI (firstI M.length)).map (valM M)) (natI (firstI M.length)) := by
  unfold dm sz
  rw [(set_full M.length h).1, natI_first, List.length_range]

end Go.Proofs.Ytnpogpoknbgodaa

/- What the program says of rows exchanged and of rows turned. -/
namespace Go.Proofs.Ytnpogpoknbgodaa

/-- Minors look at their rows' and columns' numbers only. -/
theorem minorD_ext {a b : Nat → Nat → Int} : ∀ (I C : List Nat), (∀ i ∈ I, ∀ c ∈ C, a i c = b i c) → minorD a I C = minorD b I C
  | [], _, _ => rfl
  | i :: I, C, h => by
    show exD (a i) C (detD (I.map a)) = exD (b i) C (detD (I.map b))
    rw [exD_row (a i) (b i) C _ (fun c hc => h i (by simp) c hc)]
    refine exD_congr _ _ _ _ (fun l hl _ => ?_)
    exact minorD_ext I l (fun k hk c hc => h k (by simp [hk]) c (hl.mem hc))

theorem van_ext {k m n : Nat} {a b : Nat → Nat → Int} (h : ∀ i, i < m → ∀ c, c < n → a i c = b i c) (hv : Van k a m n) : Van k b m n := by
  intro I C hI hC lI lC
  rw [← minorD_ext I C (fun i hi c hc => h i (hI.2 i hi) c (hC.2 c hc))]
  exact hv I C hI hC lI lC

theorem rank_ext {r m n : Nat} {a b : Nat → Nat → Int} (h : ∀ i, i < m → ∀ c, c < n → a i c = b i c) (hr : IsRank r a m n) : IsRank r b m n :=
  ⟨fun hv => hr.1 (van_ext (fun i hi c hc => (h i hi c hc).symm) hv), van_ext h hr.2⟩

/-- Rows made of good rows' numbers are good. -/
theorem chk_of {M N : List Rw} {n : Nat} (h : mChk M = 0) (h6 : N.length ≤ 6) (hn : n ≤ 6) (hr : ∀ j, j < N.length → (rwAt N j).R.length = n ∧ ∀ x ∈ (rwAt N j).R, ∃ i, i < M.length ∧ x ∈ (rwAt M i).R) : mChk N = 0 := by
  obtain ⟨_, h2, h3⟩ := mChk_zero h
  have hw : ∀ j, j < N.length → width N = n := fun j hj => (hr 0 (by omega)).1
  have hs : shapeB N = true := shape_true h6 (fun j hj => ⟨by rw [(hr j hj).1]; exact hn, by rw [(hr j hj).1, hw j hj]⟩)
  have hx : ∀ p : Nm → Bool, (M.all (fun r => r.R.all p)) = true → (N.all (fun r => r.R.all p)) = true := by
    intro p hp
    refine List.all_eq_true.2 (fun r hrN => List.all_eq_true.2 (fun x hxr => ?_))
    obtain ⟨j, hj, rfl⟩ := List.getElem_of_mem hrN
    have e : N[j] = rwAt N j := by unfold rwAt; rw [List.getElem?_eq_getElem hj]; rfl
    rw [e] at hxr
    obtain ⟨i, hi, hm⟩ := (hr j hj).2 x hxr
    exact List.all_eq_true.1 (List.all_eq_true.1 hp _ (rwAt_mem hi)) _ hm
  unfold mChk
  rw [hs, hx _ h2, hx _ h3]
  rfl

/-- A square that Check lets through: its determinant. -/
theorem detV_of {M : List Rw} (h : mChk M = 0) (hw : width M = M.length) (h6 : M.length ≤ 6) : detE M = 0 ∧ detV M = minorD (valM M) (List.range M.length) (List.range M.length) := by
  have hE : detE M = 0 := by unfold detE; rw [if_pos h, if_pos hw]
  refine ⟨hE, ?_⟩
  unfold detV minorD
  rw [if_pos hE, dm_full M h6, natI_first]

/-- Rows i and j exchanged. -/
def swapR (M : List Rw) (i j : Nat) : List Rw := (M.set i (rwAt M j)).set j (rwAt M i)
theorem swapR_len (M : List Rw) (i j : Nat) : (swapR M i j).length = M.length := by simp [swapR]
theorem swapR_at {M : List Rw} {i j k : Nat} (hi : i < M.length) (hj : j < M.length) (hk : k < M.length) : rwAt (swapR M i j) k = if k = j then rwAt M i else if k = i then rwAt M j else rwAt M k := by
  unfold swapR
  conv => lhs; unfold rwAt
  by_cases e : k = j
  · subst e
    rw [if_pos rfl, List.getElem?_set_self (by simpa using hk)]; rfl
  · rw [if_neg e, List.getElem?_set_ne (fun h => e h.symm)]
    by_cases e2 : k = i
    · subst e2
      rw [if_pos rfl, List.getElem?_set_self hk]; rfl
    · rw [if_neg e2, List.getElem?_set_ne (fun h => e2 h.symm)]; rfl

theorem swap_says {M : List Rw} {i j n : Nat} (h : mChk M = 0) (hn : M.length = n) (hw : width M = n) (hg : ∀ k, k < n → (rwAt M k).R.length = n) (h6 : n ≤ 6) (hi : i < n) (hj : j < n) :
    detE (swapR M i j) = 0 ∧ detV (swapR M i j) = if i = j then detV M else - detV M := by
  have hl : (swapR M i j).length = n := by rw [swapR_len, hn]
  have hat : ∀ k, k < n → ∃ q, q < n ∧ rwAt (swapR M i j) k = rwAt M q := by
    intro k hk
    rw [swapR_at (by omega) (by omega) (by omega)]
    by_cases e : k = j
    · rw [if_pos e]; exact ⟨i, hi, rfl⟩
    · rw [if_neg e]
      by_cases e2 : k = i
      · rw [if_pos e2]; exact ⟨j, hj, rfl⟩
      · rw [if_neg e2]; exact ⟨k, hk, rfl⟩
  have hc : mChk (swapR M i j) = 0 := chk_of (n := n) h (by omega) h6 (fun k hk => by
    obtain ⟨q, hq, e⟩ := hat k (by omega)
    rw [e]
    exact ⟨hg q hq, fun x hx => ⟨q, by omega, hx⟩⟩)
  have hwN : width (swapR M i j) = (swapR M i j).length := by
    obtain ⟨q, hq, e⟩ := hat 0 (by omega)
    unfold width
    rw [e, hl]; exact hg q hq
  obtain ⟨d1, d2⟩ := detV_of hc hwN (by omega)
  obtain ⟨_, d4⟩ := detV_of h (by omega) (by omega)
  refine ⟨d1, ?_⟩
  rw [d2, d4, hl, hn]
  unfold minorD
  have hv : ∀ {A B : List Rw} {p q : Nat}, rwAt A p = rwAt B q → valM A p = valM B q := by
    intro A B p q e
    funext c
    unfold valM entry
    rw [e]
  by_cases hij : i = j
  · rw [if_pos hij]
    subst hij
    congr 1
    refine List.map_congr_left (fun k hk => hv ?_)
    have hk := List.mem_range.1 hk
    rw [swapR_at (by omega) (by omega) (by omega)]
    by_cases e : k = i
    · subst e; rw [if_pos rfl]
    · rw [if_neg e, if_neg e]
  · rw [if_neg hij]
    have hL : ∀ k, k < n → ((List.range n).map (valM M))[k]? = some (valM M k) := fun k hk => by
      rw [List.getElem?_map, List.getElem?_range hk]; rfl
    rw [← detD_set hij (hL i hi) (hL j hj)]
    congr 1
    apply List.ext_getElem?
    intro k
    rcases Nat.lt_or_ge k n with hk | hk
    · rw [List.getElem?_map, List.getElem?_range hk]
      have e0 := swapR_at (M := M) (i := i) (j := j) (k := k) (by omega) (by omega) (by omega)
      by_cases e : k = j
      · subst e
        rw [if_pos rfl] at e0
        rw [List.getElem?_set_self (by simpa using hk)]
        show some _ = _
        rw [hv e0]
      · rw [if_neg e] at e0
        rw [List.getElem?_set_ne (fun h => e h.symm)]
        by_cases e2 : k = i
        · subst e2
          rw [if_pos rfl] at e0
          rw [List.getElem?_set_self (by simpa using hk)]
          show some _ = _
          rw [hv e0]
        · rw [if_neg e2] at e0
          rw [List.getElem?_set_ne (fun h => e2 h.symm), hL k hk]
          show some _ = _
          rw [hv e0]
    · rw [List.getElem?_eq_none (by simpa using hk), List.getElem?_eq_none (by simpa using hk)]

/-- The columns as rows: what they say. -/
theorem turn_val {M N : List Rw} {n : Nat} (hT : TurnIs N M n) {i c : Nat} (hi : i < n) (hc : c < M.length) : valM N i c = valM M c i := by
  have e : entry N i c = entry M c i := by
    conv => lhs; unfold entry nmAt
    rw [hT.2 i hi]
    unfold colOf
    rw [List.getElem?_map, List.getElem?_range hc]; rfl
  unfold valM
  rw [e]

theorem turn_chk {M N : List Rw} {n : Nat} (hT : TurnIs N M n) (h : mChk M = 0) (hg : ∀ k, k < M.length → (rwAt M k).R.length = n) (hm6 : M.length ≤ 6) (hn6 : n ≤ 6) : mChk N = 0 ∧ (0 < n → width N = M.length) := by
  have hl := hT.1
  refine ⟨chk_of (n := M.length) h (by omega) hm6 (fun j hj => ?_), fun h0 => ?_⟩
  · rw [hT.2 j (by omega)]
    refine ⟨colOf_len _ _ _, fun x hx => ?_⟩
    unfold colOf at hx
    obtain ⟨c, hc, rfl⟩ := List.mem_map.1 hx
    have hc := List.mem_range.1 hc
    exact ⟨c, hc, nmAt_mem (by rw [hg c hc]; omega)⟩
  · unfold width
    rw [hT.2 0 h0]
    exact colOf_len _ _ _

theorem turn_det {M N : List Rw} {n : Nat} (hT : TurnIs N M n) (h : mChk M = 0) (hn : M.length = n) (hw : width M = n) (hg : ∀ k, k < n → (rwAt M k).R.length = n) (h6 : n ≤ 6) (h0 : 0 < n) : detE N = 0 ∧ detV N = detV M := by
  subst hn
  obtain ⟨t1, t2⟩ := turn_chk hT h hg h6 h6
  have hl := hT.1
  obtain ⟨d1, d2⟩ := detV_of t1 (by rw [t2 h0, hl]) (by omega)
  obtain ⟨_, d4⟩ := detV_of h hw h6
  refine ⟨d1, ?_⟩
  rw [d2, d4, hl, minorD_ext (b := fun j i => valM M i j) _ _ (fun i hi c hc => turn_val hT (List.mem_range.1 hi) (List.mem_range.1 hc))]
  exact (detD_turn (valM M) M.length (List.range M.length) (List.range M.length) (by simp) (by simp)).symm

theorem turn_rank {M N : List Rw} {n r s : Nat} (hT : TurnIs N M n) (hr : IsRank r (valM M) M.length n) (hs : IsRank s (valM N) n M.length) : r = s :=
  (rank_ext (fun _ hi _ hc => (turn_val hT hi hc).symm) (rank_turn hr)).unique hs

theorem full_det {M : List Rw} {n r : Nat} (h : mChk M = 0) (hn : M.length = n) (hw : width M = n) (h6 : n ≤ 6) (hr : IsRank r (valM M) M.length (width M)) : r = n ↔ detV M ≠ 0 := by
  subst hn
  rw [hw] at hr
  rw [(detV_of h hw h6).2]
  exact rank_full hr
end Go.Proofs.Ytnpogpoknbgodaa

/- A row that is a sum of the others, put below them: what Check and Rank say. No walk. -/
namespace Go.Proofs.Ytnpogpoknbgodaa

theorem rwAt_put (M : List Rw) (S : Rw) {i : Nat} (hi : i < M.length) : rwAt (M ++ [S]) i = rwAt M i := by
  unfold rwAt; rw [List.getElem?_append_left hi]
theorem rwAt_put_last (M : List Rw) (S : Rw) : rwAt (M ++ [S]) M.length = S := by
  unfold rwAt; rw [List.getElem?_append_right (Nat.le_refl _), Nat.sub_self]; rfl

/-- One good row more. -/
theorem chk_put {M : List Rw} {S : Rw} (h : mChk M = 0) (h0 : M.length ≠ 0) (h5 : M.length ≤ 5) (hl : S.R.length = width M) (hx : ∀ x ∈ S.R, rightN x = true ∧ shortN x = true) : mChk (M ++ [S]) = 0 ∧ width (M ++ [S]) = width M := by
  obtain ⟨h1, h2, h3⟩ := mChk_zero h
  unfold shapeB at h1
  simp only [Bool.and_eq_true, decide_eq_true_eq, List.all_eq_true] at h1
  have hw : width (M ++ [S]) = width M := by unfold width; rw [rwAt_put M S (by omega)]
  refine ⟨?_, hw⟩
  have hs : shapeB (M ++ [S]) = true := by
    unfold shapeB
    simp only [Bool.and_eq_true, decide_eq_true_eq, List.all_eq_true, hw]
    refine ⟨⟨by simp; omega, h1.1.2⟩, fun r hr => ?_⟩
    rcases List.mem_append.1 hr with hr | hr
    · exact h1.2 r hr
    · simp at hr; rw [hr]; exact hl
  have hp : ∀ p : Nm → Bool, (M.all (fun r => r.R.all p)) = true → (∀ x ∈ S.R, p x = true) → ((M ++ [S]).all (fun r => r.R.all p)) = true := by
    intro p hM hS
    rw [List.all_append, hM]
    simpa using hS
  unfold mChk
  rw [hs, hp _ h2 (fun x hx' => (hx x hx').1), hp _ h3 (fun x hx' => (hx x hx').2)]
  rfl

/-- The rank stays. -/
theorem rank_put {M : List Rw} {S : Rw} {n r : Nat} (t : Nat → Int) (hr : IsRank r (valM M) M.length n) (hS : ∀ c, c < n → sval (nmAt S.R c).neg (nmAt S.R c).L = sumRows (valM M) t M.length c) : IsRank r (valM (M ++ [S])) (M.length + 1) n := by
  refine rank_ext (a := fun i => if i < M.length then valM M i else sumRows (valM M) t M.length) (fun i hi c hc => ?_) (rank_sum t (fun i hi => if_pos hi) (if_neg (Nat.lt_irrefl _)) hr)
  by_cases e : i < M.length
  · rw [if_pos e]
    unfold valM entry
    rw [rwAt_put M S e]
  · obtain rfl : i = M.length := by omega
    rw [if_neg e, ← hS c hc]
    unfold valM entry
    rw [rwAt_put_last]
end Go.Proofs.Ytnpogpoknbgodaa

/- The sums' bounds and what follows of them (for ExactSums). No walk. -/
namespace Go.Proofs.Ytnpogpoknbgodaa
open Go.RowKit

/-- Numbers of at most 4 limbs. -/
theorem lit_bound {M : List Rw} {w : World} {ao : Option Addr} {cap n : Nat} (hM : MatAt w ao cap M) (hl : litB 4 M = true) (hg : GoodM M n) {i c : Nat} (hi : i < M.length) (hc : c < n) : (valM M i c).natAbs ≤ 4294967296 ^ 4 := by
  have hmem : nmAt (rwAt M i).R c ∈ (rwAt M i).R := nmAt_mem (by rw [hg.2.2.1 i hi]; exact hc)
  have h1 := List.all_eq_true.1 (List.all_eq_true.1 hl _ (rwAt_mem hi)) _ hmem
  have h2 : rightN (nmAt (rwAt M i).R c) = true := (hg.2.2.2 i c hi hc).1
  unfold litN at h1
  rw [h2, Bool.and_true, Bool.not_eq_true', decide_eq_false_iff_not] at h1
  have hL := (hM.nums hi).2.1 _ hmem
  unfold valM entry
  rw [natAbs_sval]
  exact Nat.le_of_lt (Nat.lt_of_lt_of_le (val_lt _ hL.2.1) (Nat.pow_le_pow_right (by decide) (by omega)))

theorem sumRows_bound (a : Nat → Nat → Int) (t : Nat → Int) (A T c : Nat) : ∀ k, (∀ i, i < k → (a i c).natAbs ≤ A ∧ (t i).natAbs ≤ T) → (sumRows a t k c).natAbs ≤ k * (T * A)
  | 0, _ => by simp [sumRows]
  | k + 1, h => by
    have ih := sumRows_bound a t A T c k (fun i hi => h i (by omega))
    obtain ⟨h1, h2⟩ := h k (by omega)
    have e : sumRows a t (k + 1) c = sumRows a t k c + t k * a k c := by show 1 * sumRows a t k c + t k * a k c = _; rw [Int.one_mul]
    have hp : (t k * a k c).natAbs ≤ T * A := by rw [Int.natAbs_mul]; exact Nat.mul_le_mul h2 h1
    rw [e, Nat.succ_mul]
    generalize T * A = q at *
    omega

/-- Factors from i on that are 0 add nothing. -/
theorem sumRows_trim (a : Nat → Nat → Int) (t : Nat → Int) (i : Nat) : ∀ m, i ≤ m → sumRows a (fun q => if q < i then t q else 0) m = sumRows a t i
  | 0, h => by
    obtain rfl : i = 0 := by omega
    rfl
  | m + 1, h => by
    rcases Nat.lt_or_ge m i with h1 | h1
    · obtain rfl : i = m + 1 := by omega
      have : ∀ k, k ≤ m + 1 → sumRows a (fun q => if q < m + 1 then t q else 0) k = sumRows a t k := by
        intro k
        induction k with
        | zero => intro _; rfl
        | succ k ih =>
          intro hk
          funext c
          show 1 * sumRows a _ k c + (if k < m + 1 then t k else 0) * a k c = 1 * sumRows a t k c + t k * a k c
          rw [ih (by omega), if_pos (by omega)]
      exact this _ (Nat.le_refl _)
    · funext c
      show 1 * sumRows a _ m c + (if m < i then t m else 0) * a m c = _
      rw [sumRows_trim a t i m h1, if_neg (by omega)]
      omega

theorem small_sum (k : Nat) (hk : k ≤ 5) : k * (2147483648 * 4294967296 ^ 4) < 4294967296 ^ 6 := by
  have : k * (2147483648 * 4294967296 ^ 4) ≤ 5 * (2147483648 * 4294967296 ^ 4) := Nat.mul_le_mul hk (Nat.le_refl _)
  exact Nat.lt_of_le_of_lt this (by decide)
theorem six_TOP {z : Int} (h : z.natAbs < 4294967296 ^ 6) : z.natAbs < TOP := Nat.lt_of_lt_of_le h (Nat.pow_le_pow_right (by decide) (by decide))

/-- A number below 2^192 has at most 6 limbs: right and short. -/
theorem IsNm.good {w : World} {x : Nm} {z : Int} (h : IsNm w x z) (hz : z.natAbs < 4294967296 ^ 6) : rightN x = true ∧ shortN x = true ∧ sval x.neg x.L = z ∧ x.L.length ≤ 6 := by
  obtain ⟨neg, ao, cap, L⟩ := x
  obtain ⟨h1, h3, h4, h5, h6⟩ := h
  simp only at h1 h3 h4 h5 h6 ⊢
  have hl6 : L.length ≤ 6 := (length_le_iff L h1.2.1 h3 6).2 (by rw [h5]; exact hz)
  have hl : L.length ≤ 512 := by omega
  show rightB neg L = true ∧ decide (L.length ≤ 80) = true ∧ sval neg L = z ∧ L.length ≤ 6
  refine ⟨?_, decide_eq_true (by omega), ?_, hl6⟩
  · have e0 : L.length = 0 → neg = false := fun e => by
      have : L = [] := List.length_eq_zero_iff.1 e
      subst this
      rw [h4]; simp [val] at h5; simp; omega
    have e1 : L.length = 0 ∨ L[L.length - 1]?.getD 0 ≠ 0 := by
      rcases h3 with h | h
      · left; rw [h]; rfl
      · exact .inr h
    simp only [rightB, Bool.and_eq_true, decide_eq_true_eq, Bool.not_eq_true', Bool.and_eq_false_iff, decide_eq_false_iff_not, Bool.or_eq_true]
    refine ⟨⟨hl, ?_⟩, e1⟩
    by_cases e : L.length = 0
    · exact .inr (e0 e)
    · exact .inl e
  · unfold sval
    rw [h4]
    by_cases hx0 : z < 0
    · simp [hx0]; omega
    · simp [hx0]; omega
end Go.Proofs.Ytnpogpoknbgodaa

/- Rows in a block of the call's own, row by row overwritten, and what they are (for the reference's Rank). -/
namespace Go.Proofs.Ytnpogpoknbgodaa
open Go.RowKit

/-- How many digits the numbers have behind c columns. -/
def KK : Nat → Nat
  | 0 => 129
  | c + 1 => 2 * KK c + 1
theorem KK_le : ∀ c : Fin 6, KK c.val ≤ 4159 := by decide

/-- Block g holds the rows N, of the numbers a. -/
def NxAt (w W : World) (g cp m n K : Nat) (N : List Rw) (a : Nat → Nat → Int) : Prop :=
  N.length = m ∧ w.heap.size ≤ g ∧ m ≤ cp ∧ (∃ cur, W.heap[g]? = some (.cells cur 32 (0, 0)) ∧ ∀ i, i < m → cur[i]? = some (rwAt N i).v) ∧
  (∀ i, i < m → NumsAt W (rwAt N i).ao (rwAt N i).cap (rwAt N i).R ∧ AvR (some g) (rwAt N i) ∧ (rwAt N i).R.length = n ∧ ∀ c, c < n → IsNm W (nmAt (rwAt N i).R c) (a i c) ∧ (a i c).natAbs < 2 ^ K) ∧ Below w.heap.size w W

theorem NxAt.below {w W W' : World} {g cp m n K : Nat} {N : List Rw} {a : Nat → Nat → Int} (h : NxAt w W g cp m n K N a) (hb : Below W.heap.size W W') : NxAt w W' g cp m n K N a := by
  obtain ⟨h1, h2, h3, ⟨cur, h4, h5⟩, h6, h7⟩ := h
  have hg : g < W.heap.size := (Array.getElem?_eq_some_iff.1 h4).1
  exact ⟨h1, h2, h3, ⟨cur, (hb.block g hg).trans h4, h5⟩, fun i hi => ⟨(h6 i hi).1.below hb, (h6 i hi).2.1, (h6 i hi).2.2.1, fun c hc => ⟨((h6 i hi).2.2.2 c hc).1.below hb, ((h6 i hi).2.2.2 c hc).2⟩⟩, h7.trans (hb.mono h7.size)⟩

theorem NxAt.congr {w W : World} {g cp m n K K' : Nat} {N : List Rw} {a a' : Nat → Nat → Int} (h : NxAt w W g cp m n K N a) (he : ∀ i, i < m → a i = a' i) (hK : K ≤ K') : NxAt w W g cp m n K' N a' := by
  obtain ⟨h1, h2, h3, h4, h6, h7⟩ := h
  exact ⟨h1, h2, h3, h4, fun i hi => ⟨(h6 i hi).1, (h6 i hi).2.1, (h6 i hi).2.2.1, fun c hc => by
    rw [← he i hi]
    exact ⟨((h6 i hi).2.2.2 c hc).1, Nat.lt_of_lt_of_le ((h6 i hi).2.2.2 c hc).2 (Nat.pow_le_pow_right (by decide) hK)⟩⟩, h7⟩

theorem NxAt.cell {w W : World} {g cp m n K : Nat} {N : List Rw} {a : Nat → Nat → Int} (h : NxAt w W g cp m n K N a) {i : Nat} (hi : i < m) : W.cell? ⟨g, i, none⟩ = some (.slice (rwAt N i).ao (rwAt N i).R.length (rwAt N i).cap) := by
  obtain ⟨h1, h2, h3, ⟨cur, h4, h5⟩, h6, h7⟩ := h
  rw [cell_of_row W g i _ _ _ h4, h5 i hi]; rfl
theorem NxAt.free {w W : World} {g cp m n K : Nat} {N : List Rw} {a : Nat → Nat → Int} (h : NxAt w W g cp m n K N a) (i : Nat) : W.frozen? ⟨g, i, none⟩ = false := by
  obtain ⟨h1, h2, h3, ⟨cur, h4, h5⟩, h6, h7⟩ := h
  exact frozen_of_row W g i _ _ h4
theorem NxAt.lt {w W : World} {g cp m n K : Nat} {N : List Rw} {a : Nat → Nat → Int} (h : NxAt w W g cp m n K N a) : g < W.heap.size := by
  obtain ⟨h1, h2, h3, ⟨cur, h4, h5⟩, h6, h7⟩ := h
  exact (Array.getElem?_eq_some_iff.1 h4).1

theorem NxAt.mat {w W : World} {g cp m n K : Nat} {N : List Rw} {a : Nat → Nat → Int} (h : NxAt w W g cp m n K N a) : MatAt W (some ⟨g, 0, none⟩) cp N := by
  refine ⟨by have := h.1; have := h.2.2.1; omega, fun r hr => ?_, .inr ⟨g, 0, rfl, h.lt, fun i hi => ?_⟩⟩
  · obtain ⟨j, hj, rfl⟩ := List.getElem_of_mem hr
    have e : rwAt N j = N[j] := by unfold rwAt; rw [List.getElem?_eq_getElem hj]; rfl
    have := (h.2.2.2.2.1 j (by rw [← h.1]; exact hj)).1
    rwa [e] at this
  · rw [Nat.zero_add]; exact h.cell (by rw [← h.1]; exact hi)

theorem LimbsAt.apart {w : World} {ao : Option Addr} {cap g : Nat} {L : List Nat} (h : LimbsAt w ao cap L) (ha : L = [] ∨ ∃ b off, ao = some ⟨b, off, none⟩ ∧ some b ≠ some g) (i : Nat) (u : Value) : LimbsAt (w.setCell ⟨g, i, none⟩ u) ao cap L := by
  refine ⟨h.1, h.2.1, ?_⟩
  rcases h.2.2 with e | ⟨b, off, e, h2, h3⟩
  · exact .inl e
  · rcases ha with e' | ⟨b', off', e', hne⟩
    · exact .inl e'
    · rw [e] at e'
      simp only [Option.some.injEq, Addr.mk.injEq, and_true] at e'
      obtain ⟨rfl, rfl⟩ := e'
      have hbg : b ≠ g := fun e => hne (by rw [e])
      refine .inr ⟨b, off, e, by simpa [World.setCell] using h2, fun k hk => ?_⟩
      rw [cell_setCell_other _ _ _ _ (show b ≠ g from hbg)]
      exact h3 k hk

theorem NumsAt.apart {w : World} {r : Rw} {g : Nat} (h : NumsAt w r.ao r.cap r.R) (ha : AvR (some g) r) (i : Nat) (u : Value) : NumsAt (w.setCell ⟨g, i, none⟩ u) r.ao r.cap r.R := by
  refine ⟨h.1, fun x hx => (h.2.1 x hx).apart (ha.2 x hx) i u, ?_⟩
  rcases h.2.2 with e | ⟨b, off, e, h2, h3⟩
  · exact .inl e
  · rcases ha.1 with e' | ⟨b', off', e', hne⟩
    · exact .inl e'
    · rw [e] at e'
      simp only [Option.some.injEq, Addr.mk.injEq, and_true] at e'
      obtain ⟨rfl, rfl⟩ := e'
      have hbg : b ≠ g := fun e => hne (by rw [e])
      refine .inr ⟨b, off, e, by simpa [World.setCell] using h2, fun k hk => ?_⟩
      rw [cell_setCell_other _ _ _ _ (show b ≠ g from hbg), cell_setCell_other _ _ _ _ (show b ≠ g from hbg)]
      exact h3 k hk

theorem NxAt.store {w W : World} {g cp m n K : Nat} {N : List Rw} {a : Nat → Nat → Int} (h : NxAt w W g cp m n K N a) {i : Nat} (hi : i < m) (r : Rw) (f : Nat → Int) (hr : NumsAt W r.ao r.cap r.R) (ha : AvR (some g) r) (hl : r.R.length = n) (hv : ∀ c, c < n → IsNm W (nmAt r.R c) (f c) ∧ (f c).natAbs < 2 ^ K) :
    NxAt w (W.setCell ⟨g, i, none⟩ (.slice r.ao r.R.length r.cap)) g cp m n K (N.set i r) (fun j => if j = i then f else a j) := by
  obtain ⟨h1, h2, h3, ⟨cur, h4, h5⟩, h6, h7⟩ := h
  refine ⟨by simpa using h1, h2, h3, ⟨_, heap_setCell_same W g i _ _ _ h4, fun j hj => ?_⟩, fun j hj => ?_, h7.setCell (p := ⟨g, i, none⟩) h2 _⟩
  · by_cases e : j = i
    · subst e
      have hjc : j < cur.size := by have := h5 j hj; exact (Array.getElem?_eq_some_iff.1 this).1
      have e2 : rwAt (N.set j r) j = r := by unfold rwAt; rw [List.getElem?_set_self (by omega)]; rfl
      rw [e2]
      simp [hjc, Rw.v]
    · have e2 : rwAt (N.set i r) j = rwAt N j := by unfold rwAt; rw [List.getElem?_set_ne (fun h => e h.symm)]
      rw [e2]
      rw [Array.getElem?_setIfInBounds_ne (fun h => e h.symm)]
      exact h5 j hj
  · show _ ∧ _ ∧ _ ∧ ∀ c, c < n → IsNm _ _ ((if j = i then f else a j) c) ∧ ((if j = i then f else a j) c).natAbs < _
    by_cases e : j = i
    · subst e
      have e2 : rwAt (N.set j r) j = r := by unfold rwAt; rw [List.getElem?_set_self (by omega)]; rfl
      rw [e2, if_pos rfl]
      exact ⟨hr.apart ha _ _, ha, hl, fun c hc => ⟨⟨(hv c hc).1.1.apart (ha.2 _ (nmAt_mem (by omega))) _ _, (hv c hc).1.2⟩, (hv c hc).2⟩⟩
    · have e2 : rwAt (N.set i r) j = rwAt N j := by unfold rwAt; rw [List.getElem?_set_ne (fun h => e h.symm)]
      rw [e2, if_neg e]
      obtain ⟨q1, q2, q3, q4⟩ := h6 j hj
      exact ⟨q1.apart q2 _ _, q2, q3, fun c hc => ⟨⟨(q4 c hc).1.1.apart (q2.2 _ (nmAt_mem (by omega))) _ _, (q4 c hc).1.2⟩, (q4 c hc).2⟩⟩

/-- A copy, by append. -/
theorem NxAt.copied {w W W2 : World} {v : Value} {m n K : Nat} {N : List Rw} {a : Nat → Nat → Int} (hm : 0 < m) (hl : N.length = m) (hb : Below w.heap.size w W) (hN : ∀ i, i < m → NumsAt W (rwAt N i).ao (rwAt N i).cap (rwAt N i).R ∧ (rwAt N i).R.length = n ∧ ∀ c, c < n → IsNm W (nmAt (rwAt N i).R c) (a i c) ∧ (a i c).natAbs < 2 ^ K)
    (ho : W2.ownsRow W.heap.size 32 1 v (0 + m) ([] ++ N.map Rw.v)) (hb2 : Below W.heap.size W W2) :
    ∃ g cp, v = .slice (some ⟨g, 0, none⟩) m cp ∧ NxAt w W2 g cp m n K N a ∧ W.heap.size ≤ g := by
  rcases ho.2 with ⟨_, hz⟩ | ⟨g, cp, cur, hv, hg, hh, hc, hm', hs, ht⟩
  · omega
  · refine ⟨g, cp, by rw [hv, Nat.zero_add], ⟨hl, Nat.le_trans hb.size hg, by omega, ⟨cur, hh, fun i hi => ?_⟩, fun i hi => ?_, hb.trans (hb2.mono hb.size)⟩, hg⟩
    · have q1 : (N.map Rw.v)[i]? = some (rwAt N i).v := by
        rw [List.getElem?_map]
        unfold rwAt
        rw [List.getElem?_eq_getElem (by omega)]; rfl
      rw [List.nil_append] at ht
      rw [← ht, List.getElem?_take, if_pos (by omega)] at q1
      simpa using q1
    · obtain ⟨q1, q2, q3⟩ := hN i hi
      exact ⟨q1.below hb2, AvR.new q1 hg, q2, fun c hc => ⟨(q3 c hc).1.below hb2, (q3 c hc).2⟩⟩

end Go.Proofs.Ytnpogpoknbgodaa

