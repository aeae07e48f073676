/- Part 17 of the texts. -/
import Derived.Test.YtnpogpoknbgodaaPart13
import Derived.Test.YtnpogpoknbgodaaPart14
import Derived.Test.YtnpogpoknbgodaaPart16
import Derived.Test.YtnpogpoknbgodaaPart04
import Derived.Test.YtnpogpoknbgodaaPart09
/- The law ExactSums, walked: where it has nothing to ask. -/
namespace Go.Proofs.Ytnpogpoknbgodaa
open Go.RowKit
attribute [local go_sem ↓] Go.wp_at_zero Go.wp_at_succ

set_option maxHeartbeats 4000000 in
theorem exactSums_away (ao : Option Addr) (cap : Nat) (M : List Rw) (u : Value) (w : World) (h : MatAt w ao cap M) (hs : SmallM M) (hno : ¬ (litB 4 M = true ∧ mChk M = 0 ∧ M.length ≠ 0 ∧ M.length ≤ 5)) :
    Calls Try.prog 4 #[.slice ao M.length cap, u] w fun e w' => e = .returned (.bool true) ∧ Below w.heap.size w w' := by
  have CL := hide (fun w' h' => light_any ao cap M 4 w' h' hs)
  have CC := hide (fun w' h' => refCheck_any ao cap M w' h' hs)
  have HM := hide h
  have hl := hs.1
  have hwl : width M ≤ 35184372088830 := hs.row 0
  by_cases hlit : litB 4 M = true
  rotate_left
  · have hlf : litB 4 M = false := by simpa using hlit
    rw [hlf] at CL
    clear h hs hlit hlf CC hno
    go_enter Try.func4, Try.ntmps4
    go_wp2_with fail
    refine (unhide CL _ (unhide HM)).mono ?_
    rintro e w1 ⟨rfl, hb1⟩
    have B1 := hide hb1
    clear hb1 CL HM
    go_wp2_with fail
    refine (awake3_any _).mono ?_
    rintro e w3 ⟨rfl, hb3⟩
    have B3 := hide ((unhide B1).trans (hb3.mono (unhide B1).size))
    clear hb3 B1
    go_wp2_with fail
    go_ret
    exact ⟨rfl, unhide B3⟩
  rw [hlit] at CL
  by_cases h0 : mChk M = 0
  rotate_left
  · generalize mChk M = ce at *
    have hne : (ce == 0) = false := by simp; exact h0
    have hne2 : (ce != 0) = true := by simp [bne, hne]
    clear h hs hlit hno
    go_enter Try.func4, Try.ntmps4
    go_wp2_with fail
    refine (unhide CL _ (unhide HM)).mono ?_
    rintro e w1 ⟨rfl, hb1⟩
    have B1 := hide hb1
    clear hb1 CL
    go_wp2_with fail
    refine (unhide CC _ ((unhide HM).below (unhide B1))).mono ?_
    rintro e w2 ⟨rfl, hb2⟩
    have B2 := hide ((unhide B1).trans (hb2.mono (unhide B1).size))
    clear hb2 B1 HM CC
    go_wp2_with fail
    refine (awake3_any _).mono ?_
    rintro e w3 ⟨rfl, hb3⟩
    have B3 := hide ((unhide B2).trans (hb3.mono (unhide B2).size))
    clear hb3 B2
    go_wp2_with fail
    go_ret
    exact ⟨rfl, unhide B3⟩
  rw [h0] at CC
  by_cases hz : M.length = 0
  · generalize M.length = ml at *
    subst hz
    clear h hs hlit hno h0
    go_enter Try.func4, Try.ntmps4
    go_wp2_with fail
    refine (unhide CL _ (unhide HM)).mono ?_
    rintro e w1 ⟨rfl, hb1⟩
    have B1 := hide hb1
    clear hb1 CL
    go_wp2_with fail
    refine (unhide CC _ ((unhide HM).below (unhide B1))).mono ?_
    rintro e w2 ⟨rfl, hb2⟩
    have B2 := hide ((unhide B1).trans (hb2.mono (unhide B1).size))
    clear hb2 B1 HM CC
    go_wp2_with fail
    refine (awake3_any _).mono ?_
    rintro e w3 ⟨rfl, hb3⟩
    have B3 := hide ((unhide B2).trans (hb3.mono (unhide B2).size))
    clear hb3 B2
    go_wp2_with fail
    go_ret
    exact ⟨rfl, unhide B3⟩
  have h5 : ¬ M.length ≤ 5 := fun h5 => hno ⟨hlit, h0, hz, h5⟩
  generalize hml : M.length = ml at *
  have hmI : ((ml : Int) == 0) = false := by simp; omega
  have h5I : (5 : Int) < (ml : Int) := by omega
  have h5D : decide ((5 : Int) < (ml : Int)) = true := decide_eq_true h5I
  have h5N : 5 < ml := by omega
  clear h hs hlit h0 hml hno hwl
  go_enter Try.func4, Try.ntmps4
  go_wp2_with fail
  refine (unhide CL _ (unhide HM)).mono ?_
  rintro e w1 ⟨rfl, hb1⟩
  have B1 := hide hb1
  clear hb1 CL
  go_wp2_with fail
  refine (unhide CC _ ((unhide HM).below (unhide B1))).mono ?_
  rintro e w2 ⟨rfl, hb2⟩
  have B2 := hide ((unhide B1).trans (hb2.mono (unhide B1).size))
  clear hb2 B1 HM CC
  go_wp2_with fail
  refine (awake3_any _).mono ?_
  rintro e w3 ⟨rfl, hb3⟩
  have B3 := hide ((unhide B2).trans (hb3.mono (unhide B2).size))
  clear hb3 B2
  go_wp2_with fail
  go_ret
  exact ⟨rfl, unhide B3⟩
end Go.Proofs.Ytnpogpoknbgodaa

/- A row that is a sum of the others, put below them: what Check and Rank say. No walk. -/
namespace Go.Proofs.Ytnpogpoknbgodaa

theorem rwAt_put (M : List Rw) (S : Rw) {i : Nat} (hi : i < M.length) : rwAt (M ++ [S]) i = rwAt M i := by
  unfold rwAt; rw [List.getElem?_append_left hi]
theorem rwAt_put_last (M : List Rw) (S : Rw) : rwAt (M ++ [S]) M.length = S := by
  unfold rwAt; rw [List.getElem?_append_right (Nat.le_refl _), Nat.sub_self]; rfl

/-- One good row more. -/
theorem chk_put {M : List Rw} {S : Rw} (h : mChk M = 0) (h0 : M.length ≠ 0) (h5 : M.length ≤ 5) (hl : S.R.length = width M) (hx : ∀ x ∈ S.R, rightN x = true ∧ shortN x = true) : mChk (M ++ [S]) = 0 ∧ width (M ++ [S]) = width M := by
  obtain ⟨h1, h2, h3⟩ := mChk_zero h
  unfold shapeB at h1
  simp only [Bool.and_eq_true, decide_eq_true_eq, List.all_eq_true] at h1
  have hw : width (M ++ [S]) = width M := by unfold width; rw [rwAt_put M S (by omega)]
  refine ⟨?_, hw⟩
  have hs : shapeB (M ++ [S]) = true := by
    unfold shapeB
    simp only [Bool.and_eq_true, decide_eq_true_eq, List.all_eq_true, hw]
    refine ⟨⟨by simp; omega, h1.1.2⟩, fun r hr => ?_⟩
    rcases List.mem_append.1 hr with hr | hr
    · exact h1.2 r hr
    · simp at hr; rw [hr]; exact hl
  have hp : ∀ p : Nm → Bool, (M.all (fun r => r.R.all p)) = true → (∀ x ∈ S.R, p x = true) → ((M ++ [S]).all (fun r => r.R.all p)) = true := by
    intro p hM hS
    rw [List.all_append, hM]
    simpa using hS
  unfold mChk
  rw [hs, hp _ h2 (fun x hx' => (hx x hx').1), hp _ h3 (fun x hx' => (hx x hx').2)]
  rfl

/-- The rank stays. -/
theorem rank_put {M : List Rw} {S : Rw} {n r : Nat} (t : Nat → Int) (hr : IsRank r (valM M) M.length n) (hS : ∀ c, c < n → sval (nmAt S.R c).neg (nmAt S.R c).L = sumRows (valM M) t M.length c) : IsRank r (valM (M ++ [S])) (M.length + 1) n := by
  refine rank_ext (a := fun i => if i < M.length then valM M i else sumRows (valM M) t M.length) (fun i hi c hc => ?_) (rank_sum t (fun i hi => if_pos hi) (if_neg (Nat.lt_irrefl _)) hr)
  by_cases e : i < M.length
  · rw [if_pos e]
    unfold valM entry
    rw [rwAt_put M S e]
  · obtain rfl : i = M.length := by omega
    rw [if_neg e, ← hS c hc]
    unfold valM entry
    rw [rwAt_put_last]
end Go.Proofs.Ytnpogpoknbgodaa

/- A row of numbers in a block of the call's own, number by number overwritten (for ExactSums). -/
namespace Go.Proofs.Ytnpogpoknbgodaa
open Go.RowKit

theorem numCells_set : ∀ (S : List Nm) (k : Nat) (x : Nm), numCells (S.set k x) = ((numCells S).set (k * 2) (.bool x.neg)).set (k * 2 + 1) (.slice x.ao x.L.length x.cap)
  | [], k, x => by simp [numCells]
  | y :: S, 0, x => rfl
  | y :: S, k + 1, x => by
    have ih := numCells_set S k x
    have e : ∀ z T, numCells (z :: T) = .bool z.neg :: .slice z.ao z.L.length z.cap :: numCells T := fun _ _ => rfl
    rw [List.set_cons_succ, e, e, ih, show (k + 1) * 2 = k * 2 + 1 + 1 by omega]
    rfl

theorem numCells_isBS (S : List Nm) : ∀ (j : Nat) (v : Value), (numCells S)[j]? = some v → isBS v = true := by
  intro j v h
  have hm := List.mem_of_getElem? h
  unfold numCells at hm
  obtain ⟨x, _, hx⟩ := List.mem_flatMap.1 hm
  simp at hx
  rcases hx with rfl | rfl <;> rfl

/-- Block g holds just the numbers S. -/
def SumAt (w : World) (g : Nat) (S : List Nm) : Prop := w.heap[g]? = some (.cells (numCells S).toArray 35 (0, 0))

theorem SumAt.free {w : World} {g : Nat} {S : List Nm} (h : SumAt w g S) (j : Nat) : w.frozen? ⟨g, j, none⟩ = false := frozen_of_row w g j _ _ h
theorem SumAt.lt {w : World} {g : Nat} {S : List Nm} (h : SumAt w g S) : g < w.heap.size := (Array.getElem?_eq_some_iff.1 h).1
theorem SumAt.below {w w' : World} {g B : Nat} {S : List Nm} (h : SumAt w g S) (hb : Below B w w') (hg : g < B) : SumAt w' g S := (hb.block g hg).trans h
theorem SumAt.cells {w : World} {g : Nat} {S : List Nm} (h : SumAt w g S) {k : Nat} (hk : k < S.length) :
    w.cell? ⟨g, k * 2, none⟩ = some (.bool (nmAt S k).neg) ∧ w.cell? ⟨g, k * 2 + 1, none⟩ = some (.slice (nmAt S k).ao (nmAt S k).L.length (nmAt S k).cap) := by
  rw [cell_of_row w g _ _ _ _ h, cell_of_row w g _ _ _ _ h]
  simpa using numCells_get S k hk
theorem SumAt.set {w : World} {g : Nat} {S : List Nm} (h : SumAt w g S) (k : Nat) (x : Nm) : SumAt ((w.setCell ⟨g, k * 2, none⟩ (.bool x.neg)).setCell ⟨g, k * 2 + 1, none⟩ (.slice x.ao x.L.length x.cap)) g (S.set k x) := by
  unfold SumAt
  rw [heap_setCell_same _ g _ _ _ _ (heap_setCell_same w g _ _ _ _ h), numCells_set]
  simp
/-- Numbers stay: their limbs are no bools and no slices. -/
theorem LimbsAt.sum {w : World} {ao : Option Addr} {cap g : Nat} {L : List Nat} {S : List Nm} (h : LimbsAt w ao cap L) (ha : SumAt w g S) (i j : Nat) (u u' : Value) : LimbsAt ((w.setCell ⟨g, i, none⟩ u).setCell ⟨g, j, none⟩ u') ao cap L := by
  refine ⟨h.1, h.2.1, ?_⟩
  rcases h.2.2 with h0 | ⟨c, off, h1, h2, h3⟩
  · exact .inl h0
  · by_cases hL : L = []
    · exact .inl hL
    have hc : c ≠ g := by
      rintro rfl
      have h4 := h3 0 (List.length_pos_iff.2 hL)
      rw [cell_of_row w c _ _ _ _ ha] at h4
      have := numCells_isBS S (off + 0) _ (by simpa using h4)
      simp [isBS] at this
    refine .inr ⟨c, off, h1, by simpa [World.setCell] using h2, fun i' hi' => ?_⟩
    rw [cell_setCell_other _ _ _ _ (show c ≠ g from hc), cell_setCell_other _ _ _ _ (show c ≠ g from hc)]
    exact h3 i' hi'

/-- The number x, as it lies there, is z. -/
def IsNm (w : World) (x : Nm) (z : Int) : Prop := LimbsAt w x.ao x.cap x.L ∧ Canon x.L ∧ x.neg = decide (z < 0) ∧ val x.L = z.natAbs ∧ x.L.length ≤ 35184372088832
theorem IsNm.num {w : World} {x : Nm} {z : Int} (h : IsNm w x z) : IsNum 0 w x.v z := by
  refine ⟨x.neg, x.ao, x.cap, x.L, rfl, h.1, ?_, h.2.1, h.2.2.1, h.2.2.2.1, h.2.2.2.2⟩
  rcases h.1.2.2 with e | ⟨b, off, e, _⟩
  · exact .inl e
  · exact .inr ⟨b, off, e, Nat.zero_le _⟩
theorem IsNum.nm {B : Nat} {w : World} {v : Value} {z : Int} (h : IsNum B w v z) : ∃ x : Nm, v = .agg #[.bool x.neg, .slice x.ao x.L.length x.cap] ∧ IsNm w x z := by
  obtain ⟨neg, ao, cap, L, rfl, h2, _, h4, h5, h6, h7⟩ := h
  exact ⟨⟨neg, ao, cap, L⟩, rfl, h2, h4, h5, h6, h7⟩
theorem IsNm.below {w w' : World} {x : Nm} {z : Int} (h : IsNm w x z) (hb : Below w.heap.size w w') : IsNm w' x z := ⟨h.1.below hb, h.2⟩
theorem IsNm.sum {w : World} {x : Nm} {z : Int} {g : Nat} {S : List Nm} (h : IsNm w x z) (ha : SumAt w g S) (i j : Nat) (u u' : Value) : IsNm ((w.setCell ⟨g, i, none⟩ u).setCell ⟨g, j, none⟩ u') x z := ⟨h.1.sum ha i j u u', h.2⟩

/-- The numbers there are f's. -/
def SumI (w w' : World) (g n : Nat) (f : Nat → Int) (S : List Nm) : Prop :=
  S.length = n ∧ SumAt w' g S ∧ (∀ k, k < n → IsNm w' (nmAt S k) (f k)) ∧ w.heap.size ≤ g ∧ Below w.heap.size w w'
theorem SumI.below {w w' w2 : World} {g n : Nat} {f : Nat → Int} {S : List Nm} (h : SumI w w' g n f S) (hb : Below w'.heap.size w' w2) : SumI w w2 g n f S :=
  ⟨h.1, h.2.1.below hb h.2.1.lt, fun k hk => (h.2.2.1 k hk).below hb, h.2.2.2.1, h.2.2.2.2.trans (hb.mono h.2.2.2.2.size)⟩
theorem SumI.set {w w' : World} {g n : Nat} {f : Nat → Int} {S : List Nm} (h : SumI w w' g n f S) {k : Nat} (x : Nm) {z : Int} (hx : IsNm w' x z) :
    SumI w ((w'.setCell ⟨g, k * 2, none⟩ (.bool x.neg)).setCell ⟨g, k * 2 + 1, none⟩ (.slice x.ao x.L.length x.cap)) g n (fun q => if q = k then z else f q) (S.set k x) := by
  obtain ⟨h1, h2, h3, h4, h5⟩ := h
  refine ⟨by simpa using h1, h2.set k x, fun q hq => ?_, h4, (h5.setCell (p := ⟨g, k * 2, none⟩) h4 _).setCell (p := ⟨g, k * 2 + 1, none⟩) h4 _⟩
  show IsNm _ _ (if q = k then z else f q)
  by_cases e : q = k
  · subst e
    have e2 : nmAt (S.set q x) q = x := by unfold nmAt; rw [List.getElem?_set_self (by omega)]; rfl
    rw [if_pos rfl, e2]
    exact hx.sum h2 _ _ _ _
  · have e2 : nmAt (S.set k x) q = nmAt S q := by unfold nmAt; rw [List.getElem?_set_ne (fun h => e h.symm)]
    rw [if_neg e, e2]
    exact (h3 q hq).sum h2 _ _ _ _

/-- Out of the law on 'make'. -/
theorem SumAt.made {w : World} {base g n : Nat} (h : w.ownsRow base 35 2 (.slice (some ⟨g, 0, none⟩) n n) n (madeCells (Value.agg #[.bool false, .slice none 0 0]).cells (n * 2)).toList) : SumAt w g (List.replicate n Nm.nil) := by
  rcases h.2 with ⟨h', _⟩ | ⟨g', cap', cur, h', _, hg, _, _, hs, htake⟩
  · simp at h'
  · simp only [Value.slice.injEq, Option.some.injEq, Addr.mk.injEq, and_true, true_and] at h'
    obtain ⟨rfl, rfl⟩ := h'
    unfold SumAt
    rw [hg]
    rw [List.take_of_length_le (by simp [hs])] at htake
    have : cur = (numCells (List.replicate n Nm.nil)).toArray := by
      apply Array.toList_inj.1
      rw [htake]
      have hl : (numCells (List.replicate n Nm.nil)).length = n * 2 := by rw [length_numCells]; simp
      refine List.ext_getElem? fun i => ?_
      rcases Nat.lt_or_ge i (n * 2) with hi | hi
      · have hk : i / 2 < (List.replicate n Nm.nil).length := by simp; omega
        obtain ⟨q1, q2⟩ := numCells_get (List.replicate n Nm.nil) (i / 2) hk
        have e : nmAt (List.replicate n Nm.nil) (i / 2) = Nm.nil := by unfold nmAt; rw [List.getElem?_replicate]; split <;> rfl
        rw [e] at q1 q2
        rcases Nat.mod_two_eq_zero_or_one i with hm | hm
        · rw [show i / 2 * 2 = i by omega] at q1
          show _ = (numCells (List.replicate n Nm.nil))[i]?
          rw [q1]
          simp [madeCells, Value.cells, hm, hi, Nm.nil]
        · rw [show i / 2 * 2 + 1 = i by omega] at q2
          show _ = (numCells (List.replicate n Nm.nil))[i]?
          rw [q2]
          simp [madeCells, Value.cells, hm, hi, Nm.nil]
      · rw [List.getElem?_eq_none (by simpa [madeCells] using hi), List.getElem?_eq_none (by simpa [hl] using hi)]
    rw [this]
theorem SumI.made {w w' : World} {g n : Nat} (h : SumAt w' g (List.replicate n Nm.nil)) (hg : w.heap.size ≤ g) (hb : Below w.heap.size w w') : SumI w w' g n (fun _ => 0) (List.replicate n Nm.nil) := by
  refine ⟨by simp, h, fun k hk => ?_, hg, hb⟩
  have e : nmAt (List.replicate n Nm.nil) k = Nm.nil := by unfold nmAt; rw [List.getElem?_replicate]; split <;> rfl
  rw [e]
  exact ⟨⟨by simp [Nm.nil], by simp [Nm.nil], .inl rfl⟩, by simp [Nm.nil, Canon], by simp [Nm.nil], by simp [Nm.nil, val], by simp [Nm.nil]⟩
/-- As a row. -/
theorem SumI.nums {w w' : World} {g n : Nat} {f : Nat → Int} {S : List Nm} (h : SumI w w' g n f S) : NumsAt w' (some ⟨g, 0, none⟩) n S := by
  refine ⟨by rw [h.1]; exact Nat.le_refl _, fun x hx => ?_, .inr ⟨g, 0, rfl, h.2.1.lt, fun k hk => ?_⟩⟩
  · obtain ⟨k, hk, rfl⟩ := List.getElem_of_mem hx
    have h2 := (h.2.2.1 k (by rw [← h.1]; exact hk)).1
    have e1 : nmAt S k = S[k] := by unfold nmAt; rw [List.getElem?_eq_getElem hk]; rfl
    rw [e1] at h2
    exact h2
  · rw [Nat.zero_add]; exact h.2.1.cells hk

end Go.Proofs.Ytnpogpoknbgodaa

/- The sums' bounds and what follows of them (for ExactSums). No walk. -/
namespace Go.Proofs.Ytnpogpoknbgodaa
open Go.RowKit

/-- Numbers of at most 4 limbs. -/
theorem lit_bound {M : List Rw} {w : World} {ao : Option Addr} {cap n : Nat} (hM : MatAt w ao cap M) (hl : litB 4 M = true) (hg : GoodM M n) {i c : Nat} (hi : i < M.length) (hc : c < n) : (valM M i c).natAbs ≤ 4294967296 ^ 4 := by
  have hmem : nmAt (rwAt M i).R c ∈ (rwAt M i).R := nmAt_mem (by rw [hg.2.2.1 i hi]; exact hc)
  have h1 := List.all_eq_true.1 (List.all_eq_true.1 hl _ (rwAt_mem hi)) _ hmem
  have h2 : rightN (nmAt (rwAt M i).R c) = true := (hg.2.2.2 i c hi hc).1
  unfold litN at h1
  rw [h2, Bool.and_true, Bool.not_eq_true', decide_eq_false_iff_not] at h1
  have hL := (hM.nums hi).2.1 _ hmem
  unfold valM entry
  rw [natAbs_sval]
  exact Nat.le_of_lt (Nat.lt_of_lt_of_le (val_lt _ hL.2.1) (Nat.pow_le_pow_right (by decide) (by omega)))

theorem sumRows_bound (a : Nat → Nat → Int) (t : Nat → Int) (A T c : Nat) : ∀ k, (∀ i, i < k → (a i c).natAbs ≤ A ∧ (t i).natAbs ≤ T) → (sumRows a t k c).natAbs ≤ k * (T * A)
  | 0, _ => by simp [sumRows]
  | k + 1, h => by
    have ih := sumRows_bound a t A T c k (fun i hi => h i (by omega))
    obtain ⟨h1, h2⟩ := h k (by omega)
    have e : sumRows a t (k + 1) c = sumRows a t k c + t k * a k c := by show 1 * sumRows a t k c + t k * a k c = _; rw [Int.one_mul]
    have hp : (t k * a k c).natAbs ≤ T * A := by rw [Int.natAbs_mul]; exact Nat.mul_le_mul h2 h1
    rw [e, Nat.succ_mul]
    generalize T * A = q at *
    omega

/-- Factors from i on that are 0 add nothing. -/
theorem sumRows_trim (a : Nat → Nat → Int) (t : Nat → Int) (i : Nat) : ∀ m, i ≤ m → sumRows a (fun q => if q < i then t q else 0) m = sumRows a t i
  | 0, h => by
    obtain rfl : i = 0 := by omega
    rfl
  | m + 1, h => by
    rcases Nat.lt_or_ge m i with h1 | h1
    · obtain rfl : i = m + 1 := by omega
      have : ∀ k, k ≤ m + 1 → sumRows a (fun q => if q < m + 1 then t q else 0) k = sumRows a t k := by
        intro k
        induction k with
        | zero => intro _; rfl
        | succ k ih =>
          intro hk
          funext c
          show 1 * sumRows a _ k c + (if k < m + 1 then t k else 0) * a k c = 1 * sumRows a t k c + t k * a k c
          rw [ih (by omega), if_pos (by omega)]
      exact this _ (Nat.le_refl _)
    · funext c
      show 1 * sumRows a _ m c + (if m < i then t m else 0) * a m c = _
      rw [sumRows_trim a t i m h1, if_neg (by omega)]
      omega

theorem small_sum (k : Nat) (hk : k ≤ 5) : k * (2147483648 * 4294967296 ^ 4) < 4294967296 ^ 6 := by
  have : k * (2147483648 * 4294967296 ^ 4) ≤ 5 * (2147483648 * 4294967296 ^ 4) := Nat.mul_le_mul hk (Nat.le_refl _)
  exact Nat.lt_of_le_of_lt this (by decide)
theorem six_TOP {z : Int} (h : z.natAbs < 4294967296 ^ 6) : z.natAbs < TOP := Nat.lt_of_lt_of_le h (Nat.pow_le_pow_right (by decide) (by decide))

/-- A number below 2^192 has at most 6 limbs: right and short. -/
theorem IsNm.good {w : World} {x : Nm} {z : Int} (h : IsNm w x z) (hz : z.natAbs < 4294967296 ^ 6) : rightN x = true ∧ shortN x = true ∧ sval x.neg x.L = z ∧ x.L.length ≤ 6 := by
  obtain ⟨neg, ao, cap, L⟩ := x
  obtain ⟨h1, h3, h4, h5, h6⟩ := h
  simp only at h1 h3 h4 h5 h6 ⊢
  have hl6 : L.length ≤ 6 := (length_le_iff L h1.2.1 h3 6).2 (by rw [h5]; exact hz)
  have hl : L.length ≤ 512 := by omega
  show rightB neg L = true ∧ decide (L.length ≤ 80) = true ∧ sval neg L = z ∧ L.length ≤ 6
  refine ⟨?_, decide_eq_true (by omega), ?_, hl6⟩
  · have e0 : L.length = 0 → neg = false := fun e => by
      have : L = [] := List.length_eq_zero_iff.1 e
      subst this
      rw [h4]; simp [val] at h5; simp; omega
    have e1 : L.length = 0 ∨ L[L.length - 1]?.getD 0 ≠ 0 := by
      rcases h3 with h | h
      · left; rw [h]; rfl
      · exact .inr h
    simp only [rightB, Bool.and_eq_true, decide_eq_true_eq, Bool.not_eq_true', Bool.and_eq_false_iff, decide_eq_false_iff_not, Bool.or_eq_true]
    refine ⟨⟨hl, ?_⟩, e1⟩
    by_cases e : L.length = 0
    · exact .inr (e0 e)
    · exact .inl e
  · unfold sval
    rw [h4]
    by_cases hx0 : z < 0
    · simp [hx0]; omega
    · simp [hx0]; omega
end Go.Proofs.Ytnpogpoknbgodaa

/- One row more, of sums: what follows (for ExactSums). No walk. -/
namespace Go.Proofs.Ytnpogpoknbgodaa
open Go.RowKit

theorem OwnRows.copied {w w2 : World} {v : Value} {M : List Rw} (ho : w2.ownsRow w.heap.size 32 1 v M.length (M.map Rw.v)) (hM : ∀ r ∈ M, NumsAt w r.ao r.cap r.R) (hb : Below w.heap.size w w2) : OwnRows w.heap.size w2 v M := by
  refine ⟨ho, fun r hr => ⟨(hM r hr).below hb, ?_⟩⟩
  cases hv : v.ownBlock with
  | none => exact AvR.none (hM r hr)
  | some k => exact AvR.new (hM r hr) (ho.lt k hv).1

theorem sums_put {M : List Rw} {S : List Nm} {w W : World} {g n i : Nat} {tf : Nat → Int} (hS : SumI w W g n (sumRows (valM M) tf i) S) (h0 : mChk M = 0) (hz : M.length ≠ 0) (h5 : M.length ≤ 5) (hn : width M = n) (hs : SmallM M) (hi : i ≤ M.length) (h6 : n ≤ 6) (hb : ∀ c, c < n → (sumRows (valM M) tf i c).natAbs < 4294967296 ^ 6) :
    SmallM (M ++ [(⟨some ⟨g, 0, none⟩, n, S⟩ : Rw)]) ∧ mChk (M ++ [(⟨some ⟨g, 0, none⟩, n, S⟩ : Rw)]) = 0 ∧ ∀ k k', IsRank k (valM M) M.length n → IsRank k' (valM (M ++ [(⟨some ⟨g, 0, none⟩, n, S⟩ : Rw)])) (M ++ [(⟨some ⟨g, 0, none⟩, n, S⟩ : Rw)]).length (width (M ++ [(⟨some ⟨g, 0, none⟩, n, S⟩ : Rw)])) → k = k' := by
  have hx : ∀ x ∈ S, rightN x = true ∧ shortN x = true ∧ x.L.length ≤ 6 := fun x hx => by
    obtain ⟨k, hk, rfl⟩ := List.getElem_of_mem hx
    have e : nmAt S k = S[k] := by unfold nmAt; rw [List.getElem?_eq_getElem hk]; rfl
    have hkn : k < n := by have := hS.1; omega
    have := (hS.2.2.1 k hkn).good (hb k hkn)
    rw [e] at this
    exact ⟨this.1, this.2.1, this.2.2.2⟩
  obtain ⟨c1, c2⟩ := chk_put (S := ⟨some ⟨g, 0, none⟩, n, S⟩) h0 hz h5 (by show S.length = _; rw [hS.1, hn]) (fun x h => ⟨(hx x h).1, (hx x h).2.1⟩)
  refine ⟨⟨by simp; omega, fun r hr => ?_⟩, c1, fun k k' h1 h2 => ?_⟩
  · rcases List.mem_append.1 hr with hr | hr
    · exact hs.2 r hr
    · simp at hr
      subst hr
      exact ⟨by show S.length ≤ _; rw [hS.1]; omega, fun x h => by have := (hx x h).2.2; omega⟩
  · have h3 := rank_put (S := ⟨some ⟨g, 0, none⟩, n, S⟩) (fun q => if q < i then tf q else 0) h1 (fun c hc => by
      rw [sumRows_trim _ _ _ _ hi]
      exact ((hS.2.2.1 c hc).good (hb c hc)).2.2.1)
    rw [c2, hn, List.length_append] at h2
    exact h3.unique h2

end Go.Proofs.Ytnpogpoknbgodaa

