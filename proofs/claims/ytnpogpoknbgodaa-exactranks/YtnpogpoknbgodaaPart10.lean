/- Part 10 of the texts. -/
import Derived.Test.YtnpogpoknbgodaaPart07
import Derived.Test.YtnpogpoknbgodaaPart09
import Derived.Test.YtnpogpoknbgodaaPart06
import Derived.OwnWalk
import Derived.Test.YtnpogpoknbgodaaPart04
/- A row of numbers in a block of the call's own, number by number overwritten (for ExactSums). -/
namespace Go.Proofs.Ytnpogpoknbgodaa
open Go.RowKit

theorem numCells_set : ∀ (S : List Nm) (k : Nat) (x : Nm), numCells (S.set k x) = ((numCells S).set (k * 2) (.bool x.neg)).set (k * 2 + 1) (.slice x.ao x.L.length x.cap)
  | [], k, x => by simp [numCells]
  | y :: S, 0, x => rfl
  | y :: S, k + 1, x => by
    have ih := numCells_set S k x
    have e : ∀ z T, numCells (z :: T) = .bool z.neg :: .slice z.ao z.L.length z.cap :: numCells T := fun _ _ => rfl
    rw [List.set_cons_succ, e, e, ih, show (k + 1) * 2 = k * 2 + 1 + 1 by omega]
    rfl

theorem numCells_isBS (S : List Nm) : ∀ (j : Nat) (v : Value), (numCells S)[j]? = some v → isBS v = true := by
  intro j v h
  have hm := List.mem_of_getElem? h
  unfold numCells at hm
  obtain ⟨x, _, hx⟩ := List.mem_flatMap.1 hm
  simp at hx
  rcases hx with rfl | rfl <;> rfl

/-- Block g holds just the numbers S. -/
def SumAt (w : World) (g : Nat) (S : List Nm) : Prop := w.heap[g]? = some (.cells (numCells S).toArray 35 (0, 0))

theorem SumAt.free {w : World} {g : Nat} {S : List Nm} (h : SumAt w g S) (j : Nat) : w.frozen? ⟨g, j, none⟩ = false := frozen_of_row w g j _ _ h
theorem SumAt.lt {w : World} {g : Nat} {S : List Nm} (h : SumAt w g S) : g < w.heap.size := (Array.getElem?_eq_some_iff.1 h).1
theorem SumAt.below {w w' : World} {g B : Nat} {S : List Nm} (h : SumAt w g S) (hb : Below B w w') (hg : g < B) : SumAt w' g S := (hb.block g hg).trans h
theorem SumAt.cells {w : World} {g : Nat} {S : List Nm} (h : SumAt w g S) {k : Nat} (hk : k < S.length) :
    w.cell? ⟨g, k * 2, none⟩ = some (.bool (nmAt S k).neg) ∧ w.cell? ⟨g, k * 2 + 1, none⟩ = some (.slice (nmAt S k).ao (nmAt S k).L.length (nmAt S k).cap) := by
  rw [cell_of_row w g _ _ _ _ h, cell_of_row w g _ _ _ _ h]
  simpa using numCells_get S k hk
theorem SumAt.set {w : World} {g : Nat} {S : List Nm} (h : SumAt w g S) (k : Nat) (x : Nm) : SumAt ((w.setCell ⟨g, k * 2, none⟩ (.bool x.neg)).setCell ⟨g, k * 2 + 1, none⟩ (.slice x.ao x.L.length x.cap)) g (S.set k x) := by
  unfold SumAt
  rw [heap_setCell_same _ g _ _ _ _ (heap_setCell_same w g _ _ _ _ h), numCells_set]
  simp
/-- Numbers stay: their limbs are no bools and no slices. -/
theorem LimbsAt.sum {w : World} {ao : Option Addr} {cap g : Nat} {L : List Nat} {S : List Nm} (h : LimbsAt w ao cap L) (ha : SumAt w g S) (i j : Nat) (u u' : Value) : LimbsAt ((w.setCell ⟨g, i, none⟩ u).setCell ⟨g, j, none⟩ u') ao cap L := by
  refine ⟨h.1, h.2.1, ?_⟩
  rcases h.2.2 with h0 | ⟨c, off, h1, h2, h3⟩
  · exact .inl h0
  · by_cases hL : L = []
    · exact .inl hL
    have hc : c ≠ g := by
      rintro rfl
      have h4 := h3 0 (List.length_pos_iff.2 hL)
      rw [cell_of_row w c _ _ _ _ ha] at h4
      have := numCells_isBS S (off + 0) _ (by simpa using h4)
      simp [isBS] at this
    refine .inr ⟨c, off, h1, by simpa [World.setCell] using h2, fun i' hi' => ?_⟩
    rw [cell_setCell_other _ _ _ _ (show c ≠ g from hc), cell_setCell_other _ _ _ _ (show c ≠ g from hc)]
    exact h3 i' hi'

/-- The number x, as it lies there, is z. -/
def IsNm (w : World) (x : Nm) (z : Int) : Prop := LimbsAt w x.ao x.cap x.L ∧ Canon x.L ∧ x.neg = decide (z < 0) ∧ val x.L = z.natAbs ∧ x.L.length ≤ 35184372088832
theorem IsNm.num {w : World} {x : Nm} {z : Int} (h : IsNm w x z) : IsNum 0 w x.v z := by
  refine ⟨x.neg, x.ao, x.cap, x.L, rfl, h.1, ?_, h.2.1, h.2.2.1, h.2.2.2.1, h.2.2.2.2⟩
  rcases h.1.2.2 with e | ⟨b, off, e, _⟩
  · exact .inl e
  · exact .inr ⟨b, off, e, Nat.zero_le _⟩
theorem IsNum.nm {B : Nat} {w : World} {v : Value} {z : Int} (h : IsNum B w v z) : ∃ x : Nm, v = .agg #[.bool x.neg, .slice x.ao x.L.length x.cap] ∧ IsNm w x z := by
  obtain ⟨neg, ao, cap, L, rfl, h2, _, h4, h5, h6, h7⟩ := h
  exact ⟨⟨neg, ao, cap, L⟩, rfl, h2, h4, h5, h6, h7⟩
theorem IsNm.below {w w' : World} {x : Nm} {z : Int} (h : IsNm w x z) (hb : Below w.heap.size w w') : IsNm w' x z := ⟨h.1.below hb, h.2⟩
theorem IsNm.sum {w : World} {x : Nm} {z : Int} {g : Nat} {S : List Nm} (h : IsNm w x z) (ha : SumAt w g S) (i j : Nat) (u u' : Value) : IsNm ((w.setCell ⟨g, i, none⟩ u).setCell ⟨g, j, none⟩ u') x z := ⟨h.1.sum ha i j u u', h.2⟩

/-- The numbers there are f's. -/
def SumI (w w' : World) (g n : Nat) (f : Nat → Int) (S : List Nm) : Prop :=
  S.length = n ∧ SumAt w' g S ∧ (∀ k, k < n → IsNm w' (nmAt S k) (f k)) ∧ w.heap.size ≤ g ∧ Below w.heap.size w w'
theorem SumI.below {w w' w2 : World} {g n : Nat} {f : Nat → Int} {S : List Nm} (h : SumI w w' g n f S) (hb : Below w'.heap.size w' w2) : SumI w w2 g n f S :=
  ⟨h.1, h.2.1.below hb h.2.1.lt, fun k hk => (h.2.2.1 k hk).below hb, h.2.2.2.1, h.2.2.2.2.trans (hb.mono h.2.2.2.2.size)⟩
theorem SumI.set {w w' : World} {g n : Nat} {f : Nat → Int} {S : List Nm} (h : SumI w w' g n f S) {k : Nat} (x : Nm) {z : Int} (hx : IsNm w' x z) :
    SumI w ((w'.setCell ⟨g, k * 2, none⟩ (.bool x.neg)).setCell ⟨g, k * 2 + 1, none⟩ (.slice x.ao x.L.length x.cap)) g n (fun q => if q = k then z else f q) (S.set k x) := by
  obtain ⟨h1, h2, h3, h4, h5⟩ := h
  refine ⟨by simpa using h1, h2.set k x, fun q hq => ?_, h4, (h5.setCell (p := ⟨g, k * 2, none⟩) h4 _).setCell (p := ⟨g, k * 2 + 1, none⟩) h4 _⟩
  show IsNm _ _ (if q = k then z else f q)
  by_cases e : q = k
  · subst e
    have e2 : nmAt (S.set q x) q = x := by unfold nmAt; rw [List.getElem?_set_self (by omega)]; rfl
    rw [if_pos rfl, e2]
    exact hx.sum h2 _ _ _ _
  · have e2 : nmAt (S.set k x) q = nmAt S q := by unfold nmAt; rw [List.getElem?_set_ne (fun h => e h.symm)]
    rw [if_neg e, e2]
    exact (h3 q hq).sum h2 _ _ _ _

/-- Out of the law on 'make'. -/
theorem SumAt.made {w : World} {base g n : Nat} (h : w.ownsRow base 35 2 (.slice (some ⟨g, 0, none⟩) n n) n (madeCells (Value.agg #[.bool false, .slice none 0 0]).cells (n * 2)).toList) : SumAt w g (List.replicate n Nm.nil) := by
  rcases h.2 with ⟨h', _⟩ | ⟨g', cap', cur, h', _, hg, _, _, hs, htake⟩
  · simp at h'
  · simp only [Value.slice.injEq, Option.some.injEq, Addr.mk.injEq, and_true, true_and] at h'
    obtain ⟨rfl, rfl⟩ := h'
    unfold SumAt
    rw [hg]
    rw [List.take_of_length_le (by simp [hs])] at htake
    have : cur = (numCells (List.replicate n Nm.nil)).toArray := by
      apply Array.toList_inj.1
      rw [htake]
      have hl : (numCells (List.replicate n Nm.nil)).length = n * 2 := by rw [length_numCells]; simp
      refine List.ext_getElem? fun i => ?_
      rcases Nat.lt_or_ge i (n * 2) with hi | hi
      · have hk : i / 2 < (List.replicate n Nm.nil).length := by simp; omega
        obtain ⟨q1, q2⟩ := numCells_get (List.replicate n Nm.nil) (i / 2) hk
        have e : nmAt (List.replicate n Nm.nil) (i / 2) = Nm.nil := by unfold nmAt; rw [List.getElem?_replicate]; split <;> rfl
        rw [e] at q1 q2
        rcases Nat.mod_two_eq_zero_or_one i with hm | hm
        · rw [show i / 2 * 2 = i by omega] at q1
          show _ = (numCells (List.replicate n Nm.nil))[i]?
          rw [q1]
          simp [madeCells, Value.cells, hm, hi, Nm.nil]
        · rw [show i / 2 * 2 + 1 = i by omega] at q2
          show _ = (numCells (List.replicate n Nm.nil))[i]?
          rw [q2]
          simp [madeCells, Value.cells, hm, hi, Nm.nil]
      · rw [List.getElem?_eq_none (by simpa [madeCells] using hi), List.getElem?_eq_none (by simpa [hl] using hi)]
    rw [this]
theorem SumI.made {w w' : World} {g n : Nat} (h : SumAt w' g (List.replicate n Nm.nil)) (hg : w.heap.size ≤ g) (hb : Below w.heap.size w w') : SumI w w' g n (fun _ => 0) (List.replicate n Nm.nil) := by
  refine ⟨by simp, h, fun k hk => ?_, hg, hb⟩
  have e : nmAt (List.replicate n Nm.nil) k = Nm.nil := by unfold nmAt; rw [List.getElem?_replicate]; split <;> rfl
  rw [e]
  exact ⟨⟨by simp [Nm.nil], by simp [Nm.nil], .inl rfl⟩, by simp [Nm.nil, Canon], by simp [Nm.nil], by simp [Nm.nil, val], by simp [Nm.nil]⟩
/-- As a row. -/
theorem SumI.nums {w w' : World} {g n : Nat} {f : Nat → Int} {S : List Nm} (h : SumI w w' g n f S) : NumsAt w' (some ⟨g, 0, none⟩) n S := by
  refine ⟨by rw [h.1]; exact Nat.le_refl _, fun x hx => ?_, .inr ⟨g, 0, rfl, h.2.1.lt, fun k hk => ?_⟩⟩
  · obtain ⟨k, hk, rfl⟩ := List.getElem_of_mem hx
    have h2 := (h.2.2.1 k (by rw [← h.1]; exact hk)).1
    have e1 : nmAt S k = S[k] := by unfold nmAt; rw [List.getElem?_eq_getElem hk]; rfl
    rw [e1] at h2
    exact h2
  · rw [Nat.zero_add]; exact h.2.1.cells hk

end Go.Proofs.Ytnpogpoknbgodaa

/- Contracts of the reference's zero, pivot. -/
namespace Go.Proofs.Ytnpogpoknbgodaa
open Go.RowKit
attribute [local go_sem ↓] Go.wp_at_zero Go.wp_at_succ

set_option maxHeartbeats 400000 in
theorem zero3_any (ng : Bool) (ao : Option Addr) (cap : Nat) (n : Nat) (w : World) :
    Calls Try.prog 23 #[.agg #[.bool ng, .slice ao n cap]] w fun e w' => e = .returned (.bool (decide (n = 0))) ∧ Below w.heap.size w w' := by
  by_cases h0 : n = 0
  · subst h0
    go_enter Try.func23, Try.ntmps23
    go_wp2
    go_ret
    exact ⟨rfl, (Below.refl _ _).alloc (Nat.le_refl _) _⟩
  · have h1 : ((n : Int) == 0) = false := by simp; omega
    have H := hide (decide_eq_false h0)
    clear h0
    go_enter Try.func23, Try.ntmps23
    go_wp2
    go_ret
    exact ⟨ret_bool (unhide H).symm, (Below.refl _ _).alloc (Nat.le_refl _) _⟩

/-- Is the number 0? -/
def nilAt (N : List Rw) (i c : Nat) : Prop := (nmAt (rwAt N i).R c).L.length = 0

set_option maxHeartbeats 4000000 in
theorem pivot_any (b off cap : Nat) (N : List Rw) (fr c n : Nat) (w : World) (h : MatAt w (some ⟨b, off, none⟩) cap N) (hr : ∀ i, i < N.length → (rwAt N i).R.length = n) (hc : c < n) (hfr : fr ≤ N.length) (hm : N.length ≤ 6) (hn : n ≤ 6) :
    Calls Try.prog 22 #[.slice (some ⟨b, off, none⟩) N.length cap, .int .i64 fr, .int .i64 c] w fun e w' => (∃ k : Int, e = .returned (.int .i64 k) ∧ ((k = -1 ∧ ∀ i, fr ≤ i → i < N.length → nilAt N i c) ∨ ∃ i : Nat, k = i ∧ fr ≤ i ∧ i < N.length ∧ ¬ nilAt N i c)) ∧ Below w.heap.size w w' := by
  obtain ⟨ml, hml⟩ : ∃ ml, N.length = ml := ⟨_, rfl⟩
  have HL := hide hml; have HM := hide h; have HR := hide hr
  rw [hml] at hfr hm ⊢
  have hcI : (c : Int) < (n : Int) := by omega
  clear h hr hml
  go_enter Try.func22, Try.ntmps22
  go_wp2_with fail
  go_loopw [7] (fun v wr => ∃ i : Nat, fr ≤ i ∧ i ≤ ml ∧ v = .int .i64 i ∧ Hid (Below w.heap.size w wr) ∧ Hid (∀ q, fr ≤ q → q < i → nilAt N q c)) (fun v _ => ml - (intOf v).toNat)
  case atStart => exact ⟨fr, Nat.le_refl _, hfr, rfl, hide (Below.refl _ _), hide (fun q h1 h2 => by omega)⟩
  case round =>
    obtain ⟨i, hfi, hi, rfl, hbw, hz⟩ := hrel
    by_cases hlt : i < ml
    · have hiI : (i : Int) < (ml : Int) := by omega
      have hiM : i < N.length := by rw [unhide HL]; exact hlt
      have hMb := (unhide HM).below (unhide hbw)
      have hrl := unhide HR i hiM
      have hnum := hMb.nums hiM
      obtain ⟨b1, o1, hao1, hb1, _⟩ := hnum.ne (by omega)
      obtain ⟨b', off', e', hbb', hcr'⟩ := hMb.ne (by omega)
      simp only [Option.some.injEq, Addr.mk.injEq, and_true] at e'
      obtain ⟨rfl, rfl⟩ := e'
      have hcr := hcr' i hiM
      rw [hao1, hrl] at hcr
      rw [hao1] at hnum
      have hcx := hnum.cells (k := c) (by omega)
      obtain ⟨x, hx⟩ : ∃ x, nmAt (rwAt N i).R c = x := ⟨_, rfl⟩
      have HX := hide (show nilAt N i c ↔ x.L.length = 0 by unfold nilAt; rw [hx])
      rw [hx] at hcx
      obtain ⟨c1, c2⟩ := hcx
      generalize (rwAt N i).cap = cr at *
      obtain ⟨nx, ax, cx, Lx⟩ := x
      simp only at c1 c2 HX
      generalize Lx.length = lx at *
      clear hMb hrl hnum hcr' hx hb1 hao1 hbb'
      go_wp2_with fail
      refine (zero3_any nx ax cx lx _).mono ?_
      rintro e w1 ⟨rfl, hb1⟩
      have B1 := hide ((unhide hbw).trans (hb1.mono (unhide hbw).size))
      by_cases h0 : lx = 0
      · rw [decide_eq_true h0]
        have HZ := hide (fun q (h1 : fr ≤ q) (h2 : q < i + 1) => (show nilAt N q c by
          rcases Nat.lt_or_ge q i with h | h
          · exact unhide hz q h1 h
          · obtain rfl : q = i := by omega
            exact (unhide HX).2 h0))
        clear hb1 hbw hz c1 c2 hcr HX h0
        go_wp2
        go_roundw
        case rel => exact ⟨i + 1, by omega, by omega, by go_num, B1, HZ⟩
        case measure => simp [intOf]; omega
      · rw [decide_eq_false h0]
        have HNZ := hide (show ¬ nilAt N i c from fun hh => h0 ((unhide HX).1 hh))
        clear hb1 hbw hz c1 c2 hcr HX h0
        go_wp2
        go_ret
        exact ⟨⟨_, rfl, .inr ⟨i, rfl, hfi, hlt, unhide HNZ⟩⟩, unhide B1⟩
    · have hgI : ¬ (i : Int) < (ml : Int) := by omega
      have hgD : decide ((i : Int) < (ml : Int)) = false := decide_eq_false hgI
      go_wp2
      go_ret
      exact ⟨⟨_, rfl, .inl ⟨rfl, fun q h1 h2 => unhide hz q h1 (by omega)⟩⟩, unhide hbw⟩

end Go.Proofs.Ytnpogpoknbgodaa

/- Contracts of the reference's First, without. -/
namespace Go.Proofs.Ytnpogpoknbgodaa
open Go.RowKit
attribute [local go_sem ↓] Go.wp_at_zero Go.wp_at_succ

def intV (x : Int) : Value := .int .i64 x
theorem infoInt : (Try.prog.info? 3).map (fun i => (i.zero, i.size, i.bytes)) = some (some (.int .i64 0), 1, 8) := by kernel_rfl

theorem own_ints {w : World} {base n : Nat} {v : Value} {I : List Int} (h : w.ownsRow base 3 1 v n (I.map intV)) (hf : ∀ x ∈ I, -9223372036854775808 ≤ x ∧ x ≤ 9223372036854775807) : ∃ ao cap, v = .slice ao I.length cap ∧ IntsAt w ao cap I := by
  have hl : I.length = n := by have := h.1; simpa using this
  rcases h.2 with ⟨hv, h0⟩ | ⟨g, cap, cur, hv, hg, hh, hc, hm, hs, ht⟩
  · have : I = [] := List.length_eq_zero_iff.1 (by omega)
    subst this
    exact ⟨none, 0, hv, ⟨by simp, by simp, .inl rfl⟩⟩
  · refine ⟨some ⟨g, 0, none⟩, cap, by rw [hl]; exact hv, ⟨by omega, hf, .inr ⟨g, 0, rfl, (Array.getElem?_eq_some_iff.1 hh).1, fun i hi => ?_⟩⟩⟩
    have q : (I.map intV)[i]? = some (.int .i64 (I[i]?.getD 0)) := by
      rw [List.getElem?_map, List.getElem?_eq_getElem hi]; rfl
    rw [← ht, List.getElem?_take, if_pos (by omega)] at q
    rw [cell_of_row w g _ _ _ _ hh, Nat.zero_add]
    simpa using q

/-- 0, 1, .. below n. -/
def firstI (n : Nat) : List Int := (List.range n).map (fun i : Nat => (i : Int))
theorem firstI_succ (n : Nat) : firstI (n + 1) = firstI n ++ [(n : Int)] := by simp [firstI, List.range_succ]
theorem length_firstI (n : Nat) : (firstI n).length = n := by simp [firstI]

theorem eraseIdx_eq (I : List Int) (k : Nat) : I.eraseIdx k = I.take k ++ I.drop (k + 1) := List.eraseIdx_eq_take_drop_succ I k

end Go.Proofs.Ytnpogpoknbgodaa

/- Contract of the reference's minus. -/
namespace Go.Proofs.Ytnpogpoknbgodaa
open Go.RowKit

set_option maxHeartbeats 400000 in
theorem minus_any (ao bo : Option Addr) (ca cb : Nat) (A B : List Nat) (w : World) (hA : LimbsAt w ao ca A) (hB : LimbsAt w bo cb B) (la : A.length ≤ 35184372088830) (lb : B.length ≤ 35184372088830) (hv : val B ≤ val A) :
    Calls Try.prog 28 #[.slice ao A.length ca, .slice bo B.length cb] w fun e w' => ∃ ao' cap' L', e = .returned (.slice ao' L'.length cap') ∧ LimbsAt w' ao' cap' L' ∧ NewAt w.heap.size ao' L' ∧ L'.length = A.length ∧ val L' = val A - val B ∧ Below w.heap.size w w' := by
  obtain ⟨i0, hi, hz0, hz1, hz2⟩ := info_parts Try.info60
  have hst : ∀ (S : List Nat) (c x y t c' : Nat), A[S.length]?.getD 0 = x → B[S.length]?.getD 0 = y → t + y + c = x + 4294967296 * c' → val S + val (B.take S.length) = val (A.take S.length) + 4294967296 ^ S.length * c → val (S ++ [t]) + val (B.take (S.length + 1)) = val (A.take (S.length + 1)) + 4294967296 ^ (S.length + 1) * c' := fun S c x y t c' => minus_step A B S c x y t c'
  have hen : ∀ (S : List Nat) (c : Nat), Fits S → S.length = A.length → val S + val (B.take S.length) = val (A.take S.length) + 4294967296 ^ S.length * c → val S = val A - val B := by
    intro S c f hl h
    refine sub_end A B S A.length c f hl rfl hv (take_le A B hA.2.1 hv) ?_
    rw [← hl, List.take_length]; exact h
  have HST := hide hst
  have HEN := hide hen
  clear hst hen hv
  go_enter Try.func28, Try.ntmps28
  go_wp2
  go_loopw [5, 6, 7] (fun v c i wr => ∃ (S : List Nat) (y : Nat), S.length ≤ A.length ∧ i = .int .i64 (S.length : Nat) ∧ c = .int .u64 y ∧ y ≤ 1 ∧ wr.ownsRow w.heap.size 60 1 v S.length (S.map limbV) ∧ Fits S ∧ Below w.heap.size w wr ∧ Hid (val S + val (B.take S.length) = val (A.take S.length) + 4294967296 ^ S.length * y))
    (fun _ _ i _ => A.length - (intOf i).toNat)
  case atStart =>
    refine ⟨[], 0, by simp, rfl, rfl, by omega, ?_, by intro x hx; simp at hx, (Below.refl _ _).alloc (Nat.le_refl _) _, by unfold Hid; simp [val]⟩
    exact World.ownsRow_made w #[] 0 (Nat.le_refl _) (by simp [maxLen]) (by simp)
  case round =>
    obtain ⟨S, y, hk, rfl, rfl, hy, hown, hf, hbel, hv⟩ := hrel
    by_cases hlt : S.length < A.length
    · obtain ⟨xa, hxa⟩ : ∃ x, A[S.length]?.getD 0 = x := ⟨_, rfl⟩
      obtain ⟨xb, hxb⟩ : ∃ x, B[S.length]?.getD 0 = x := ⟨_, rfl⟩
      have ba : xa < 4294967296 := by rw [← hxa]; exact hA.lt _
      have bb : xb < 4294967296 := by rw [← hxb]; exact hB.lt _
      have cA := hA.below hbel
      have cB := hB.below hbel
      have HS2 := hide (unhide HST S y xa xb ((4294967296 + xa - xb - y) % 4294967296) (1 - (4294967296 + xa - xb - y) / 4294967296) hxa hxb (by omega) hv.out)
      have HXA := hide hxa
      have HXB := hide hxb
      have hsz := hbel.size
      have HF := hide hf
      clear hxa hxb hv HST HEN hf
      generalize hSl : S.length = k at *
      have HSL := hide hSl
      clear hSl
      go_wp2_with (first | (go_at_call_of 42 (Value.slice ao A.length ca); refine (limb_x ao ca A _ k xa _ cA la rfl HXA).mono ?_; rintro e w' ⟨rfl, rfl⟩) | (go_at_call_of 42 (Value.slice bo B.length cb); refine (limb_x bo cb B _ k xb _ cB lb rfl HXB).mono ?_; rintro e w' ⟨rfl, rfl⟩) | (at_builtin; refine wpList_append_own _ rfl _ _ 33 rfl w.heap.size 60 i0 (.int .u32 0) 1 4 Try.underlying33 hi hz0 hz1 hz2 rfl (by decide) _ _ _ rfl (hown.alloc _) ⟨wr.heap.size, 0, none⟩ 1 1 [.int .u32 ((4294967296 + (xa : Int) - (xb : Int) - (y : Int)) % 4294967296)] rfl rfl (cell_one_new _ _ _) (fun u hu => by simp at hu; subst hu; rfl) (by unfold maxLen; omega) (by omega) (by simp; omega) ?_; intro v' w1 hown' hgrow _; have hbl : Below w.heap.size w w1 := ((hbel.alloc hsz _).grown hgrow (by simp; omega) (fun g hg => (hown.lt g hg).1)); have ho2 := hide (own_snoc (x := (4294967296 + xa - xb - y) % 4294967296) hown' (by omega)); clear hown' hgrow))
      have hS2 := unhide HS2
      have hl2 : (S ++ [(4294967296 + xa - xb - y) % 4294967296]).length = k + 1 := by simp [unhide HSL]
      go_roundw
      case rel => exact ⟨S ++ [(4294967296 + xa - xb - y) % 4294967296], 1 - (4294967296 + xa - xb - y) / 4294967296, by omega, by rw [hl2]; go_num, int_eq (by omega), by omega, by rw [hl2]; exact unhide ho2, (unhide HF).snoc (by omega), hbl, by rw [hl2]; exact hS2⟩
      case measure => simp [intOf]; omega
    · have hend := unhide HEN S y hf (by omega) hv.out
      have HEND := hide hend
      obtain ⟨ao', cap', e1, e2, e3, e4⟩ := own_limbs hown hf
      have E2 := hide e2
      have E3 := hide e3
      have hsl : S.length = A.length := by omega
      have HSL := hide hsl
      subst e1
      clear hend hv HST hown e2 e3 e4 HEN hsl
      go_wp2
      go_ret
      exact ⟨ao', cap', S, rfl, unhide E2, unhide E3, unhide HSL, unhide HEND, hbel⟩

end Go.Proofs.Ytnpogpoknbgodaa

/- Contract of the reference's Add. -/
namespace Go.Proofs.Ytnpogpoknbgodaa
open Go.RowKit
attribute [local go_sem ↓] Go.wp_at_zero Go.wp_at_succ

set_option maxHeartbeats 1000000 in
theorem refAdd_same (na : Bool) (ao bo : Option Addr) (ca cb : Nat) (A B : List Nat) (w : World) (hA : LimbsAt w ao ca A) (hB : LimbsAt w bo cb B) (la : A.length ≤ 35184372088830) (lb : B.length ≤ 35184372088830) :
    Calls Try.prog 10 #[.agg #[.bool na, .slice ao A.length ca], .agg #[.bool na, .slice bo B.length cb]] w fun e w' => ∃ v, e = .returned v ∧ IsNumM (max A.length B.length + 1) w.heap.size w' v (sval na A + sval na B) ∧ Below w.heap.size w w' := by
  have hsum : ∀ L : List Nat, val L = val A + val B → sval na L = sval na A + sval na B := by
    intro L h; unfold sval; cases na <;> simp [h] <;> omega
  have HS := hide hsum
  clear hsum
  generalize sval na A + sval na B = z at *
  go_enter Try.func10, Try.ntmps10
  go_wp2
  refine at_world (fun W => Below w.heap.size w W ∧ W.heap.size = w.heap.size + 3 ∧ Box2 W w.heap.size (.bool na) (.slice ao A.length ca) ∧ Box2 W (w.heap.size + 1) (.bool na) (.slice bo B.length cb) ∧ Box2 W (w.heap.size + 2) (.bool false) (.slice none 0 0)) ?_ ?_
  · refine ⟨((((Below.refl _ _).alloc (Nat.le_refl _) _).alloc (by simp) _).alloc (by simp; omega) _), by simp, ((Box2.new _ _ _).old _).old _, ?_, ?_⟩
    · have := (Box2.new (w.alloc (.cells #[.bool na, .slice ao A.length ca] 35)) (.bool na) (.slice bo B.length cb)).old (.cells #[.bool false, .slice none 0 0] 35)
      simpa using this
    · have := Box2.new ((w.alloc (.cells #[.bool na, .slice ao A.length ca] 35)).alloc (.cells #[.bool na, .slice bo B.length cb] 35)) (.bool false) (.slice none 0 0)
      simpa using this
  rintro W0 ⟨hw0, hs0, x0, x1, x2⟩
  have hK : ∀ w', Below (w.heap.size + 2) W0 w' → Below (w.heap.size + 2) W0 w' ∧ w'.cell? ⟨w.heap.size, 0, none⟩ = some (.bool na) ∧ w'.cell? ⟨w.heap.size, 1, none⟩ = some (.slice ao A.length ca) ∧ w'.cell? ⟨w.heap.size + 1, 1, none⟩ = some (.slice bo B.length cb) := fun w' h =>
    ⟨h, (x0.below h (by omega)).c0, (x0.below h (by omega)).c1, (x1.below h (by omega)).c1⟩
  have HK := hide hK
  have HA := hide (hA.below hw0)
  have HB := hide (hB.below hw0)
  have X2 := hide x2
  have HW0 := hide hw0
  clear hK hA hB x0 x1 x2 hw0
  go_region_held3 (fun w' => Below (w.heap.size + 2) W0 w' ∧ w'.cell? ⟨w.heap.size, 0, none⟩ = some (.bool na) ∧ w'.cell? ⟨w.heap.size, 1, none⟩ = some (.slice ao A.length ca) ∧ w'.cell? ⟨w.heap.size + 1, 1, none⟩ = some (.slice bo B.length cb))
    (first | exact unhide HK _ (Below.refl _ _).drew | exact unhide HK _ (by assumption) | exact unhide HK _ ((hB2.setCell (by simp) _).setCell (by simp) _))
    (first | (go_at_call 26; refine (plus_any ao bo ca cb A B _ ((unhide HA).below ((Below.refl _ _).drew)) ((unhide HB).below ((Below.refl _ _).drew)) la lb).mono ?_; rintro e w1 ⟨ao', cap', L', rfl, g1, g2, g3, g4, hb1⟩; have hB1 : Below (w.heap.size + 2) W0 w1 := ((Below.refl _ _).drew).trans (hb1.mono (by simp [hs0])); have X3 := hide ((unhide X2).drew.below hb1 (by simp [hs0])); have G1 := hide g1; have G2 := hide g2; have G4 := hide g4; have L4 : L'.length ≤ 35184372088832 := (by omega); have L5 : L'.length ≤ max A.length B.length + 1 := (by omega); have s1 := hb1.size; clear g1 g2 g4 g3 hb1) | (go_at_call 25; refine (made_any _ na _ _ _ _ (unhide G1) (unhide G2) L4).mono ?_; rintro e w2 ⟨v, rfl, ⟨n2, a2, c2, L2, rfl, i1⟩, hb2⟩; have hB2 : Below (w.heap.size + 2) W0 w2 := hB1.trans (hb2.mono (by simp at s1; omega)); have X4 := (unhide X3).below hb2 (by simp at s1; omega); have y0 := X4.c0; have y1 := X4.c1; have f0 := X4.free 0; have f1 := X4.free 1; have I1 := hide i1; clear i1 hb2 X4))
  have hz := unhide HS L' (unhide G4)
  have HI := hide (hz ▸ unhide I1)
  clear hz
  go_wp2
  refine bodyPost_ret (v := .agg #[.bool n2, .slice a2 L2.length c2]) (by simp [results, Try.results10, go_sem, y0, y1]) rfl ⟨.agg #[.bool n2, .slice a2 L2.length c2], rfl, ?_, ?_⟩
  · exact (IsNumM.stored (unhide HI) (by simp; omega) (by simp; omega) (by simp; omega) _ _).more (by have := L5; omega)
  · exact (((unhide HW0).trans (hB2.mono (by omega))).setCell (by simp; omega) _).setCell (by simp; omega) _

set_option maxHeartbeats 1000000 in
theorem refAdd_diff (na nb : Bool) (ao bo : Option Addr) (ca cb : Nat) (A B : List Nat) (w : World) (hA : LimbsAt w ao ca A) (hB : LimbsAt w bo cb B) (la : A.length ≤ 35184372088830) (lb : B.length ≤ 35184372088830) (hn : na ≠ nb) :
    Calls Try.prog 10 #[.agg #[.bool na, .slice ao A.length ca], .agg #[.bool nb, .slice bo B.length cb]] w fun e w' => ∃ v, e = .returned v ∧ IsNumM (max A.length B.length + 1) w.heap.size w' v (sval na A + sval nb B) ∧ Below w.heap.size w w' := by
  have hsum : (∀ L : List Nat, val L = val B - val A → val A < val B → sval nb L = sval na A + sval nb B) ∧ (∀ L : List Nat, val L = val A - val B → val B ≤ val A → sval na L = sval na A + sval nb B) := by
    constructor <;> intro L h h' <;> unfold sval <;> cases na <;> cases nb <;> simp at hn <;> simp [h] <;> omega
  have HS := hide hsum
  clear hsum
  generalize sval na A + sval nb B = z at *
  have hne : (na == nb) = false := by simpa using hn
  clear hn
  go_enter Try.func10, Try.ntmps10
  go_wp2_with fail
  refine (more_any ao bo ca cb A B _ (hA.below ?_) (hB.below ?_) (by omega) (by omega)).mono ?_
  · exact (((Below.refl _ _).alloc (Nat.le_refl _) _).alloc (by simp) _).alloc (by simp; omega) _
  · exact (((Below.refl _ _).alloc (Nat.le_refl _) _).alloc (by simp) _).alloc (by simp; omega) _
  rintro e w' ⟨rfl, rfl⟩
  by_cases hv : val A < val B
  · rw [cmpI_lt (by omega)]
    have HS1 := hide (fun L h => (unhide HS).1 L h hv)
    clear HS
    go_wp2
    refine at_world (fun W => Below w.heap.size w W ∧ W.heap.size = w.heap.size + 3 ∧ Box2 W w.heap.size (.bool na) (.slice ao A.length ca) ∧ Box2 W (w.heap.size + 1) (.bool nb) (.slice bo B.length cb) ∧ Box2 W (w.heap.size + 2) (.bool false) (.slice none 0 0)) ?_ ?_
    · refine ⟨((((Below.refl _ _).alloc (Nat.le_refl _) _).alloc (by simp) _).alloc (by simp; omega) _), by simp, (((Box2.new _ _ _).old _).old _), ?_, ?_⟩
      · have := ((Box2.new (w.alloc (.cells #[.bool na, .slice ao A.length ca] 35)) (.bool nb) (.slice bo B.length cb)).old (.cells #[.bool false, .slice none 0 0] 35))
        simpa using this
      · have := (Box2.new ((w.alloc (.cells #[.bool na, .slice ao A.length ca] 35)).alloc (.cells #[.bool nb, .slice bo B.length cb] 35)) (.bool false) (.slice none 0 0))
        simpa using this
    rintro W0 ⟨hw0, hs0, x0, x1, x2⟩
    have hK : ∀ w', Below (w.heap.size + 2) W0 w' → Below (w.heap.size + 2) W0 w' ∧ w'.cell? ⟨w.heap.size + 1, 0, none⟩ = some (.bool nb) ∧ w'.cell? ⟨w.heap.size, 1, none⟩ = some (.slice ao A.length ca) ∧ w'.cell? ⟨w.heap.size + 1, 1, none⟩ = some (.slice bo B.length cb) := fun w' h =>
      ⟨h, (x1.below h (by omega)).c0, (x0.below h (by omega)).c1, (x1.below h (by omega)).c1⟩
    have HK := hide hK
    have HA := hide (hA.below hw0)
    have HB := hide (hB.below hw0)
    have X2 := hide x2
    have HW0 := hide hw0
    have hv' : val A ≤ val B := by omega
    clear hK hA hB x0 x1 x2 hw0
    go_region_held3 (fun w' => Below (w.heap.size + 2) W0 w' ∧ w'.cell? ⟨w.heap.size + 1, 0, none⟩ = some (.bool nb) ∧ w'.cell? ⟨w.heap.size, 1, none⟩ = some (.slice ao A.length ca) ∧ w'.cell? ⟨w.heap.size + 1, 1, none⟩ = some (.slice bo B.length cb))
      (first | exact unhide HK _ (Below.refl _ _).drew | exact unhide HK _ (by assumption) | exact unhide HK _ ((hB2.setCell (by simp) _).setCell (by simp) _))
      (first | (go_at_call 28; refine (minus_any bo ao cb ca B A _ ((unhide HB).below ((Below.refl _ _).drew)) ((unhide HA).below ((Below.refl _ _).drew)) lb la hv').mono ?_; rintro e w1 ⟨ao', cap', L', rfl, g1, g2, g3, g4, hb1⟩; have hB1 : Below (w.heap.size + 2) W0 w1 := ((Below.refl _ _).drew).trans (hb1.mono (by simp [hs0])); have X3 := hide ((unhide X2).drew.below hb1 (by simp [hs0])); have G1 := hide g1; have G2 := hide g2; have G4 := hide g4; have L4 : L'.length ≤ 35184372088832 := (by omega); have L5 : L'.length ≤ max A.length B.length + 1 := (by omega); have s1 := hb1.size; clear g1 g2 g4 g3 hb1) | (go_at_call 25; refine (made_any _ nb _ _ _ _ (unhide G1) (unhide G2) L4).mono ?_; rintro e w2 ⟨v, rfl, ⟨n2, a2, c2, L2, rfl, i1⟩, hb2⟩; have hB2 : Below (w.heap.size + 2) W0 w2 := hB1.trans (hb2.mono (by simp at s1; omega)); have X4 := (unhide X3).below hb2 (by simp at s1; omega); have y0 := X4.c0; have y1 := X4.c1; have f0 := X4.free 0; have f1 := X4.free 1; have I1 := hide i1; clear i1 hb2 X4))
    have hz := unhide HS1 L' (unhide G4)
    have HI := hide (hz ▸ unhide I1)
    clear hz
    go_wp2
    refine bodyPost_ret (v := .agg #[.bool n2, .slice a2 L2.length c2]) (by simp [results, Try.results10, go_sem, y0, y1]) rfl ⟨.agg #[.bool n2, .slice a2 L2.length c2], rfl, ?_, ?_⟩
    · exact (IsNumM.stored (unhide HI) (by simp; omega) (by simp; omega) (by simp; omega) _ _).more (by have := L5; omega)
    · exact (((unhide HW0).trans (hB2.mono (by omega))).setCell (by simp; omega) _).setCell (by simp; omega) _
  · have hge : ¬ cmpI (val A) (val B) < 0 := by unfold cmpI; rw [if_neg (by omega)]; split <;> omega
    generalize cmpI (val A) (val B) = cm at *
    have HS1 := hide (fun L h => (unhide HS).2 L h (by omega))
    clear HS
    go_wp2
    refine at_world (fun W => Below w.heap.size w W ∧ W.heap.size = w.heap.size + 3 ∧ Box2 W w.heap.size (.bool na) (.slice ao A.length ca) ∧ Box2 W (w.heap.size + 1) (.bool nb) (.slice bo B.length cb) ∧ Box2 W (w.heap.size + 2) (.bool false) (.slice none 0 0)) ?_ ?_
    · refine ⟨((((Below.refl _ _).alloc (Nat.le_refl _) _).alloc (by simp) _).alloc (by simp; omega) _), by simp, (((Box2.new _ _ _).old _).old _), ?_, ?_⟩
      · have := ((Box2.new (w.alloc (.cells #[.bool na, .slice ao A.length ca] 35)) (.bool nb) (.slice bo B.length cb)).old (.cells #[.bool false, .slice none 0 0] 35))
        simpa using this
      · have := (Box2.new ((w.alloc (.cells #[.bool na, .slice ao A.length ca] 35)).alloc (.cells #[.bool nb, .slice bo B.length cb] 35)) (.bool false) (.slice none 0 0))
        simpa using this
    rintro W0 ⟨hw0, hs0, x0, x1, x2⟩
    have hK : ∀ w', Below (w.heap.size + 2) W0 w' → Below (w.heap.size + 2) W0 w' ∧ w'.cell? ⟨w.heap.size, 0, none⟩ = some (.bool na) ∧ w'.cell? ⟨w.heap.size, 1, none⟩ = some (.slice ao A.length ca) ∧ w'.cell? ⟨w.heap.size + 1, 1, none⟩ = some (.slice bo B.length cb) := fun w' h =>
      ⟨h, (x0.below h (by omega)).c0, (x0.below h (by omega)).c1, (x1.below h (by omega)).c1⟩
    have HK := hide hK
    have HA := hide (hA.below hw0)
    have HB := hide (hB.below hw0)
    have X2 := hide x2
    have HW0 := hide hw0
    have hv' : val B ≤ val A := by omega
    clear hK hA hB x0 x1 x2 hw0
    go_region_held3 (fun w' => Below (w.heap.size + 2) W0 w' ∧ w'.cell? ⟨w.heap.size, 0, none⟩ = some (.bool na) ∧ w'.cell? ⟨w.heap.size, 1, none⟩ = some (.slice ao A.length ca) ∧ w'.cell? ⟨w.heap.size + 1, 1, none⟩ = some (.slice bo B.length cb))
      (first | exact unhide HK _ (Below.refl _ _).drew | exact unhide HK _ (by assumption) | exact unhide HK _ ((hB2.setCell (by simp) _).setCell (by simp) _))
      (first | (go_at_call 28; refine (minus_any ao bo ca cb A B _ ((unhide HA).below ((Below.refl _ _).drew)) ((unhide HB).below ((Below.refl _ _).drew)) la lb hv').mono ?_; rintro e w1 ⟨ao', cap', L', rfl, g1, g2, g3, g4, hb1⟩; have hB1 : Below (w.heap.size + 2) W0 w1 := ((Below.refl _ _).drew).trans (hb1.mono (by simp [hs0])); have X3 := hide ((unhide X2).drew.below hb1 (by simp [hs0])); have G1 := hide g1; have G2 := hide g2; have G4 := hide g4; have L4 : L'.length ≤ 35184372088832 := (by omega); have L5 : L'.length ≤ max A.length B.length + 1 := (by omega); have s1 := hb1.size; clear g1 g2 g4 g3 hb1) | (go_at_call 25; refine (made_any _ na _ _ _ _ (unhide G1) (unhide G2) L4).mono ?_; rintro e w2 ⟨v, rfl, ⟨n2, a2, c2, L2, rfl, i1⟩, hb2⟩; have hB2 : Below (w.heap.size + 2) W0 w2 := hB1.trans (hb2.mono (by simp at s1; omega)); have X4 := (unhide X3).below hb2 (by simp at s1; omega); have y0 := X4.c0; have y1 := X4.c1; have f0 := X4.free 0; have f1 := X4.free 1; have I1 := hide i1; clear i1 hb2 X4))
    have hz := unhide HS1 L' (unhide G4)
    have HI := hide (hz ▸ unhide I1)
    clear hz
    go_wp2
    refine bodyPost_ret (v := .agg #[.bool n2, .slice a2 L2.length c2]) (by simp [results, Try.results10, go_sem, y0, y1]) rfl ⟨.agg #[.bool n2, .slice a2 L2.length c2], rfl, ?_, ?_⟩
    · exact (IsNumM.stored (unhide HI) (by simp; omega) (by simp; omega) (by simp; omega) _ _).more (by have := L5; omega)
    · exact (((unhide HW0).trans (hB2.mono (by omega))).setCell (by simp; omega) _).setCell (by simp; omega) _

theorem refAdd_any (na nb : Bool) (ao bo : Option Addr) (ca cb : Nat) (A B : List Nat) (w : World) (hA : LimbsAt w ao ca A) (hB : LimbsAt w bo cb B) (la : A.length ≤ 35184372088830) (lb : B.length ≤ 35184372088830) :
    Calls Try.prog 10 #[.agg #[.bool na, .slice ao A.length ca], .agg #[.bool nb, .slice bo B.length cb]] w fun e w' => ∃ v, e = .returned v ∧ IsNumM (max A.length B.length + 1) w.heap.size w' v (sval na A + sval nb B) ∧ Below w.heap.size w w' := by
  by_cases hn : na = nb
  · subst hn; exact refAdd_same na ao bo ca cb A B w hA hB la lb
  · exact refAdd_diff na nb ao bo ca cb A B w hA hB la lb hn

end Go.Proofs.Ytnpogpoknbgodaa

