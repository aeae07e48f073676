/- Part 16 of the texts. -/
import Derived.Test.YtnpogpoknbgodaaPart15
import Derived.Test.YtnpogpoknbgodaaPart14
import Derived.Test.YtnpogpoknbgodaaPart13
import Derived.Test.YtnpogpoknbgodaaPart09
import Derived.Test.YtnpogpoknbgodaaPart11
/- Contract of the reference's Det. -/
namespace Go.Proofs.Ytnpogpoknbgodaa
open Go.RowKit
attribute [local go_sem ↓] Go.wp_at_zero Go.wp_at_succ

/-- What stands behind the product. -/
def TailD (w : World) (n : Bool) (a : Option Addr) (L : List Nat) (c : Nat) (np : Bool) (ap : Option Addr) (Lp : List Nat) (cp : Nat) (x y : Int) (g : Nat) (W : World) : Prop :=
  Box2 W g (.bool np) (.slice ap Lp.length cp) ∧ IsNum 0 W (.agg #[.bool np, .slice ap Lp.length cp]) y ∧ Below w.heap.size w W ∧ Box2 W (w.heap.size + 1) (.bool n) (.slice a L.length c) ∧ Box2 W w.heap.size (.bool false) (.slice none 0 0) ∧ w.heap.size + 1 < g ∧ IsNum 0 W (.agg #[.bool n, .slice a L.length c]) x

theorem Box2.oth {w : World} {b g : Nat} {x y x' y' : Value} (_ : Box2 w g x' y') (h : Box2 w b x y) (hlt : b < g) (u u' : Value) : Box2 ((w.setCell ⟨g, 0, none⟩ u).setCell ⟨g, 1, none⟩ u') b x y := h.other (Nat.ne_of_lt hlt) u u'
theorem below_put {w w' : World} {B g : Nat} {x y : Value} (_ : Box2 w' g x y) (h : Below B w w') (hg : B ≤ g) (u u' : Value) : Below B w ((w'.setCell ⟨g, 0, none⟩ u).setCell ⟨g, 1, none⟩ u') := (h.setCell (p := ⟨g, 0, none⟩) hg u).setCell (p := ⟨g, 1, none⟩) hg u'

end Go.Proofs.Ytnpogpoknbgodaa

/- The law ExactDets, walked. -/
namespace Go.Proofs.Ytnpogpoknbgodaa
open Go.RowKit
attribute [local go_sem ↓] Go.wp_at_zero Go.wp_at_succ

theorem natI_first (n : Nat) : natI (firstI n) = List.range n := by
  unfold natI firstI
  rw [List.map_map]
  refine (List.map_congr_left (g := id) (fun a _ => by simp)).trans (List.map_id _)
theorem first_in (n : Nat) : InI n (firstI n) := fun x hx => by
  obtain ⟨i, hi, rfl⟩ := List.mem_map.1 hx
  have := List.mem_range.1 hi
  omega
theorem dm_full (M : List Rw) (h : M.length ≤ 6) : dm M (2 ^ M.length - 1) = detD ((natI (firstI M.length)).map (valM M)) (natI (firstI M.length)) := by
  unfold dm sz
  rw [(set_full M.length h).1, natI_first, List.length_range]

end Go.Proofs.Ytnpogpoknbgodaa

/- What the program says of rows exchanged and of rows turned. -/
namespace Go.Proofs.Ytnpogpoknbgodaa

/-- Minors look at their rows' and columns' numbers only. -/
theorem minorD_ext {a b : Nat → Nat → Int} : ∀ (I C : List Nat), (∀ i ∈ I, ∀ c ∈ C, a i c = b i c) → minorD a I C = minorD b I C
  | [], _, _ => rfl
  | i :: I, C, h => by
    show exD (a i) C (detD (I.map a)) = exD (b i) C (detD (I.map b))
    rw [exD_row (a i) (b i) C _ (fun c hc => h i (by simp) c hc)]
    refine exD_congr _ _ _ _ (fun l hl _ => ?_)
    exact minorD_ext I l (fun k hk c hc => h k (by simp [hk]) c (hl.mem hc))

theorem van_ext {k m n : Nat} {a b : Nat → Nat → Int} (h : ∀ i, i < m → ∀ c, c < n → a i c = b i c) (hv : Van k a m n) : Van k b m n := by
  intro I C hI hC lI lC
  rw [← minorD_ext I C (fun i hi c hc => h i (hI.2 i hi) c (hC.2 c hc))]
  exact hv I C hI hC lI lC

theorem rank_ext {r m n : Nat} {a b : Nat → Nat → Int} (h : ∀ i, i < m → ∀ c, c < n → a i c = b i c) (hr : IsRank r a m n) : IsRank r b m n :=
  ⟨fun hv => hr.1 (van_ext (fun i hi c hc => (h i hi c hc).symm) hv), van_ext h hr.2⟩

/-- Rows made of good rows' numbers are good. -/
theorem chk_of {M N : List Rw} {n : Nat} (h : mChk M = 0) (h6 : N.length ≤ 6) (hn : n ≤ 6) (hr : ∀ j, j < N.length → (rwAt N j).R.length = n ∧ ∀ x ∈ (rwAt N j).R, ∃ i, i < M.length ∧ x ∈ (rwAt M i).R) : mChk N = 0 := by
  obtain ⟨_, h2, h3⟩ := mChk_zero h
  have hw : ∀ j, j < N.length → width N = n := fun j hj => (hr 0 (by omega)).1
  have hs : shapeB N = true := shape_true h6 (fun j hj => ⟨by rw [(hr j hj).1]; exact hn, by rw [(hr j hj).1, hw j hj]⟩)
  have hx : ∀ p : Nm → Bool, (M.all (fun r => r.R.all p)) = true → (N.all (fun r => r.R.all p)) = true := by
    intro p hp
    refine List.all_eq_true.2 (fun r hrN => List.all_eq_true.2 (fun x hxr => ?_))
    obtain ⟨j, hj, rfl⟩ := List.getElem_of_mem hrN
    have e : N[j] = rwAt N j := by unfold rwAt; rw [List.getElem?_eq_getElem hj]; rfl
    rw [e] at hxr
    obtain ⟨i, hi, hm⟩ := (hr j hj).2 x hxr
    exact List.all_eq_true.1 (List.all_eq_true.1 hp _ (rwAt_mem hi)) _ hm
  unfold mChk
  rw [hs, hx _ h2, hx _ h3]
  rfl

/-- A square that Check lets through: its determinant. -/
theorem detV_of {M : List Rw} (h : mChk M = 0) (hw : width M = M.length) (h6 : M.length ≤ 6) : detE M = 0 ∧ detV M = minorD (valM M) (List.range M.length) (List.range M.length) := by
  have hE : detE M = 0 := by unfold detE; rw [if_pos h, if_pos hw]
  refine ⟨hE, ?_⟩
  unfold detV minorD
  rw [if_pos hE, dm_full M h6, natI_first]

/-- Rows i and j exchanged. -/
def swapR (M : List Rw) (i j : Nat) : List Rw := (M.set i (rwAt M j)).set j (rwAt M i)
theorem swapR_len (M : List Rw) (i j : Nat) : (swapR M i j).length = M.length := by simp [swapR]
theorem swapR_at {M : List Rw} {i j k : Nat} (hi : i < M.length) (hj : j < M.length) (hk : k < M.length) : rwAt (swapR M i j) k = if k = j then rwAt M i else if k = i then rwAt M j else rwAt M k := by
  unfold swapR
  conv => lhs; unfold rwAt
  by_cases e : k = j
  · subst e
    rw [if_pos rfl, List.getElem?_set_self (by simpa using hk)]; rfl
  · rw [if_neg e, List.getElem?_set_ne (fun h => e h.symm)]
    by_cases e2 : k = i
    · subst e2
      rw [if_pos rfl, List.getElem?_set_self hk]; rfl
    · rw [if_neg e2, List.getElem?_set_ne (fun h => e2 h.symm)]; rfl

theorem swap_says {M : List Rw} {i j n : Nat} (h : mChk M = 0) (hn : M.length = n) (hw : width M = n) (hg : ∀ k, k < n → (rwAt M k).R.length = n) (h6 : n ≤ 6) (hi : i < n) (hj : j < n) :
    detE (swapR M i j) = 0 ∧ detV (swapR M i j) = if i = j then detV M else - detV M := by
  have hl : (swapR M i j).length = n := by rw [swapR_len, hn]
  have hat : ∀ k, k < n → ∃ q, q < n ∧ rwAt (swapR M i j) k = rwAt M q := by
    intro k hk
    rw [swapR_at (by omega) (by omega) (by omega)]
    by_cases e : k = j
    · rw [if_pos e]; exact ⟨i, hi, rfl⟩
    · rw [if_neg e]
      by_cases e2 : k = i
      · rw [if_pos e2]; exact ⟨j, hj, rfl⟩
      · rw [if_neg e2]; exact ⟨k, hk, rfl⟩
  have hc : mChk (swapR M i j) = 0 := chk_of (n := n) h (by omega) h6 (fun k hk => by
    obtain ⟨q, hq, e⟩ := hat k (by omega)
    rw [e]
    exact ⟨hg q hq, fun x hx => ⟨q, by omega, hx⟩⟩)
  have hwN : width (swapR M i j) = (swapR M i j).length := by
    obtain ⟨q, hq, e⟩ := hat 0 (by omega)
    unfold width
    rw [e, hl]; exact hg q hq
  obtain ⟨d1, d2⟩ := detV_of hc hwN (by omega)
  obtain ⟨_, d4⟩ := detV_of h (by omega) (by omega)
  refine ⟨d1, ?_⟩
  rw [d2, d4, hl, hn]
  unfold minorD
  have hv : ∀ {A B : List Rw} {p q : Nat}, rwAt A p = rwAt B q → valM A p = valM B q := by
    intro A B p q e
    funext c
    unfold valM entry
    rw [e]
  by_cases hij : i = j
  · rw [if_pos hij]
    subst hij
    congr 1
    refine List.map_congr_left (fun k hk => hv ?_)
    have hk := List.mem_range.1 hk
    rw [swapR_at (by omega) (by omega) (by omega)]
    by_cases e : k = i
    · subst e; rw [if_pos rfl]
    · rw [if_neg e, if_neg e]
  · rw [if_neg hij]
    have hL : ∀ k, k < n → ((List.range n).map (valM M))[k]? = some (valM M k) := fun k hk => by
      rw [List.getElem?_map, List.getElem?_range hk]; rfl
    rw [← detD_set hij (hL i hi) (hL j hj)]
    congr 1
    apply List.ext_getElem?
    intro k
    rcases Nat.lt_or_ge k n with hk | hk
    · rw [List.getElem?_map, List.getElem?_range hk]
      have e0 := swapR_at (M := M) (i := i) (j := j) (k := k) (by omega) (by omega) (by omega)
      by_cases e : k = j
      · subst e
        rw [if_pos rfl] at e0
        rw [List.getElem?_set_self (by simpa using hk)]
        show some _ = _
        rw [hv e0]
      · rw [if_neg e] at e0
        rw [List.getElem?_set_ne (fun h => e h.symm)]
        by_cases e2 : k = i
        · subst e2
          rw [if_pos rfl] at e0
          rw [List.getElem?_set_self (by simpa using hk)]
          show some _ = _
          rw [hv e0]
        · rw [if_neg e2] at e0
          rw [List.getElem?_set_ne (fun h => e2 h.symm), hL k hk]
          show some _ = _
          rw [hv e0]
    · rw [List.getElem?_eq_none (by simpa using hk), List.getElem?_eq_none (by simpa using hk)]

/-- The columns as rows: what they say. -/
theorem turn_val {M N : List Rw} {n : Nat} (hT : TurnIs N M n) {i c : Nat} (hi : i < n) (hc : c < M.length) : valM N i c = valM M c i := by
  have e : entry N i c = entry M c i := by
    conv => lhs; unfold entry nmAt
    rw [hT.2 i hi]
    unfold colOf
    rw [List.getElem?_map, List.getElem?_range hc]; rfl
  unfold valM
  rw [e]

theorem turn_chk {M N : List Rw} {n : Nat} (hT : TurnIs N M n) (h : mChk M = 0) (hg : ∀ k, k < M.length → (rwAt M k).R.length = n) (hm6 : M.length ≤ 6) (hn6 : n ≤ 6) : mChk N = 0 ∧ (0 < n → width N = M.length) := by
  have hl := hT.1
  refine ⟨chk_of (n := M.length) h (by omega) hm6 (fun j hj => ?_), fun h0 => ?_⟩
  · rw [hT.2 j (by omega)]
    refine ⟨colOf_len _ _ _, fun x hx => ?_⟩
    unfold colOf at hx
    obtain ⟨c, hc, rfl⟩ := List.mem_map.1 hx
    have hc := List.mem_range.1 hc
    exact ⟨c, hc, nmAt_mem (by rw [hg c hc]; omega)⟩
  · unfold width
    rw [hT.2 0 h0]
    exact colOf_len _ _ _

theorem turn_det {M N : List Rw} {n : Nat} (hT : TurnIs N M n) (h : mChk M = 0) (hn : M.length = n) (hw : width M = n) (hg : ∀ k, k < n → (rwAt M k).R.length = n) (h6 : n ≤ 6) (h0 : 0 < n) : detE N = 0 ∧ detV N = detV M := by
  subst hn
  obtain ⟨t1, t2⟩ := turn_chk hT h hg h6 h6
  have hl := hT.1
  obtain ⟨d1, d2⟩ := detV_of t1 (by rw [t2 h0, hl]) (by omega)
  obtain ⟨_, d4⟩ := detV_of h hw h6
  refine ⟨d1, ?_⟩
  rw [d2, d4, hl, minorD_ext (b := fun j i => valM M i j) _ _ (fun i hi c hc => turn_val hT (List.mem_range.1 hi) (List.mem_range.1 hc))]
  exact (detD_turn (valM M) M.length (List.range M.length) (List.range M.length) (by simp) (by simp)).symm

theorem turn_rank {M N : List Rw} {n r s : Nat} (hT : TurnIs N M n) (hr : IsRank r (valM M) M.length n) (hs : IsRank s (valM N) n M.length) : r = s :=
  (rank_ext (fun _ hi _ hc => (turn_val hT hi hc).symm) (rank_turn hr)).unique hs

theorem full_det {M : List Rw} {n r : Nat} (h : mChk M = 0) (hn : M.length = n) (hw : width M = n) (h6 : n ≤ 6) (hr : IsRank r (valM M) M.length (width M)) : r = n ↔ detV M ≠ 0 := by
  subst hn
  rw [hw] at hr
  rw [(detV_of h hw h6).2]
  exact rank_full hr
end Go.Proofs.Ytnpogpoknbgodaa

/- The law ExactTurns, walked: where it has nothing to ask. -/
namespace Go.Proofs.Ytnpogpoknbgodaa
open Go.RowKit
attribute [local go_sem ↓] Go.wp_at_zero Go.wp_at_succ

end Go.Proofs.Ytnpogpoknbgodaa

/- The law ExactTurns, walked: where it asks. -/
namespace Go.Proofs.Ytnpogpoknbgodaa
open Go.RowKit
attribute [local go_sem ↓] Go.wp_at_zero Go.wp_at_succ

/-- A copy of rows in a block of the call's own. -/
def CopyAt (w w' : World) (g c : Nat) (N : List Rw) : Prop :=
  w.heap.size ≤ g ∧ N.length ≤ c ∧ (∀ r ∈ N, NumsAt w r.ao r.cap r.R) ∧ (∃ cur, w'.heap[g]? = some (.cells cur 32 (0, 0)) ∧ ∀ i, i < N.length → cur[i]? = some (rwAt N i).v) ∧ Below w.heap.size w w'

theorem CopyAt.cell {w w' : World} {g c : Nat} {N : List Rw} (h : CopyAt w w' g c N) {i : Nat} (hi : i < N.length) : w'.cell? ⟨g, i, none⟩ = some (.slice (rwAt N i).ao (rwAt N i).R.length (rwAt N i).cap) := by
  obtain ⟨_, _, _, ⟨cur, h1, h2⟩, _⟩ := h
  rw [cell_of_row w' g i _ _ _ h1]
  exact h2 i hi
theorem CopyAt.free {w w' : World} {g c : Nat} {N : List Rw} (h : CopyAt w w' g c N) (i : Nat) : w'.frozen? ⟨g, i, none⟩ = false := by
  obtain ⟨_, _, _, ⟨cur, h1, _⟩, _⟩ := h
  exact frozen_of_row w' g i _ _ h1
theorem CopyAt.mat {w w' : World} {g c : Nat} {N : List Rw} (h : CopyAt w w' g c N) : MatAt w' (some ⟨g, 0, none⟩) c N := by
  refine ⟨h.2.1, fun r hr => (h.2.2.1 r hr).below h.2.2.2.2, .inr ⟨g, 0, rfl, ?_, fun i hi => ?_⟩⟩
  · obtain ⟨cur, h1, _⟩ := h.2.2.2.1
    exact (Array.getElem?_eq_some_iff.1 h1).1
  · rw [Nat.zero_add]; exact h.cell hi
theorem CopyAt.store {w w' : World} {g c : Nat} {N : List Rw} (h : CopyAt w w' g c N) {i : Nat} (r : Rw) (hr : NumsAt w r.ao r.cap r.R) : CopyAt w (w'.setCell ⟨g, i, none⟩ (.slice r.ao r.R.length r.cap)) g c (N.set i r) := by
  obtain ⟨k1, k2, k3, ⟨cur, k4, k5⟩, k6⟩ := h
  refine ⟨k1, by simpa using k2, fun q hq => ?_, ⟨_, heap_setCell_same w' g i _ _ _ k4, fun j hj => ?_⟩, k6.setCell (p := ⟨g, i, none⟩) k1 _⟩
  · rcases List.mem_or_eq_of_mem_set hq with h | h
    · exact k3 q h
    · rw [h]; exact hr
  · have hj' : j < N.length := by simpa using hj
    unfold rwAt
    by_cases e : i = j
    · subst e
      have hs : i < cur.size := by
        have := k5 i hj'
        exact (Array.getElem?_eq_some_iff.1 this).1
      rw [List.getElem?_set_self hj']
      simp [hs, Rw.v]
    · rw [List.getElem?_set_ne e]
      have := k5 j hj'
      unfold rwAt at this
      rw [← this]
      simp [e]
/-- Rows appended to nothing. -/
theorem CopyAt.made {w w1 w2 : World} {v : Value} {M : List Rw} {g : Option Nat} (hb : Below w.heap.size w w1) (hM : ∀ r ∈ M, NumsAt w r.ao r.cap r.R) (h0 : M.length ≠ 0) (ho : w2.ownsRow w.heap.size 32 1 v (0 + M.length) ([] ++ M.map Rw.v)) (hg : w1.grownBy w2 g) (hgb : ∀ m, g = some m → w.heap.size ≤ m) :
    ∃ b c, v = .slice (some ⟨b, 0, none⟩) M.length c ∧ CopyAt w w2 b c M := by
  rcases ho.2 with ⟨_, hz⟩ | ⟨b, c, cur, hv, hbb, hh, hc, hm, hs, ht⟩
  · omega
  · refine ⟨b, c, by rw [hv, Nat.zero_add], hbb, by omega, hM, ⟨cur, hh, fun i hi => ?_⟩, below_of_grown hb hg hb.size hgb⟩
    have q1 : (M.map Rw.v)[i]? = some (rwAt M i).v := by
      rw [List.getElem?_map]
      unfold rwAt
      rw [List.getElem?_eq_getElem hi]; rfl
    rw [List.nil_append] at ht
    rw [← ht, List.getElem?_take, if_pos (by omega)] at q1
    simpa using q1

theorem rest_of (x : Int) (n : Nat) (h0 : 0 < n) (h6 : n ≤ 6) : ∃ i : Nat, i < n ∧ wrap64 ((IntKind.u64.wrap x).tmod (n : Int)) = (i : Int) := by
  obtain ⟨z, hz⟩ : ∃ z : Nat, IntKind.u64.wrap x = (z : Int) := ⟨(IntKind.u64.wrap x).toNat, by
    have : 0 ≤ IntKind.u64.wrap x := by simp [IntKind.wrap, IntKind.signed, IntKind.bits]; omega
    omega⟩
  rw [hz]
  have e : ((z : Int).tmod (n : Int)) = ((z % n : Nat) : Int) := by simp [Int.tmod]
  rw [e]
  have hl := Nat.mod_lt z h0
  refine ⟨z % n, hl, ?_⟩
  unfold wrap64
  omega

/-- Rows made of small rows' numbers are small. -/
theorem small_of {M N : List Rw} (h : SmallM M) (h6 : N.length ≤ 6) (hr : ∀ j, j < N.length → (rwAt N j).R.length ≤ 6 ∧ ∀ x ∈ (rwAt N j).R, ∃ i, i < M.length ∧ x ∈ (rwAt M i).R) : SmallM N := by
  refine ⟨by omega, fun r hrN => ?_⟩
  obtain ⟨j, hj, rfl⟩ := List.getElem_of_mem hrN
  have e : N[j] = rwAt N j := by unfold rwAt; rw [List.getElem?_eq_getElem hj]; rfl
  rw [e]
  refine ⟨by have := (hr j hj).1; omega, fun x hx => ?_⟩
  obtain ⟨i, hi, hm⟩ := (hr j hj).2 x hx
  exact (h.2 _ (rwAt_mem hi)).2 x hm

theorem NB_top : ∀ n, n ≤ 6 → factN n * B80 ^ n < TOP := by decide +kernel
theorem det_top {M : List Rw} (hg : GoodM M M.length) (h : mChk M = 0) (hw : width M = M.length) : (detV M).natAbs < TOP := by
  rw [(detV_of h hw hg.1).2]
  have := detD_bound B80 ((List.range M.length).map (valM M)) (List.range M.length) (by simp) (by
    intro f hf d hd
    obtain ⟨i, hi, rfl⟩ := List.mem_map.1 hf
    exact (hg.2.2.2 i d (List.mem_range.1 hi) (List.mem_range.1 hd)).2)
  rw [List.length_map, List.length_range] at this
  exact Nat.lt_of_le_of_lt this (NB_top _ hg.1)

theorem swap_small {M : List Rw} {i j : Nat} (hs : SmallM M) (hg : GoodM M M.length) (hi : i < M.length) (hj : j < M.length) : SmallM (swapR M i j) := by
  refine small_of hs (by rw [swapR_len]; exact hg.1) (fun k hk => ?_)
  rw [swapR_len] at hk
  rw [swapR_at hi hj hk]
  have g6 := hg.1
  by_cases e : k = j
  · rw [if_pos e]; exact ⟨by rw [hg.2.2.1 i hi]; exact g6, fun x hx => ⟨i, hi, hx⟩⟩
  · rw [if_neg e]
    by_cases e2 : k = i
    · rw [if_pos e2]; exact ⟨by rw [hg.2.2.1 j hj]; exact g6, fun x hx => ⟨j, hj, hx⟩⟩
    · rw [if_neg e2]; exact ⟨by rw [hg.2.2.1 k hk]; exact g6, fun x hx => ⟨k, hk, hx⟩⟩
theorem turn_small {M N : List Rw} {n : Nat} (hT : TurnIs N M n) (hs : SmallM M) (hg : ∀ k, k < M.length → (rwAt M k).R.length = n) (hm6 : M.length ≤ 6) (hn6 : n ≤ 6) : SmallM N := by
  have hl := hT.1
  refine small_of hs (by omega) (fun j hj => ?_)
  rw [hT.2 j (by omega)]
  refine ⟨by rw [colOf_len]; exact hm6, fun x hx => ?_⟩
  unfold colOf at hx
  obtain ⟨c, hc, rfl⟩ := List.mem_map.1 hx
  have hc := List.mem_range.1 hc
  exact ⟨c, hc, nmAt_mem (by rw [hg c hc]; omega)⟩

end Go.Proofs.Ytnpogpoknbgodaa

