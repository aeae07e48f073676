/- Part 36 of the texts. -/
import Derived.Test.YtfnnbkclnflpfaaGreatDoorPartK22
import Derived.Test.YtfnnbkclnflpfaaGreatDoorPartK35
import Derived.Test.YtfnnbkclnflpfaaGreatDoorPartK34
import Derived.Test.YtfnnbkclnflpfaaGreatDoorPartK30
import Derived.Test.YtfnnbkclnflpfaaGreatDoorPartK29
import Derived.Test.YtfnnbkclnflpfaaGreatDoorPartK08
import Derived.Test.YtfnnbkclnflpfaaGreatDoorPartK31
import Derived.Deep.Cut
import Derived.Test.YtfnnbkclnflpfaaGreatDoorPartK33
/- Rows taken off crosswise, column by column: what stays true, and the rank at the end. No program. -/
namespace Go.Proofs.YtfnnbkclnflpfaaGreatDoor

/-- c columns are done, dn of them with a pivot. -/
def St (A a : Nat → Nat → Int) (m n c dn : Nat) : Prop :=
  (∀ k, Van k A m n ↔ Van k a m n) ∧ dn ≤ m ∧ ∃ P : List Nat, P.Pairwise (· < ·) ∧ (∀ p ∈ P, p < c) ∧ P.length = dn ∧ (∀ j, j < dn → a j (P[j]?.getD 0) ≠ 0) ∧ (∀ j i, j < dn → j < i → i < m → a i (P[j]?.getD 0) = 0) ∧ (∀ i, dn ≤ i → i < m → ∀ c', c' < c → a i c' = 0)

theorem St.start (A : Nat → Nat → Int) (m n : Nat) : St A A m n 0 0 :=
  ⟨fun _ => Iff.rfl, Nat.zero_le _, [], List.Pairwise.nil, by simp, rfl, fun j h => by omega, fun j i h => by omega, fun i _ _ c' h => by omega⟩

theorem St.none {A a : Nat → Nat → Int} {m n c dn : Nat} (h : St A a m n c dn) (hz : ∀ i, dn ≤ i → i < m → a i c = 0) : St A a m n (c + 1) dn := by
  obtain ⟨h1, h2, P, p1, p2, p3, p4, p5, p6⟩ := h
  refine ⟨h1, h2, P, p1, fun p hp => by have := p2 p hp; omega, p3, p4, p5, fun i hi hm c' hc => ?_⟩
  rcases Nat.lt_or_ge c' c with h | h
  · exact p6 i hi hm c' h
  · obtain rfl : c' = c := by omega
    exact hz i hi hm

def swF (a : Nat → Nat → Int) (x y : Nat) : Nat → Nat → Int := fun i => a (if i = y then x else if i = x then y else i)
def crF (s : Nat → Nat → Int) (d c : Nat) : Nat → Nat → Int := fun i c' => if i ≤ d ∨ s i c = 0 then s i c' else s i c' * s d c - s d c' * s i c

theorem van_sw {k m n x y : Nat} {a : Nat → Nat → Int} (hx : x < m) (hy : y < m) : Van k a m n ↔ Van k (swF a x y) m n := by
  have hin : ∀ i, i < m → (if i = y then x else if i = x then y else i) < m := fun i hi => by split <;> (try split) <;> omega
  refine ⟨fun h => van_perm (fun i => if i = y then x else if i = x then y else i) hin (fun i _ => rfl) h, fun h => van_perm (fun i => if i = y then x else if i = x then y else i) hin (fun i _ => ?_) h⟩
  unfold swF
  congr 1
  by_cases e1 : i = y
  · subst e1
    by_cases e2 : x = i
    · subst e2; simp
    · simp [e2]
  · by_cases e2 : i = x
    · subst e2; simp
    · simp [e1, e2]

theorem van_cr {k m n d c : Nat} {s : Nat → Nat → Int} (hd : d < m) (hp : s d c ≠ 0) : Van k s m n ↔ Van k (crF s d c) m n := by
  have hdd : ∀ c', crF s d c d c' = s d c' := fun c' => by unfold crF; rw [if_pos (.inl (Nat.le_refl _))]
  constructor
  · intro h
    refine van_rows hd (fun i => if i ≤ d ∨ s i c = 0 then 1 else s d c) (fun i => if i ≤ d ∨ s i c = 0 then 0 else - s i c) (fun i _ c' => ?_) h
    unfold crF
    by_cases e : i ≤ d ∨ s i c = 0
    · simp only [if_pos e]; omega
    · simp only [if_neg e]
      rw [Int.neg_mul, Int.mul_comm (s d c), Int.mul_comm (s i c) (s d c'), Int.sub_eq_add_neg]
  · intro h
    refine van_back hd (fun i => if i ≤ d ∨ s i c = 0 then 1 else s d c) (fun i => if i ≤ d ∨ s i c = 0 then 0 else s i c) (fun i _ c' => ?_) (fun i _ => ?_) h
    · rw [hdd]
      unfold crF
      by_cases e : i ≤ d ∨ s i c = 0
      · simp only [if_pos e]; omega
      · simp only [if_neg e]
        rw [Int.mul_comm (s d c), Int.mul_comm (s i c) (s d c')]
        omega
    · by_cases e : i ≤ d ∨ s i c = 0
      · simp only [if_pos e]; decide
      · simp only [if_neg e]; exact hp

theorem St.pivot {A a : Nat → Nat → Int} {m n c dn at' : Nat} (h : St A a m n c dn) (h1 : dn ≤ at') (h2 : at' < m) (h3 : a at' c ≠ 0) : St A (crF (swF a dn at') dn c) m n (c + 1) (dn + 1) := by
  obtain ⟨q1, q2, P, p1, p2, p3, p4, p5, p6⟩ := h
  have hsd : swF a dn at' dn = a at' := by
    unfold swF
    by_cases e : dn = at'
    · subst e; simp
    · simp [e]
  have hlow : ∀ j, j < dn → swF a dn at' j = a j := fun j hj => by
    unfold swF
    rw [if_neg (by omega), if_neg (by omega)]
  have hhi : ∀ i, dn ≤ i → i < m → ∃ i', dn ≤ i' ∧ i' < m ∧ swF a dn at' i = a i' := fun i hi hm => by
    unfold swF
    by_cases e1 : i = at'
    · exact ⟨dn, Nat.le_refl _, by omega, by rw [if_pos e1]⟩
    · by_cases e2 : i = dn
      · exact ⟨at', h1, h2, by rw [if_neg e1, if_pos e2]⟩
      · exact ⟨i, hi, hm, by rw [if_neg e1, if_neg e2]⟩
  have hpv : swF a dn at' dn c ≠ 0 := by rw [hsd]; exact h3
  have hvan : ∀ k, Van k A m n ↔ Van k (crF (swF a dn at') dn c) m n := fun k => (q1 k).trans ((van_sw (by omega) h2).trans (van_cr (by omega) hpv))
  generalize swF a dn at' = s at *
  have hcl : ∀ i, i ≤ dn → crF s dn c i = s i := fun i hi => by funext c'; unfold crF; rw [if_pos (.inl hi)]
  have hz : ∀ i, dn < i → i < m → ∀ c', s i c' = 0 → s dn c' = 0 → crF s dn c i c' = 0 := fun i _ _ c' e1 e2 => by
    unfold crF
    by_cases e : i ≤ dn ∨ s i c = 0
    · rw [if_pos e]; exact e1
    · rw [if_neg e, e1, e2]; simp
  have hzc : ∀ i, dn < i → crF s dn c i c = 0 := fun i hi => by
    unfold crF
    by_cases e : i ≤ dn ∨ s i c = 0
    · rw [if_pos e]; omega
    · rw [if_neg e, Int.mul_comm (s i c)]; omega
  have gl : ∀ j, j < dn → (P ++ [c])[j]?.getD 0 = P[j]?.getD 0 := fun j hj => by rw [List.getElem?_append_left (by omega)]
  have gd : (P ++ [c])[dn]?.getD 0 = c := by rw [← p3, List.getElem?_append_right (Nat.le_refl _)]; simp
  refine ⟨hvan, by omega, P ++ [c], ?_, ?_, by simp [p3], ?_, ?_, ?_⟩
  · rw [List.pairwise_append]
    exact ⟨p1, List.pairwise_singleton _ _, fun x hx y hy => by simp at hy; subst hy; exact p2 x hx⟩
  · intro p hp
    rcases List.mem_append.1 hp with hp | hp
    · have := p2 p hp; omega
    · simp at hp; omega
  · intro j hj
    rcases Nat.lt_or_ge j dn with h | h
    · rw [gl j h, hcl j (by omega), hlow j h]; exact p4 j h
    · obtain rfl : j = dn := by omega
      rw [gd, hcl j (Nat.le_refl _)]; exact hpv
  · intro j i hj hji him
    rcases Nat.lt_or_ge j dn with h | h
    · rw [gl j h]
      have hd0 : s dn (P[j]?.getD 0) = 0 := by rw [hsd]; exact p5 j at' h (by omega) h2
      rcases Nat.lt_or_ge dn i with hi | hi
      · obtain ⟨i', e1, e2, e3⟩ := hhi i (by omega) him
        exact hz i hi him _ (by rw [e3]; exact p5 j i' h (by omega) e2) hd0
      · rw [hcl i hi]
        rcases Nat.lt_or_ge i dn with h' | h'
        · rw [hlow i h']; exact p5 j i h hji him
        · obtain rfl : i = dn := by omega
          exact hd0
    · obtain rfl : j = dn := by omega
      rw [gd]; exact hzc i hji
  · intro i hi him c' hc'
    rcases Nat.lt_or_ge c' c with h | h
    · obtain ⟨i', e1, e2, e3⟩ := hhi i (by omega) him
      exact hz i (by omega) him c' (by rw [e3]; exact p6 i' e1 e2 c' h) (by rw [hsd]; exact p6 at' h1 h2 c' h)
    · obtain rfl : c' = c := by omega
      exact hzc i (by omega)

theorem St.rank {A a : Nat → Nat → Int} {m n dn : Nat} (h : St A a m n n dn) : IsRank dn A m n := by
  obtain ⟨q1, q2, P, p1, p2, p3, p4, p5, p6⟩ := h
  have := rank_stairs (a := a) P ⟨p1, p2⟩ (by omega) (fun j hj => p4 j (by omega)) (fun j i hj => p5 j i (by omega)) (fun i hi => p6 i (by omega))
  rw [p3] at this
  exact ⟨fun hv => this.1 ((q1 _).1 hv), (q1 _).2 this.2⟩

end Go.Proofs.YtfnnbkclnflpfaaGreatDoor

/- Rows in a block of the call's own, row by row overwritten, and what they are (for the reference's Rank). -/
namespace Go.Proofs.YtfnnbkclnflpfaaGreatDoor
open Go.RowKit

/-- How many digits the numbers have behind c columns. -/
def KK : Nat → Nat
  | 0 => 2098
  | c + 1 => 2 * KK c + 1
theorem KK_le : ∀ c : Fin 6, KK c.val ≤ 67167 := by decide

/-- Block g holds the rows N, of the numbers a. -/
def NxAt (w W : World) (g cp m n K : Nat) (N : List Rw) (a : Nat → Nat → Int) : Prop :=
  N.length = m ∧ w.heap.size ≤ g ∧ m ≤ cp ∧ (∃ cur, W.heap[g]? = some (.cells cur 87 (0, 0)) ∧ ∀ i, i < m → cur[i]? = some (rwAt N i).v) ∧
  (∀ i, i < m → NumsAt W (rwAt N i).ao (rwAt N i).cap (rwAt N i).R ∧ AvR (some g) (rwAt N i) ∧ (rwAt N i).R.length = n ∧ ∀ c, c < n → IsNm W (nmAt (rwAt N i).R c) (a i c) ∧ (a i c).natAbs < 2 ^ K) ∧ Below w.heap.size w W

theorem NxAt.below {w W W' : World} {g cp m n K : Nat} {N : List Rw} {a : Nat → Nat → Int} (h : NxAt w W g cp m n K N a) (hb : Below W.heap.size W W') : NxAt w W' g cp m n K N a := by
  obtain ⟨h1, h2, h3, ⟨cur, h4, h5⟩, h6, h7⟩ := h
  have hg : g < W.heap.size := (Array.getElem?_eq_some_iff.1 h4).1
  exact ⟨h1, h2, h3, ⟨cur, (hb.block g hg).trans h4, h5⟩, fun i hi => ⟨(h6 i hi).1.below hb, (h6 i hi).2.1, (h6 i hi).2.2.1, fun c hc => ⟨((h6 i hi).2.2.2 c hc).1.below hb, ((h6 i hi).2.2.2 c hc).2⟩⟩, h7.trans (hb.mono h7.size)⟩

theorem NxAt.congr {w W : World} {g cp m n K K' : Nat} {N : List Rw} {a a' : Nat → Nat → Int} (h : NxAt w W g cp m n K N a) (he : ∀ i, i < m → a i = a' i) (hK : K ≤ K') : NxAt w W g cp m n K' N a' := by
  obtain ⟨h1, h2, h3, h4, h6, h7⟩ := h
  exact ⟨h1, h2, h3, h4, fun i hi => ⟨(h6 i hi).1, (h6 i hi).2.1, (h6 i hi).2.2.1, fun c hc => by
    rw [← he i hi]
    exact ⟨((h6 i hi).2.2.2 c hc).1, Nat.lt_of_lt_of_le ((h6 i hi).2.2.2 c hc).2 (Nat.pow_le_pow_right (by decide) hK)⟩⟩, h7⟩

theorem NxAt.cell {w W : World} {g cp m n K : Nat} {N : List Rw} {a : Nat → Nat → Int} (h : NxAt w W g cp m n K N a) {i : Nat} (hi : i < m) : W.cell? ⟨g, i, none⟩ = some (.slice (rwAt N i).ao (rwAt N i).R.length (rwAt N i).cap) := by
  obtain ⟨h1, h2, h3, ⟨cur, h4, h5⟩, h6, h7⟩ := h
  rw [cell_of_row W g i _ _ _ h4, h5 i hi]; rfl
theorem NxAt.free {w W : World} {g cp m n K : Nat} {N : List Rw} {a : Nat → Nat → Int} (h : NxAt w W g cp m n K N a) (i : Nat) : W.frozen? ⟨g, i, none⟩ = false := by
  obtain ⟨h1, h2, h3, ⟨cur, h4, h5⟩, h6, h7⟩ := h
  exact frozen_of_row W g i _ _ h4
theorem NxAt.lt {w W : World} {g cp m n K : Nat} {N : List Rw} {a : Nat → Nat → Int} (h : NxAt w W g cp m n K N a) : g < W.heap.size := by
  obtain ⟨h1, h2, h3, ⟨cur, h4, h5⟩, h6, h7⟩ := h
  exact (Array.getElem?_eq_some_iff.1 h4).1

theorem NxAt.mat {w W : World} {g cp m n K : Nat} {N : List Rw} {a : Nat → Nat → Int} (h : NxAt w W g cp m n K N a) : MatAt W (some ⟨g, 0, none⟩) cp N := by
  refine ⟨by have := h.1; have := h.2.2.1; omega, fun r hr => ?_, .inr ⟨g, 0, rfl, h.lt, fun i hi => ?_⟩⟩
  · obtain ⟨j, hj, rfl⟩ := List.getElem_of_mem hr
    have e : rwAt N j = N[j] := by unfold rwAt; rw [List.getElem?_eq_getElem hj]; rfl
    have := (h.2.2.2.2.1 j (by rw [← h.1]; exact hj)).1
    rwa [e] at this
  · rw [Nat.zero_add]; exact h.cell (by rw [← h.1]; exact hi)

theorem LimbsAt.apart {w : World} {ao : Option Addr} {cap g : Nat} {L : List Nat} (h : LimbsAt w ao cap L) (ha : L = [] ∨ ∃ b off, ao = some ⟨b, off, none⟩ ∧ some b ≠ some g) (i : Nat) (u : Value) : LimbsAt (w.setCell ⟨g, i, none⟩ u) ao cap L := by
  refine ⟨h.1, h.2.1, ?_⟩
  rcases h.2.2 with e | ⟨b, off, e, h2, h3⟩
  · exact .inl e
  · rcases ha with e' | ⟨b', off', e', hne⟩
    · exact .inl e'
    · rw [e] at e'
      simp only [Option.some.injEq, Addr.mk.injEq, and_true] at e'
      obtain ⟨rfl, rfl⟩ := e'
      have hbg : b ≠ g := fun e => hne (by rw [e])
      refine .inr ⟨b, off, e, by simpa [World.setCell] using h2, fun k hk => ?_⟩
      rw [cell_setCell_other _ _ _ _ (show b ≠ g from hbg)]
      exact h3 k hk

theorem NumsAt.apart {w : World} {r : Rw} {g : Nat} (h : NumsAt w r.ao r.cap r.R) (ha : AvR (some g) r) (i : Nat) (u : Value) : NumsAt (w.setCell ⟨g, i, none⟩ u) r.ao r.cap r.R := by
  refine ⟨h.1, fun x hx => (h.2.1 x hx).apart (ha.2 x hx) i u, ?_⟩
  rcases h.2.2 with e | ⟨b, off, e, h2, h3⟩
  · exact .inl e
  · rcases ha.1 with e' | ⟨b', off', e', hne⟩
    · exact .inl e'
    · rw [e] at e'
      simp only [Option.some.injEq, Addr.mk.injEq, and_true] at e'
      obtain ⟨rfl, rfl⟩ := e'
      have hbg : b ≠ g := fun e => hne (by rw [e])
      refine .inr ⟨b, off, e, by simpa [World.setCell] using h2, fun k hk => ?_⟩
      rw [cell_setCell_other _ _ _ _ (show b ≠ g from hbg), cell_setCell_other _ _ _ _ (show b ≠ g from hbg)]
      exact h3 k hk

theorem NxAt.store {w W : World} {g cp m n K : Nat} {N : List Rw} {a : Nat → Nat → Int} (h : NxAt w W g cp m n K N a) {i : Nat} (hi : i < m) (r : Rw) (f : Nat → Int) (hr : NumsAt W r.ao r.cap r.R) (ha : AvR (some g) r) (hl : r.R.length = n) (hv : ∀ c, c < n → IsNm W (nmAt r.R c) (f c) ∧ (f c).natAbs < 2 ^ K) :
    NxAt w (W.setCell ⟨g, i, none⟩ (.slice r.ao r.R.length r.cap)) g cp m n K (N.set i r) (fun j => if j = i then f else a j) := by
  obtain ⟨h1, h2, h3, ⟨cur, h4, h5⟩, h6, h7⟩ := h
  refine ⟨by simpa using h1, h2, h3, ⟨_, heap_setCell_same W g i _ _ _ h4, fun j hj => ?_⟩, fun j hj => ?_, h7.setCell (p := ⟨g, i, none⟩) h2 _⟩
  · by_cases e : j = i
    · subst e
      have hjc : j < cur.size := by have := h5 j hj; exact (Array.getElem?_eq_some_iff.1 this).1
      have e2 : rwAt (N.set j r) j = r := by unfold rwAt; rw [List.getElem?_set_self (by omega)]; rfl
      rw [e2]
      simp [hjc, Rw.v]
    · have e2 : rwAt (N.set i r) j = rwAt N j := by unfold rwAt; rw [List.getElem?_set_ne (fun h => e h.symm)]
      rw [e2]
      rw [Array.getElem?_setIfInBounds_ne (fun h => e h.symm)]
      exact h5 j hj
  · show _ ∧ _ ∧ _ ∧ ∀ c, c < n → IsNm _ _ ((if j = i then f else a j) c) ∧ ((if j = i then f else a j) c).natAbs < _
    by_cases e : j = i
    · subst e
      have e2 : rwAt (N.set j r) j = r := by unfold rwAt; rw [List.getElem?_set_self (by omega)]; rfl
      rw [e2, if_pos rfl]
      exact ⟨hr.apart ha _ _, ha, hl, fun c hc => ⟨⟨(hv c hc).1.1.apart (ha.2 _ (nmAt_mem (by omega))) _ _, (hv c hc).1.2⟩, (hv c hc).2⟩⟩
    · have e2 : rwAt (N.set i r) j = rwAt N j := by unfold rwAt; rw [List.getElem?_set_ne (fun h => e h.symm)]
      rw [e2, if_neg e]
      obtain ⟨q1, q2, q3, q4⟩ := h6 j hj
      exact ⟨q1.apart q2 _ _, q2, q3, fun c hc => ⟨⟨(q4 c hc).1.1.apart (q2.2 _ (nmAt_mem (by omega))) _ _, (q4 c hc).1.2⟩, (q4 c hc).2⟩⟩

/-- A copy, by append. -/
theorem NxAt.copied {w W W2 : World} {v : Value} {m n K : Nat} {N : List Rw} {a : Nat → Nat → Int} (hm : 0 < m) (hl : N.length = m) (hb : Below w.heap.size w W) (hN : ∀ i, i < m → NumsAt W (rwAt N i).ao (rwAt N i).cap (rwAt N i).R ∧ (rwAt N i).R.length = n ∧ ∀ c, c < n → IsNm W (nmAt (rwAt N i).R c) (a i c) ∧ (a i c).natAbs < 2 ^ K)
    (ho : W2.ownsRow W.heap.size 87 1 v (0 + m) ([] ++ N.map Rw.v)) (hb2 : Below W.heap.size W W2) :
    ∃ g cp, v = .slice (some ⟨g, 0, none⟩) m cp ∧ NxAt w W2 g cp m n K N a ∧ W.heap.size ≤ g := by
  rcases ho.2 with ⟨_, hz⟩ | ⟨g, cp, cur, hv, hg, hh, hc, hm', hs, ht⟩
  · omega
  · refine ⟨g, cp, by rw [hv, Nat.zero_add], ⟨hl, Nat.le_trans hb.size hg, by omega, ⟨cur, hh, fun i hi => ?_⟩, fun i hi => ?_, hb.trans (hb2.mono hb.size)⟩, hg⟩
    · have q1 : (N.map Rw.v)[i]? = some (rwAt N i).v := by
        rw [List.getElem?_map]
        unfold rwAt
        rw [List.getElem?_eq_getElem (by omega)]; rfl
      rw [List.nil_append] at ht
      rw [← ht, List.getElem?_take, if_pos (by omega)] at q1
      simpa using q1
    · obtain ⟨q1, q2, q3⟩ := hN i hi
      exact ⟨q1.below hb2, AvR.new q1 hg, q2, fun c hc => ⟨(q3 c hc).1.below hb2, (q3 c hc).2⟩⟩

end Go.Proofs.YtfnnbkclnflpfaaGreatDoor

/- Rows of the call's own: exchanged, taken off crosswise (for the reference's Rank). -/
namespace Go.Proofs.YtfnnbkclnflpfaaGreatDoor
open Go.RowKit
attribute [local go_sem ↓] Go.wp_at_zero Go.wp_at_succ

theorem lt_TOPk {v k : Nat} (h : v < 2 ^ k) (hk : k ≤ 32 * TOPRN) : v < TOPR := by
  have e : TOPR = 2 ^ (32 * TOPRN) := by unfold TOPR; rw [show (4294967296 : Nat) = 2 ^ 32 by decide, ← Nat.pow_mul]
  rw [e]
  exact Nat.lt_of_lt_of_le h (Nat.pow_le_pow_right (by decide) hk)

theorem KK_two (c : Nat) (h : c ≤ 5) : 2 * KK c ≤ 32 * TOPRN := by
  have := KK_le ⟨c, by omega⟩
  have h2 : KK c ≤ 67167 := this
  unfold TOPRN
  omega
theorem KK_mono (c : Nat) : KK c ≤ KK (c + 1) := by show KK c ≤ 2 * KK c + 1; omega

theorem mul_KK {x y : Int} {K : Nat} (h1 : x.natAbs < 2 ^ K) (h2 : y.natAbs < 2 ^ K) : (x * y).natAbs < 2 ^ (2 * K) := by
  rw [Int.natAbs_mul, show 2 * K = K + K by omega, Nat.pow_add]
  rcases Nat.eq_zero_or_pos x.natAbs with e | e
  · rw [e, Nat.zero_mul]; exact Nat.mul_pos (Nat.two_pow_pos _) (Nat.two_pow_pos _)
  · exact Nat.lt_of_lt_of_le (Nat.mul_lt_mul_of_pos_left h2 e) (Nat.mul_le_mul_right _ (Nat.le_of_lt h1))
theorem cross_KK {x y z u : Int} {c : Nat} (h1 : x.natAbs < 2 ^ KK c) (h2 : y.natAbs < 2 ^ KK c) (h3 : z.natAbs < 2 ^ KK c) (h4 : u.natAbs < 2 ^ KK c) : (x * y - z * u).natAbs < 2 ^ KK (c + 1) := by
  have a := mul_KK h1 h2
  have b := mul_KK h3 h4
  show _ < 2 ^ (2 * KK c + 1)
  rw [Nat.pow_succ]
  omega

theorem IsNm.ofRight {w : World} {x : Nm} (h : LimbsAt w x.ao x.cap x.L) (hr : rightB x.neg x.L = true) : IsNm w x (sval x.neg x.L) := by
  have hc := right_canon hr
  refine ⟨h, hc.2.1, ?_, (natAbs_sval _ _).symm, by omega⟩
  cases hn : x.neg
  · unfold sval; simp
  · have hv : val x.L ≠ 0 := fun e => hc.2.2 hn ((val_zero_of_canon x.L hc.2.1).1 e)
    unfold sval
    simp; omega

theorem IsNm.nil_iff {w : World} {x : Nm} {z : Int} (h : IsNm w x z) : x.L.length = 0 ↔ z = 0 := by
  constructor
  · intro e
    have e2 : x.L = [] := List.length_eq_zero_iff.1 e
    have := h.2.2.2.1
    rw [e2] at this
    simp [val] at this
    omega
  · intro e
    have := h.2.2.2.1
    rw [e] at this
    have h0 : x.L = [] := (val_zero_of_canon x.L h.2.1).1 (by simpa using this)
    rw [h0]; rfl

theorem NxAt.swap {w W : World} {g cp g2 cp2 m n K dn p : Nat} {N : List Rw} {a : Nat → Nat → Int} (h : NxAt w W g2 cp2 m n K N a) (ho : NxAt w W g cp m n K N a) (hne : g ≠ g2) (hd : dn < m) (hp : p < m) :
    (W.setCell ⟨g2, dn, none⟩ (.slice (rwAt N p).ao (rwAt N p).R.length (rwAt N p).cap)).cell? ⟨g, dn, none⟩ = some (.slice (rwAt N dn).ao (rwAt N dn).R.length (rwAt N dn).cap) ∧ (∃ u, (W.setCell ⟨g2, dn, none⟩ (.slice (rwAt N p).ao (rwAt N p).R.length (rwAt N p).cap)).cell? ⟨g2, p, none⟩ = some u) ∧ (W.setCell ⟨g2, dn, none⟩ (.slice (rwAt N p).ao (rwAt N p).R.length (rwAt N p).cap)).frozen? ⟨g2, p, none⟩ = false ∧
    NxAt w ((W.setCell ⟨g2, dn, none⟩ (.slice (rwAt N p).ao (rwAt N p).R.length (rwAt N p).cap)).setCell ⟨g2, p, none⟩ (.slice (rwAt N dn).ao (rwAt N dn).R.length (rwAt N dn).cap)) g2 cp2 m n K ((N.set dn (rwAt N p)).set p (rwAt N dn)) (swF a dn p) := by
  have q1 := h.2.2.2.2.1 p hp
  have q2 := h.2.2.2.2.1 dn hd
  have s1 := h.store hd (rwAt N p) (a p) q1.1 q1.2.1 q1.2.2.1 q1.2.2.2
  refine ⟨?_, ⟨_, s1.cell hp⟩, s1.free p, ?_⟩
  · rw [cell_setCell_other _ _ _ _ (show g ≠ g2 from hne)]
    exact ho.cell hd
  · refine (s1.store hp (rwAt N dn) (a dn) (q2.1.apart q2.2.1 _ _) q2.2.1 q2.2.2.1 (fun c hc => ⟨⟨(q2.2.2.2 c hc).1.1.apart (q2.2.1.2 _ (nmAt_mem (by rw [q2.2.2.1]; exact hc))) _ _, (q2.2.2.2 c hc).1.2⟩, (q2.2.2.2 c hc).2⟩)).congr (fun j _ => ?_) (Nat.le_refl _)
    unfold swF
    by_cases e1 : j = p
    · simp [e1]
    · by_cases e2 : j = dn
      · subst e2; simp [e1]
      · simp [e1, e2]

theorem NxAt.facts {w W : World} {g cp m n K i dn c : Nat} {N : List Rw} {a : Nat → Nat → Int} (h : NxAt w W g cp m n K N a) (hi : i < m) (hd : dn < m) (hne : dn ≠ i) (hc : c < n) :
    ∃ bd od cd bi oi ci Rd Ri nd ad kd Ld ni ai ki Li, rwAt N dn = ⟨some ⟨bd, od, none⟩, cd, Rd⟩ ∧ rwAt N i = ⟨some ⟨bi, oi, none⟩, ci, Ri⟩ ∧ Rd.length = n ∧ Ri.length = n ∧ nmAt Rd c = ⟨nd, ad, kd, Ld⟩ ∧ nmAt Ri c = ⟨ni, ai, ki, Li⟩ ∧
    ∀ w', Below W.heap.size W w' → (w'.cell? ⟨g, dn, none⟩ = some (.slice (some ⟨bd, od, none⟩) n cd) ∧ w'.cell? ⟨bd, od + c * 2, none⟩ = some (.bool nd) ∧ w'.cell? ⟨bd, od + c * 2 + 1, none⟩ = some (.slice ad Ld.length kd) ∧ w'.cell? ⟨bi, oi + c * 2, none⟩ = some (.bool ni) ∧ w'.cell? ⟨bi, oi + c * 2 + 1, none⟩ = some (.slice ai Li.length ki)) ∧ w'.cell? ⟨g, i, none⟩ = some (.slice (some ⟨bi, oi, none⟩) n ci) ∧ w'.frozen? ⟨g, i, none⟩ = false ∧
      ∀ u, (w'.setCell ⟨g, i, none⟩ u).cell? ⟨g, dn, none⟩ = some (.slice (some ⟨bd, od, none⟩) n cd) ∧ (w'.setCell ⟨g, i, none⟩ u).cell? ⟨bd, od + c * 2, none⟩ = some (.bool nd) ∧ (w'.setCell ⟨g, i, none⟩ u).cell? ⟨bd, od + c * 2 + 1, none⟩ = some (.slice ad Ld.length kd) ∧ (w'.setCell ⟨g, i, none⟩ u).cell? ⟨bi, oi + c * 2, none⟩ = some (.bool ni) ∧ (w'.setCell ⟨g, i, none⟩ u).cell? ⟨bi, oi + c * 2 + 1, none⟩ = some (.slice ai Li.length ki) := by
  obtain ⟨q1, q2, q3, q4⟩ := h.2.2.2.2.1 dn hd
  obtain ⟨r1, r2, r3, r4⟩ := h.2.2.2.2.1 i hi
  have k1 := h.cell hd
  have k2 := h.cell hi
  have hgl := h.lt
  have hfr := fun w' (hb : Below W.heap.size W w') => (h.below hb).free i
  generalize rwAt N dn = rd at *
  generalize rwAt N i = ri at *
  obtain ⟨ad, cd, Rd⟩ := rd
  obtain ⟨ai, ci, Ri⟩ := ri
  simp only at q1 q3 q4 r1 r3 r4 k1 k2
  obtain ⟨bd, od, rfl, hbd, hcd⟩ := q1.ne (by omega)
  obtain ⟨bi, oi, rfl, hbi, hci⟩ := r1.ne (by omega)
  have d1 := hcd c (by omega)
  have d2 := hci c (by omega)
  have nbd : bd ≠ g := by
    rcases q2.1 with e | ⟨b', o', e, hx⟩
    · exact absurd (congrArg List.length e) (by simp only [List.length_nil]; omega)
    · simp only [Option.some.injEq, Addr.mk.injEq, and_true] at e
      exact fun e2 => hx (by rw [← e.1, e2])
  have nbi : bi ≠ g := by
    rcases r2.1 with e | ⟨b', o', e, hx⟩
    · exact absurd (congrArg List.length e) (by simp only [List.length_nil]; omega)
    · simp only [Option.some.injEq, Addr.mk.injEq, and_true] at e
      exact fun e2 => hx (by rw [← e.1, e2])
  obtain ⟨xd, hxd⟩ : ∃ x, nmAt Rd c = x := ⟨_, rfl⟩
  obtain ⟨xi, hxi⟩ : ∃ x, nmAt Ri c = x := ⟨_, rfl⟩
  rw [hxd] at d1
  rw [hxi] at d2
  obtain ⟨nd, ad, kd, Ld⟩ := xd
  obtain ⟨ni, ai, ki, Li⟩ := xi
  simp only at d1 d2
  rw [q3] at k1
  rw [r3] at k2
  refine ⟨bd, od, cd, bi, oi, ci, Rd, Ri, nd, ad, kd, Ld, ni, ai, ki, Li, rfl, rfl, q3, r3, hxd, hxi, fun w' hb => ?_⟩
  have e1 := (hb.cell (p := ⟨g, dn, none⟩) hgl).trans k1
  have e2 := (hb.cell (p := ⟨bd, od + c * 2, none⟩) hbd).trans d1.1
  have e3 := (hb.cell (p := ⟨bd, od + c * 2 + 1, none⟩) hbd).trans d1.2
  have e4 := (hb.cell (p := ⟨bi, oi + c * 2, none⟩) hbi).trans d2.1
  have e5 := (hb.cell (p := ⟨bi, oi + c * 2 + 1, none⟩) hbi).trans d2.2
  refine ⟨⟨e1, e2, e3, e4, e5⟩, (hb.cell (p := ⟨g, i, none⟩) hgl).trans k2, hfr w' hb, fun u => ⟨?_, ?_, ?_, ?_, ?_⟩⟩
  · rw [World.cell?_setCell_other _ _ _ _ (by intro e; simp only [Addr.mk.injEq] at e; omega)]; exact e1
  · rw [cell_setCell_other _ _ _ _ (show bd ≠ g from nbd)]; exact e2
  · rw [cell_setCell_other _ _ _ _ (show bd ≠ g from nbd)]; exact e3
  · rw [cell_setCell_other _ _ _ _ (show bi ≠ g from nbi)]; exact e4
  · rw [cell_setCell_other _ _ _ _ (show bi ≠ g from nbi)]; exact e5

/-- Row i is what less has made. -/
theorem NxAt.made {w W W' : World} {g cp m n c dn i cap : Nat} {N : List Rw} {s : Nat → Nat → Int} {ao : Option Addr} {R : List Nm} (h : NxAt w W g cp m n (KK (c + 1)) N (fun j => if j < i then crF s dn c j else s j)) (hb : Below W.heap.size W W') (hi : i < m) (hdi : dn < i) (hc : c < n) (hS : ∀ j, j < m → ∀ q, q < n → (s j q).natAbs < 2 ^ KK c) (hz : s i c ≠ 0)
    (hr : NumsAt W' ao cap R) (hn : NewAt W.heap.size ao (R.map (fun _ => 0))) (hl : R.length = n) (hv : ∀ q, q < n → IsNm W' (nmAt R q) (s i q * s dn c - s dn q * s i c)) (hw : ∀ z ∈ R, NewAt W.heap.size z.ao z.L) :
    NxAt w (W'.setCell ⟨g, i, none⟩ (.slice ao n cap)) g cp m n (KK (c + 1)) (N.set i ⟨ao, cap, R⟩) (fun j => if j < i + 1 then crF s dn c j else s j) := by
  have hg := h.lt
  have hav : AvR (some g) ⟨ao, cap, R⟩ := by
    refine ⟨?_, fun z hz => Av.old (hw z hz) (fun m hm => by cases hm; exact hg)⟩
    rcases hn with e | ⟨b, off, e, hbb⟩
    · exact .inl (List.map_eq_nil_iff.1 e)
    · exact .inr ⟨b, off, e, fun e2 => by simp only [Option.some.injEq] at e2; omega⟩
  have := (h.below hb).store hi ⟨ao, cap, R⟩ (fun q => s i q * s dn c - s dn q * s i c) hr hav hl (fun q hq => ⟨hv q hq, cross_KK (hS i hi q hq) (hS dn (by omega) c hc) (hS dn (by omega) q hq) (hS i hi c hc)⟩)
  simp only [hl] at this
  refine this.congr (fun j hj => ?_) (Nat.le_refl _)
  by_cases e : j = i
  · subst e
    rw [if_pos rfl, if_pos (by omega)]
    funext q
    unfold crF
    rw [if_neg (by omega)]
  · rw [if_neg e]
    by_cases e2 : j < i
    · rw [if_pos e2, if_pos (by omega)]
    · rw [if_neg e2, if_neg (by omega)]

theorem NxAt.zeroed {w W : World} {g cp m n c dn i K : Nat} {N : List Rw} {s : Nat → Nat → Int} (h : NxAt w W g cp m n K N (fun j => if j < i then crF s dn c j else s j)) (hz : s i c = 0) : NxAt w W g cp m n K N (fun j => if j < i + 1 then crF s dn c j else s j) := by
  refine h.congr (fun j hj => ?_) (Nat.le_refl _)
  by_cases e : j = i
  · subst e
    rw [if_neg (by omega), if_pos (by omega)]
    funext q
    unfold crF
    rw [if_pos (.inr hz)]
  · by_cases e2 : j < i
    · rw [if_pos e2, if_pos (by omega)]
    · rw [if_neg e2, if_neg (by omega)]

theorem NxAt.begin {w W : World} {g cp m n c dn : Nat} {N : List Rw} {s : Nat → Nat → Int} (h : NxAt w W g cp m n (KK c) N s) : NxAt w W g cp m n (KK (c + 1)) N (fun j => if j < dn + 1 then crF s dn c j else s j) := by
  refine h.congr (fun j hj => ?_) (KK_mono c)
  by_cases e : j < dn + 1
  · rw [if_pos e]
    funext q
    unfold crF
    rw [if_pos (.inl (by omega))]
  · rw [if_neg e]

end Go.Proofs.YtfnnbkclnflpfaaGreatDoor

/- Contract of the reference's Rank. -/
namespace Go.Proofs.YtfnnbkclnflpfaaGreatDoor
open Go.RowKit
attribute [local go_sem ↓] Go.wp_at_zero Go.wp_at_succ

theorem NxAt.lessCall {w W : World} {g cp m n c dn i bd od cd bi oi ci kd ki : Nat} {N : List Rw} {s : Nat → Nat → Int} {Rd Ri : List Nm} {nd ni : Bool} {ad ai : Option Addr} {Ld Li : List Nat} (h : NxAt w W g cp m n (KK (c + 1)) N (fun j => if j < i then crF s dn c j else s j)) (hi : i < m) (hdi : dn < i) (hc : c < n) (hn6 : n ≤ 6) (hS : ∀ j, j < m → ∀ q, q < n → (s j q).natAbs < 2 ^ KK c) (hz : s i c ≠ 0)
    (hrd : rwAt N dn = ⟨some ⟨bd, od, none⟩, cd, Rd⟩) (hri : rwAt N i = ⟨some ⟨bi, oi, none⟩, ci, Ri⟩) (hxd : nmAt Rd c = ⟨nd, ad, kd, Ld⟩) (hxi : nmAt Ri c = ⟨ni, ai, ki, Li⟩) (W' : World) (hb : Below W.heap.size W W') :
    Calls Tryz.prog 117 #[.slice (some ⟨bi, oi, none⟩) n ci, .agg #[.bool nd, .slice ad Ld.length kd], .slice (some ⟨bd, od, none⟩) n cd, .agg #[.bool ni, .slice ai Li.length ki]] W' fun e w' => ∃ ao cap R, e = .returned (.slice ao n cap) ∧ Hid (NxAt w (w'.setCell ⟨g, i, none⟩ (.slice ao n cap)) g cp m n (KK (c + 1)) (N.set i ⟨ao, cap, R⟩) (fun j => if j < i + 1 then crF s dn c j else s j)) ∧ Below W.heap.size W w' := by
  have h' := h.below hb
  obtain ⟨q1, q2, q3, q4⟩ := h'.2.2.2.2.1 dn (by omega)
  obtain ⟨r1, r2, r3, r4⟩ := h'.2.2.2.2.1 i hi
  rw [hrd] at q1 q3 q4
  rw [hri] at r1 r3 r4
  simp only at q1 q3 q4 r1 r3 r4
  have ed : crF s dn c dn = s dn := by funext q; unfold crF; rw [if_pos (.inl (Nat.le_refl _))]
  rw [if_pos hdi, ed] at q4
  rw [if_neg (Nat.lt_irrefl _)] at r4
  have k5 := KK_two c (by omega)
  have x1 := (q4 c hc).1
  have x2 := (r4 c hc).1
  rw [hxd] at x1
  rw [hxi] at x2
  refine (less_any bi oi ci bd od cd n Ri Rd ⟨nd, ad, kd, Ld⟩ ⟨ni, ai, ki, Li⟩ (s i) (s dn) (s dn c) (s i c) W' r1 q1 r3 q3 (by omega) hn6 (fun q hq => (r4 q hq).1) (fun q hq => (q4 q hq).1) x1 x2 (fun q hq => ⟨lt_TOPk (hS i hi q hq) (by omega), lt_TOPk (hS dn (by omega) q hq) (by omega), lt_TOPk (mul_KK (hS i hi q hq) (hS dn (by omega) c hc)) k5, lt_TOPk (mul_KK (hS dn (by omega) q hq) (hS i hi c hc)) k5⟩) (lt_TOPk (hS dn (by omega) c hc) (by omega)) (lt_TOPk (hS i hi c hc) (by omega))).mono ?_
  rintro e w' ⟨ao, cap, R, rfl, t1, t2, t3, t4, t5, t6⟩
  have hB := hb.trans (t6.mono hb.size)
  exact ⟨ao, cap, R, rfl, hide (h.made hB hi hdi hc hS hz t1 (t2.mono (by have := hb.size; omega)) t3 t4 (fun z hz => (t5 z hz).mono hb.size)), hB⟩

theorem NxAt.nil_iff {w W : World} {g cp m n c dn i bi oi ci ki K : Nat} {N : List Rw} {s : Nat → Nat → Int} {Ri : List Nm} {ni : Bool} {ai : Option Addr} {Li : List Nat} (h : NxAt w W g cp m n K N (fun j => if j < i then crF s dn c j else s j)) (hi : i < m) (hc : c < n) (hri : rwAt N i = ⟨some ⟨bi, oi, none⟩, ci, Ri⟩) (hxi : nmAt Ri c = ⟨ni, ai, ki, Li⟩) : Li.length = 0 ↔ s i c = 0 := by
  have x := ((h.2.2.2.2.1 i hi).2.2.2 c hc).1
  rw [hri] at x
  simp only [hxi] at x
  rw [if_neg (Nat.lt_irrefl _)] at x
  exact x.nil_iff

set_option maxHeartbeats 16000000 in
set_option maxRecDepth 20000 in
theorem refRank_any (b off cap : Nat) (M : List Rw) (n : Nat) (w : World) (h : MatAt w (some ⟨b, off, none⟩) cap M) (hs : SmallM M) (hg : GoodM M n) (hw : width M = n) (hm0 : 0 < M.length) (hl4 : ∀ i c, i < M.length → c < n → (valM M i c).natAbs < 2 ^ KK 0) :
    Calls Tryz.prog 70 #[.slice (some ⟨b, off, none⟩) M.length cap] w fun e w' => (∃ k : Nat, e = .returned (.int .i64 k) ∧ Hid (IsRank k (valM M) M.length n)) ∧ Below w.heap.size w w' := by
  obtain ⟨j0, hj0, hy0, hy1, hy2⟩ := info_parts infoRow
  have CW := hide (fun w' h' => refWidth_any (some ⟨b, off, none⟩) cap M w' h' hs)
  rw [hw] at CW
  have hm6 := hg.1
  have hn6 := hg.2.1
  obtain ⟨b', off', e', hbb, hcc⟩ := h.ne hm0
  simp only [Option.some.injEq, Addr.mk.injEq, and_true] at e'
  obtain ⟨rfl, rfl⟩ := e'
  have HV := hide (fun i (hi : i < M.length) => (show NumsAt w (rwAt M i).ao (rwAt M i).cap (rwAt M i).R ∧ (rwAt M i).R.length = n ∧ ∀ c, c < n → IsNm w (nmAt (rwAt M i).R c) (valM M i c) ∧ (valM M i c).natAbs < 2 ^ KK 0 from
    ⟨h.nums hi, hg.2.2.1 i hi, fun c hc => ⟨IsNm.ofRight ((h.nums hi).limbs (by rw [hg.2.2.1 i hi]; exact hc)) (hg.2.2.2 i c hi hc).1, hl4 i c hi hc⟩⟩))
  obtain ⟨ml, hml⟩ : ∃ ml, M.length = ml := ⟨_, rfl⟩
  have HL := hide hml; have HM := hide h
  rw [hml] at CW hm6 hm0 ⊢
  have hbA : Below w.heap.size w (w.alloc (.cells #[] 87)) := (Below.refl _ _).alloc (Nat.le_refl _) _
  have NEWS := hide (show ∀ j u, (M.map Rw.v)[j]? = some u → (w.alloc (.cells #[] 87)).cell? ((⟨b, off, none⟩ : Addr).add j) = some u from fun j u hu => by
    rw [List.getElem?_map] at hu
    cases hm : M[j]? with
    | none => rw [hm] at hu; cases hu
    | some r =>
      rw [hm] at hu
      have hjl : j < M.length := (List.getElem?_eq_some_iff.1 hm).1
      have hcj := hcc j hjl
      have er : rwAt M j = r := by unfold rwAt; rw [hm]; rfl
      rw [er] at hcj
      rw [show (⟨b, off, none⟩ : Addr).add j = ⟨b, off + j, none⟩ by simp [Addr.add]]
      rw [hbA.cell (p := ⟨b, off + j, none⟩) hbb, hcj]
      exact hu)
  have ONE := hide (show ∀ (N : List Rw), ∀ u ∈ N.map Rw.v, u.oneCell' = true from fun N u hu => by
    obtain ⟨r, _, rfl⟩ := List.mem_map.1 hu
    rfl)
  have OWN := hide (show (w.alloc (.cells #[] 87)).ownsRow w.heap.size 87 1 (.slice (some ⟨w.heap.size, 0, none⟩) 0 0) 0 [] from (OwnRows.start w w.heap.size (Nat.le_refl _)).1)
  have FIN := hide (fun v' w3 (ho : w3.ownsRow w.heap.size 87 1 v' (0 + ml) ([] ++ M.map Rw.v)) (hg' : (w.alloc (.cells #[] 87)).grownBy w3 (some w.heap.size)) =>
    NxAt.copied (w := w) (W := w) (n := n) (K := KK 0) (a := valM M) hm0 hml (Below.refl _ _) (fun i hi => unhide HV i (by rw [hml]; exact hi)) ho (below_of_grown hbA hg' (by simp) (fun m hm => by cases hm; exact Nat.le_refl _)))
  have LN := hide (show (M.map Rw.v).length = ml * 1 by rw [List.length_map, hml]; omega)
  have hST0 := hide (St.start (valM M) ml n)
  clear h hs hg hw hl4 hcc hbb hbA hml HV
  go_enter Tryz.func70, Tryz.ntmps70
  go_wp2_with (at_builtin; refine wpList_append_own_at _ rfl _ _ 86 rfl w.heap.size 87 j0 (.slice none 0 0) 1 24 Tryz.underlying86 hj0 hy0 hy1 hy2 rfl (by decide) _ _ _ rfl (unhide OWN) ⟨b, off, none⟩ ml cap (M.map Rw.v) rfl (unhide LN) (unhide NEWS) (unhide ONE M) (by unfold maxLen; omega) (by omega) (by simp) ?_; intro vA w3 hown' hgrow hnil hloc; obtain ⟨g0, cp0, rfl, nx0, _⟩ := unhide FIN vA w3 hown' hgrow; have NX0 := hide nx0; clear hown' hgrow hloc hnil nx0)
  clear OWN FIN NEWS LN
  go_loopw [3, 4, 5] (fun l d ci wr => ∃ (c dn g cp : Nat) (N : List Rw) (a : Nat → Nat → Int), c ≤ n ∧ dn ≤ ml ∧ l = .slice (some ⟨g, 0, none⟩) ml cp ∧ d = .int .i64 dn ∧ ci = .int .i64 c ∧ Hid (NxAt w wr g cp ml n (KK c) N a) ∧ Hid (St (valM M) a ml n c dn)) (fun _ _ ci _ => n - (intOf ci).toNat)
  case atStart => exact ⟨0, 0, g0, cp0, M, valM M, Nat.zero_le _, Nat.zero_le _, rfl, rfl, rfl, NX0, hST0⟩
  case round =>
    obtain ⟨c, dn, g, cp, N, a, hc, hdn, rfl, rfl, rfl, hNX, hST⟩ := hrel
    clear NX0 hST0
    have hbw := (unhide hNX).2.2.2.2.2
    have CW2 := hide (unhide CW _ ((unhide HM).below hbw))
    by_cases hlt : c < n
    · have hcI : (c : Int) < (n : Int) := by omega
      have hNl := (unhide hNX).1
      have CP := hide (fun w' (hb' : Below wr.heap.size wr w') => pivot_any g 0 cp N dn c n w' ((unhide hNX).below hb').mat (fun i hi => ((unhide hNX).2.2.2.2.1 i (by rw [← hNl]; exact hi)).2.2.1) hlt (by rw [hNl]; exact hdn) (by rw [hNl]; exact hm6) hn6)
      rw [hNl] at CP
      clear hbw
      go_wp2_with (go_at_call 114; refine (unhide CW2).mono ?_; rintro e w' ⟨rfl, rfl⟩)
      refine (unhide CP _ (Below.refl _ _)).mono ?_
      rintro e w1 ⟨⟨k, rfl, hk⟩, hb1⟩
      have hNX1 := hide ((unhide hNX).below hb1)
      clear hNX hb1 CP CW2
      rcases hk with ⟨rfl, hz⟩ | ⟨p, rfl, hp1, hp2, hp3⟩
      · have ST' := hide ((unhide hST).none (fun i h1 h2 => (((unhide hNX1).2.2.2.2.1 i h2).2.2.2 c hlt).1.nil_iff.1 (hz i h1 h2)))
        have NX' := hide ((unhide hNX1).congr (K' := KK (c + 1)) (fun _ _ => rfl) (KK_mono c))
        clear hST hNX1 hz hNl
        go_wp2
        go_roundw
        case rel => exact ⟨c + 1, dn, g, cp, N, a, by omega, hdn, rfl, rfl, by go_num, NX', ST'⟩
        case measure => simp [intOf]; omega
      · have hpz : ¬ (p : Int) < 0 := by omega
        have hpD : decide ((p : Int) < 0) = false := decide_eq_false hpz
        have hpv : a p c ≠ 0 := fun e => hp3 ((((unhide hNX1).2.2.2.2.1 p hp2).2.2.2 c hlt).1.nil_iff.2 e)
        have ST' := hide ((unhide hST).pivot hp1 hp2 hpv)
        have hdm : dn < ml := by omega
        have hdI : (dn : Int) < (ml : Int) := by omega
        have hpI : (p : Int) < (ml : Int) := by omega
        have n1 := unhide hNX1
        have hbA : Below w1.heap.size w1 (w1.alloc (.cells #[] 87)) := (Below.refl _ _).alloc (Nat.le_refl _) _
        have NEWS := hide (show ∀ j u, (N.map Rw.v)[j]? = some u → (w1.alloc (.cells #[] 87)).cell? ((⟨g, 0, none⟩ : Addr).add j) = some u from fun j u hu => by
          rw [List.getElem?_map] at hu
          cases hm : N[j]? with
          | none => rw [hm] at hu; cases hu
          | some r =>
            rw [hm] at hu
            have hjl : j < N.length := (List.getElem?_eq_some_iff.1 hm).1
            have hcj := (n1.below hbA).cell (i := j) (by rw [← hNl]; exact hjl)
            have er : rwAt N j = r := by unfold rwAt; rw [hm]; rfl
            rw [er] at hcj
            rw [show (⟨g, 0, none⟩ : Addr).add j = ⟨g, j, none⟩ by by_cases e : j = 0 <;> simp [Addr.add, e], hcj]
            exact hu)
        have OWN := hide (show (w1.alloc (.cells #[] 87)).ownsRow w1.heap.size 87 1 (.slice (some ⟨w1.heap.size, 0, none⟩) 0 0) 0 [] from (OwnRows.start w1 w1.heap.size (Nat.le_refl _)).1)
        have FIN := hide (fun v' w3 (ho : w3.ownsRow w1.heap.size 87 1 v' (0 + ml) ([] ++ N.map Rw.v)) (hg' : (w1.alloc (.cells #[] 87)).grownBy w3 (some w1.heap.size)) =>
          (show (∃ g2 cp2, v' = .slice (some ⟨g2, 0, none⟩) ml cp2 ∧ NxAt w w3 g2 cp2 ml n (KK c) N a ∧ w1.heap.size ≤ g2) ∧ NxAt w w3 g cp ml n (KK c) N a from by
            have hb13 := below_of_grown hbA hg' (by simp) (fun m hm => by cases hm; exact Nat.le_refl _)
            exact ⟨NxAt.copied hm0 hNl n1.2.2.2.2.2 (fun i hi => ⟨(n1.2.2.2.2.1 i hi).1, (n1.2.2.2.2.1 i hi).2.2⟩) ho hb13, n1.below hb13⟩))
        have LN := hide (show (N.map Rw.v).length = ml * 1 by rw [List.length_map, hNl]; omega)
        have hgl := n1.lt
        clear n1 hbA hp3 hpv hST hNX1
        go_wp2_with (at_builtin; refine wpList_append_own_at _ rfl _ _ 86 rfl w1.heap.size 87 j0 (.slice none 0 0) 1 24 Tryz.underlying86 hj0 hy0 hy1 hy2 rfl (by decide) _ _ _ rfl (unhide OWN) ⟨g, 0, none⟩ ml cp (N.map Rw.v) rfl (unhide LN) (unhide NEWS) (unhide ONE N) (by unfold maxLen; omega) (by omega) (by simp) ?_; intro vA w3 hown' hgrow hnil hloc; obtain ⟨⟨g2, cp2, rfl, nx2, hg2⟩, nxo⟩ := unhide FIN vA w3 hown' hgrow; have hgg : g ≠ g2 := (by omega); obtain ⟨ce, ⟨uq, cf⟩, ff, nx4⟩ := nx2.swap nxo hgg hdm hp2; have NX4 := hide nx4; have ca := nxo.cell hp2; have cd := nx2.cell hdm; have fd := nx2.free dn; clear hown' hgrow hloc hnil nx2 nxo nx4 OWN FIN)
        clear ca cd fd ce cf ff
        generalize (w3.setCell ⟨g2, dn, none⟩ (Value.slice (rwAt N p).ao (rwAt N p).R.length (rwAt N p).cap)).setCell ⟨g2, p, none⟩ (Value.slice (rwAt N dn).ao (rwAt N dn).R.length (rwAt N dn).cap) = w5 at *
        have hSB := hide (fun j (hj : j < ml) q (hq : q < n) => ((unhide NX4).2.2.2.2.1 j hj).2.2.2 q hq |>.2)
        have NX5 := hide ((unhide NX4).begin (c := c) (dn := dn))
        clear NX4 NEWS LN hgg
        generalize swF a dn p = s at *
        go_loopw [8] (fun i wr' => ∃ (k : Nat) (N2 : List Rw), dn + 1 ≤ k ∧ k ≤ ml ∧ i = .int .i64 k ∧ Hid (NxAt w wr' g2 cp2 ml n (KK (c + 1)) N2 (fun j => if j < k then crF s dn c j else s j))) (fun i _ => ml - (intOf i).toNat)
        case atStart => exact ⟨dn + 1, _, Nat.le_refl _, by omega, by go_num, NX5⟩
        case round =>
          obtain ⟨k, N2, hk1, hk2, rfl, hI⟩ := hrel
          clear NX5
          by_cases hlt2 : k < ml
          · have hkI : (k : Int) < (ml : Int) := by omega
            obtain ⟨bd, od, cdd, bi, oi, ci, Rd, Ri, nd, ad, kd, Ld, ni, ai, ki, Li, hrd, hri, lRd, lRi, hxd, hxi, HF⟩ := (unhide hI).facts hlt2 hdm (by omega) hlt
            have hnil := (unhide hI).nil_iff hlt2 hlt hri hxi
            have HK := hide HF
            obtain ⟨⟨_, _, _, f4, f5⟩, f6, _, _⟩ := HF _ (Below.refl _ _)
            clear HF
            by_cases hz : s k c = 0
            · have NXZ := hide (fun w' (hb : Below wr.heap.size wr w') => ((unhide hI).below hb).zeroed hz)
              have CZ := hide (fun w' => zero3_any ni ai ki Li.length w')
              rw [show decide (Li.length = 0) = true from decide_eq_true (hnil.2 hz)] at CZ
              clear hnil hrd hri lRd lRi hxd hxi HK
              go_wp2_with fail
              refine (unhide CZ _).mono ?_
              rintro e w6 ⟨rfl, hb6⟩
              have NX6 := hide (unhide NXZ _ hb6)
              clear hb6 NXZ CZ hI
              go_wp2
              go_roundw
              case rel => exact ⟨k + 1, N2, by omega, by omega, by go_num, NX6⟩
              case measure => simp [intOf]; omega
            · have CZ := hide (fun w' => zero3_any ni ai ki Li.length w')
              rw [show decide (Li.length = 0) = false from decide_eq_false (fun e => hz (hnil.1 e))] at CZ
              have CL := hide (fun w' (hb : Below wr.heap.size wr w') => (unhide hI).lessCall hlt2 (by omega) hlt hn6 (unhide hSB) hz hrd hri hxd hxi w' hb)
              clear hnil hrd hri lRd lRi hxd hxi
              go_wp2_with fail
              refine (unhide CZ _).mono ?_
              rintro e w6 ⟨rfl, hb6⟩
              have hB6 := hb6
              clear hb6 CZ f4 f5 f6
              go_wp2_with fail
              refine at_world (fun W => W = w6) rfl ?_
              rintro W0 e0
              subst e0
              have hB0 : Below wr.heap.size wr W0.drew := hB6.drew
              refine wp_region_held_drew (S := (fun w' => w'.cell? ⟨g2, dn, none⟩ = some (.slice (some ⟨bd, od, none⟩) n cdd) ∧ w'.cell? ⟨bd, od + c * 2, none⟩ = some (.bool nd) ∧ w'.cell? ⟨bd, od + c * 2 + 1, none⟩ = some (.slice ad Ld.length kd) ∧ w'.cell? ⟨bi, oi + c * 2, none⟩ = some (.bool ni) ∧ w'.cell? ⟨bi, oi + c * 2 + 1, none⟩ = some (.slice ai Li.length ki))) (by kernel_rfl) ?_ (fun hHeld => ?_)
              · exact (unhide HK _ hB0).1
              clear hB6 hI
              refine wpAnyH_take (i := 0) (oi := { dst := some 58, op := Op.move (Operand.tmp 7), type := 86, pos := "ref.go:119", after := #[], guard := none }) (v := ?_) rfl (by kernel_rfl) (by kernel_rfl) (by kernel_rfl) (fun _ _ _ h => h) (Or.inl ⟨by rfl, ?_⟩) (by assumption) ?_
              rotate_left
              · ((intro w hSw; (try dsimp only at hSw); go_simp) <;> with_reducible rfl)
              simp only [Act.put, List.setIfInBounds_toArray, List.set_cons_zero, List.set_cons_succ]
              refine wpAnyH_take (i := 1) (oi := { dst := some 59, op := Op.move (Operand.tmp 8), type := 3, pos := "ref.go:119", after := #[], guard := none }) (v := ?_) rfl (by kernel_rfl) (by kernel_rfl) (by kernel_rfl) (fun _ _ _ h => h) (Or.inl ⟨by rfl, ?_⟩) (by assumption) ?_
              rotate_left
              · ((intro w hSw; (try dsimp only at hSw); go_simp) <;> with_reducible rfl)
              simp only [Act.put, List.setIfInBounds_toArray, List.set_cons_zero, List.set_cons_succ]
              refine wpAnyH_take (i := 2) (oi := { dst := some 60, op := Op.move (Operand.tmp 7), type := 86, pos := "ref.go:119", after := #[], guard := none }) (v := ?_) rfl (by kernel_rfl) (by kernel_rfl) (by kernel_rfl) (fun _ _ _ h => h) (Or.inl ⟨by rfl, ?_⟩) (by assumption) ?_
              rotate_left
              · ((intro w hSw; (try dsimp only at hSw); go_simp) <;> with_reducible rfl)
              simp only [Act.put, List.setIfInBounds_toArray, List.set_cons_zero, List.set_cons_succ]
              refine wpAnyH_take (i := 3) (oi := { dst := some 61, op := Op.move (Operand.tmp 8), type := 3, pos := "ref.go:119", after := #[], guard := none }) (v := ?_) rfl (by kernel_rfl) (by kernel_rfl) (by kernel_rfl) (fun _ _ _ h => h) (Or.inl ⟨by rfl, ?_⟩) (by assumption) ?_
              rotate_left
              · ((intro w hSw; (try dsimp only at hSw); go_simp) <;> with_reducible rfl)
              simp only [Act.put, List.setIfInBounds_toArray, List.set_cons_zero, List.set_cons_succ]
              refine wpAnyH_take (i := 4) (oi := { dst := some 62, op := Op.indexAddr 86 (Operand.tmp 60) (Operand.tmp 61), type := 0, pos := "ref.go:119", after := #[{ on := 2, ground := Ground.data }, { on := 3, ground := Ground.data }], guard := none }) (v := ?_) rfl (by kernel_rfl) (by kernel_rfl) (by kernel_rfl) (fun _ _ _ h => h) (Or.inl ⟨by rfl, ?_⟩) (by assumption) ?_
              rotate_left
              · ((intro w hSw; (try dsimp only at hSw); go_simp) <;> with_reducible rfl)
              simp only [Act.put, List.setIfInBounds_toArray, List.set_cons_zero, List.set_cons_succ]
              refine wpAnyH_take (i := 6) (oi := { dst := some 64, op := Op.move (Operand.tmp 7), type := 86, pos := "ref.go:119", after := #[], guard := none }) (v := ?_) rfl (by kernel_rfl) (by kernel_rfl) (by kernel_rfl) (fun _ _ _ h => h) (Or.inl ⟨by rfl, ?_⟩) (by assumption) ?_
              rotate_left
              · ((intro w hSw; (try dsimp only at hSw); go_simp) <;> with_reducible rfl)
              simp only [Act.put, List.setIfInBounds_toArray, List.set_cons_zero, List.set_cons_succ]
              refine wpAnyH_take (i := 7) (oi := { dst := some 65, op := Op.move (Operand.tmp 4), type := 3, pos := "ref.go:119", after := #[], guard := none }) (v := ?_) rfl (by kernel_rfl) (by kernel_rfl) (by kernel_rfl) (fun _ _ _ h => h) (Or.inl ⟨by rfl, ?_⟩) (by assumption) ?_
              rotate_left
              · ((intro w hSw; (try dsimp only at hSw); go_simp) <;> with_reducible rfl)
              simp only [Act.put, List.setIfInBounds_toArray, List.set_cons_zero, List.set_cons_succ]
              refine wpAnyH_take (i := 8) (oi := { dst := some 66, op := Op.indexAddr 86 (Operand.tmp 64) (Operand.tmp 65), type := 0, pos := "ref.go:119", after := #[{ on := 6, ground := Ground.data }, { on := 7, ground := Ground.data }], guard := none }) (v := ?_) rfl (by kernel_rfl) (by kernel_rfl) (by kernel_rfl) (fun _ _ _ h => h) (Or.inl ⟨by rfl, ?_⟩) (by assumption) ?_
              rotate_left
              · ((intro w hSw; (try dsimp only at hSw); go_simp) <;> with_reducible rfl)
              simp only [Act.put, List.setIfInBounds_toArray, List.set_cons_zero, List.set_cons_succ]
              refine wpAnyH_take (i := 9) (oi := { dst := some 67, op := Op.load 87 (Operand.tmp 66), type := 87, pos := "ref.go:119", after := #[{ on := 8, ground := Ground.data }], guard := none }) (v := ?_) rfl (by kernel_rfl) (by kernel_rfl) (by kernel_rfl) (fun _ _ _ h => h) (Or.inl ⟨by rfl, ?_⟩) (by assumption) ?_
              rotate_left
              · ((intro w hSw; (try dsimp only at hSw); go_simp) <;> with_reducible rfl)
              simp only [Act.put, List.setIfInBounds_toArray, List.set_cons_zero, List.set_cons_succ]
              refine wpAnyH_take (i := 10) (oi := { dst := some 68, op := Op.move (Operand.tmp 5), type := 3, pos := "ref.go:119", after := #[], guard := none }) (v := ?_) rfl (by kernel_rfl) (by kernel_rfl) (by kernel_rfl) (fun _ _ _ h => h) (Or.inl ⟨by rfl, ?_⟩) (by assumption) ?_
              rotate_left
              · ((intro w hSw; (try dsimp only at hSw); go_simp) <;> with_reducible rfl)
              simp only [Act.put, List.setIfInBounds_toArray, List.set_cons_zero, List.set_cons_succ]
              refine wpAnyH_take (i := 11) (oi := { dst := some 69, op := Op.indexAddr 87 (Operand.tmp 67) (Operand.tmp 68), type := 0, pos := "ref.go:119", after := #[{ on := 9, ground := Ground.data }, { on := 10, ground := Ground.data }], guard := none }) (v := ?_) rfl (by kernel_rfl) (by kernel_rfl) (by kernel_rfl) (fun _ _ _ h => h) (Or.inl ⟨by rfl, ?_⟩) (by assumption) ?_
              rotate_left
              · ((intro w hSw; (try dsimp only at hSw); go_simp) <;> with_reducible rfl)
              simp only [Act.put, List.setIfInBounds_toArray, List.set_cons_zero, List.set_cons_succ]
              refine wpAnyH_take (i := 12) (oi := { dst := some 70, op := Op.load 27 (Operand.tmp 69), type := 27, pos := "ref.go:119", after := #[{ on := 11, ground := Ground.data }], guard := none }) (v := ?_) rfl (by kernel_rfl) (by kernel_rfl) (by kernel_rfl) (fun _ _ _ h => h) (Or.inl ⟨by rfl, ?_⟩) (by assumption) ?_
              rotate_left
              · ((intro w hSw; (try dsimp only at hSw); go_simp) <;> with_reducible rfl)
              simp only [Act.put, List.setIfInBounds_toArray, List.set_cons_zero, List.set_cons_succ]
              refine wpAnyH_take (i := 13) (oi := { dst := some 71, op := Op.move (Operand.tmp 7), type := 86, pos := "ref.go:119", after := #[], guard := none }) (v := ?_) rfl (by kernel_rfl) (by kernel_rfl) (by kernel_rfl) (fun _ _ _ h => h) (Or.inl ⟨by rfl, ?_⟩) (by assumption) ?_
              rotate_left
              · ((intro w hSw; (try dsimp only at hSw); go_simp) <;> with_reducible rfl)
              simp only [Act.put, List.setIfInBounds_toArray, List.set_cons_zero, List.set_cons_succ]
              refine wpAnyH_take (i := 14) (oi := { dst := some 72, op := Op.move (Operand.tmp 4), type := 3, pos := "ref.go:119", after := #[], guard := none }) (v := ?_) rfl (by kernel_rfl) (by kernel_rfl) (by kernel_rfl) (fun _ _ _ h => h) (Or.inl ⟨by rfl, ?_⟩) (by assumption) ?_
              rotate_left
              · ((intro w hSw; (try dsimp only at hSw); go_simp) <;> with_reducible rfl)
              simp only [Act.put, List.setIfInBounds_toArray, List.set_cons_zero, List.set_cons_succ]
              refine wpAnyH_take (i := 15) (oi := { dst := some 73, op := Op.indexAddr 86 (Operand.tmp 71) (Operand.tmp 72), type := 0, pos := "ref.go:119", after := #[{ on := 13, ground := Ground.data }, { on := 14, ground := Ground.data }], guard := none }) (v := ?_) rfl (by kernel_rfl) (by kernel_rfl) (by kernel_rfl) (fun _ _ _ h => h) (Or.inl ⟨by rfl, ?_⟩) (by assumption) ?_
              rotate_left
              · ((intro w hSw; (try dsimp only at hSw); go_simp) <;> with_reducible rfl)
              simp only [Act.put, List.setIfInBounds_toArray, List.set_cons_zero, List.set_cons_succ]
              refine wpAnyH_take (i := 16) (oi := { dst := some 74, op := Op.load 87 (Operand.tmp 73), type := 87, pos := "ref.go:119", after := #[{ on := 15, ground := Ground.data }], guard := none }) (v := ?_) rfl (by kernel_rfl) (by kernel_rfl) (by kernel_rfl) (fun _ _ _ h => h) (Or.inl ⟨by rfl, ?_⟩) (by assumption) ?_
              rotate_left
              · ((intro w hSw; (try dsimp only at hSw); go_simp) <;> with_reducible rfl)
              simp only [Act.put, List.setIfInBounds_toArray, List.set_cons_zero, List.set_cons_succ]
              refine wpAnyH_take (i := 17) (oi := { dst := some 75, op := Op.move (Operand.tmp 7), type := 86, pos := "ref.go:119", after := #[], guard := none }) (v := ?_) rfl (by kernel_rfl) (by kernel_rfl) (by kernel_rfl) (fun _ _ _ h => h) (Or.inl ⟨by rfl, ?_⟩) (by assumption) ?_
              rotate_left
              · ((intro w hSw; (try dsimp only at hSw); go_simp) <;> with_reducible rfl)
              simp only [Act.put, List.setIfInBounds_toArray, List.set_cons_zero, List.set_cons_succ]
              refine wpAnyH_take (i := 18) (oi := { dst := some 76, op := Op.move (Operand.tmp 8), type := 3, pos := "ref.go:119", after := #[], guard := none }) (v := ?_) rfl (by kernel_rfl) (by kernel_rfl) (by kernel_rfl) (fun _ _ _ h => h) (Or.inl ⟨by rfl, ?_⟩) (by assumption) ?_
              rotate_left
              · ((intro w hSw; (try dsimp only at hSw); go_simp) <;> with_reducible rfl)
              simp only [Act.put, List.setIfInBounds_toArray, List.set_cons_zero, List.set_cons_succ]
              refine wpAnyH_take (i := 19) (oi := { dst := some 77, op := Op.indexAddr 86 (Operand.tmp 75) (Operand.tmp 76), type := 0, pos := "ref.go:119", after := #[{ on := 17, ground := Ground.data }, { on := 18, ground := Ground.data }], guard := none }) (v := ?_) rfl (by kernel_rfl) (by kernel_rfl) (by kernel_rfl) (fun _ _ _ h => h) (Or.inl ⟨by rfl, ?_⟩) (by assumption) ?_
              rotate_left
              · ((intro w hSw; (try dsimp only at hSw); go_simp) <;> with_reducible rfl)
              simp only [Act.put, List.setIfInBounds_toArray, List.set_cons_zero, List.set_cons_succ]
              refine wpAnyH_take (i := 21) (oi := { dst := some 79, op := Op.move (Operand.tmp 5), type := 3, pos := "ref.go:119", after := #[], guard := none }) (v := ?_) rfl (by kernel_rfl) (by kernel_rfl) (by kernel_rfl) (fun _ _ _ h => h) (Or.inl ⟨by rfl, ?_⟩) (by assumption) ?_
              rotate_left
              · ((intro w hSw; (try dsimp only at hSw); go_simp) <;> with_reducible rfl)
              simp only [Act.put, List.setIfInBounds_toArray, List.set_cons_zero, List.set_cons_succ]
              refine wpAnyH_ready (rs := [5, 20]) (by kernel_rfl) (by simp) ?_
              refine AllReadyH.cons (o := { dst := some 63, op := Op.load 87 (Operand.tmp 62), type := 87, pos := "ref.go:119", after := #[{ on := 4, ground := Ground.data }], guard := none }) rfl (fun K hK => ?_) ?_
              · have kk := (unhide HK _ hB0).2.1
                go_simp
                refine hK.out _ _ ?_ (fun hHeld => ?_)
                · exact by assumption
                clear hK K
                clear kk
                refine wpAnyH_ready (rs := [20]) (by kernel_rfl) (by simp) ?_
                refine AllReadyH.cons (o := { dst := some 78, op := Op.load 87 (Operand.tmp 77), type := 87, pos := "ref.go:119", after := #[{ on := 19, ground := Ground.data }], guard := none }) rfl (fun K hK => ?_) AllReadyH.nil
                have kk := (unhide HK _ hB0).2.1
                go_simp
                refine hK.out _ _ ?_ (fun hHeld => ?_)
                · exact by assumption
                clear hK K
                clear kk
                refine wpAnyH_take (i := 22) (oi := { dst := some 80, op := Op.indexAddr 87 (Operand.tmp 78) (Operand.tmp 79), type := 0, pos := "ref.go:119", after := #[{ on := 20, ground := Ground.data }, { on := 21, ground := Ground.data }], guard := none }) (v := ?_) rfl (by kernel_rfl) (by kernel_rfl) (by kernel_rfl) (fun _ _ _ h => h) (Or.inl ⟨by rfl, ?_⟩) (by assumption) ?_
                rotate_left
                · ((intro w hSw; (try dsimp only at hSw); go_simp) <;> with_reducible rfl)
                simp only [Act.put, List.setIfInBounds_toArray, List.set_cons_zero, List.set_cons_succ]
                refine wpAnyH_take (i := 23) (oi := { dst := some 81, op := Op.load 27 (Operand.tmp 80), type := 27, pos := "ref.go:119", after := #[{ on := 22, ground := Ground.data }], guard := none }) (v := ?_) rfl (by kernel_rfl) (by kernel_rfl) (by kernel_rfl) (fun _ _ _ h => h) (Or.inl ⟨by rfl, ?_⟩) (by assumption) ?_
                rotate_left
                · ((intro w hSw; (try dsimp only at hSw); go_simp) <;> with_reducible rfl)
                simp only [Act.put, List.setIfInBounds_toArray, List.set_cons_zero, List.set_cons_succ]
                refine wpAnyH_ready (rs := [24]) (by kernel_rfl) (by simp) ?_
                refine AllReadyH.cons (o := { dst := some 82, op := Op.call { callee := Callee.value (Operand.func 117), args := #[Operand.tmp 63, Operand.tmp 70, Operand.tmp 74, Operand.tmp 81], argTypes := #[87, 27, 87, 27] }, type := 87, pos := "ref.go:119", after := #[{ on := 5, ground := Ground.data }, { on := 12, ground := Ground.data }, { on := 16, ground := Ground.data }, { on := 23, ground := Ground.data }], guard := none }) rfl (fun K hK => ?_) AllReadyH.nil
                go_simp
                refine (unhide CL _ hB0).mono ?_
                rintro e w7 ⟨a9, c9, R9, rfl, FIN, hB7⟩
                go_wp2_with fail
                refine hK.out _ _ ?_ (fun hHeld => ?_)
                · exact (unhide HK _ hB7).1
                clear hK K
                refine wpAnyH_take (i := 25) (oi := { dst := some 83, op := Op.indexAddr 86 (Operand.tmp 58) (Operand.tmp 59), type := 0, pos := "ref.go:119", after := #[{ on := 0, ground := Ground.data }, { on := 1, ground := Ground.data }, { on := 0, ground := Ground.phase }, { on := 1, ground := Ground.phase }, { on := 2, ground := Ground.phase }, { on := 3, ground := Ground.phase }, { on := 4, ground := Ground.phase }, { on := 5, ground := Ground.phase }, { on := 6, ground := Ground.phase }, { on := 7, ground := Ground.phase }, { on := 8, ground := Ground.phase }, { on := 9, ground := Ground.phase }, { on := 10, ground := Ground.phase }, { on := 11, ground := Ground.phase }, { on := 12, ground := Ground.phase }, { on := 13, ground := Ground.phase }, { on := 14, ground := Ground.phase }, { on := 15, ground := Ground.phase }, { on := 16, ground := Ground.phase }, { on := 17, ground := Ground.phase }, { on := 18, ground := Ground.phase }, { on := 19, ground := Ground.phase }, { on := 20, ground := Ground.phase }, { on := 21, ground := Ground.phase }, { on := 22, ground := Ground.phase }, { on := 23, ground := Ground.phase }, { on := 24, ground := Ground.phase }], guard := none }) (v := ?_) rfl (by kernel_rfl) (by kernel_rfl) (by kernel_rfl) (fun _ _ _ h => h) (Or.inl ⟨by rfl, ?_⟩) (by assumption) ?_
                rotate_left
                · ((intro w hSw; (try dsimp only at hSw); go_simp) <;> with_reducible rfl)
                simp only [Act.put, List.setIfInBounds_toArray, List.set_cons_zero, List.set_cons_succ]
                refine wpAnyH_ready (rs := [26]) (by kernel_rfl) (by simp) ?_
                refine AllReadyH.cons (o := { dst := none, op := Op.store 87 (Operand.tmp 83) (Operand.tmp 82), type := 0, pos := "ref.go:119", after := #[{ on := 25, ground := Ground.data }, { on := 24, ground := Ground.data }, { on := 24, ground := Ground.chain }, { on := 0, ground := Ground.phase }, { on := 1, ground := Ground.phase }, { on := 2, ground := Ground.phase }, { on := 3, ground := Ground.phase }, { on := 4, ground := Ground.phase }, { on := 5, ground := Ground.phase }, { on := 6, ground := Ground.phase }, { on := 7, ground := Ground.phase }, { on := 8, ground := Ground.phase }, { on := 9, ground := Ground.phase }, { on := 10, ground := Ground.phase }, { on := 11, ground := Ground.phase }, { on := 12, ground := Ground.phase }, { on := 13, ground := Ground.phase }, { on := 14, ground := Ground.phase }, { on := 15, ground := Ground.phase }, { on := 16, ground := Ground.phase }, { on := 17, ground := Ground.phase }, { on := 18, ground := Ground.phase }, { on := 19, ground := Ground.phase }, { on := 20, ground := Ground.phase }, { on := 21, ground := Ground.phase }, { on := 22, ground := Ground.phase }, { on := 23, ground := Ground.phase }, { on := 24, ground := Ground.phase }], guard := none }) rfl (fun K hK => ?_) AllReadyH.nil
                have kk := (unhide HK _ hB7).2.1
                have kf := (unhide HK _ hB7).2.2.1
                go_simp
                refine hK.out _ _ ?_ (fun hHeld => ?_)
                · exact (unhide HK _ hB7).2.2.2 _
                clear hK K
                clear kk kf
                refine wpAnyH_done (by kernel_rfl) ?_ _
                clear HK CL hB0 hB7 hHeld
                go_wp2
                go_roundw
                case rel => exact ⟨k + 1, _, by omega, by omega, by go_num, FIN⟩
                case measure => simp [intOf]; omega
              refine AllReadyH.cons (o := { dst := some 78, op := Op.load 87 (Operand.tmp 77), type := 87, pos := "ref.go:119", after := #[{ on := 19, ground := Ground.data }], guard := none }) rfl (fun K hK => ?_) AllReadyH.nil
              have kk := (unhide HK _ hB0).2.1
              go_simp
              refine hK.out _ _ ?_ (fun hHeld => ?_)
              · exact by assumption
              clear hK K
              clear kk
              refine wpAnyH_take (i := 22) (oi := { dst := some 80, op := Op.indexAddr 87 (Operand.tmp 78) (Operand.tmp 79), type := 0, pos := "ref.go:119", after := #[{ on := 20, ground := Ground.data }, { on := 21, ground := Ground.data }], guard := none }) (v := ?_) rfl (by kernel_rfl) (by kernel_rfl) (by kernel_rfl) (fun _ _ _ h => h) (Or.inl ⟨by rfl, ?_⟩) (by assumption) ?_
              rotate_left
              · ((intro w hSw; (try dsimp only at hSw); go_simp) <;> with_reducible rfl)
              simp only [Act.put, List.setIfInBounds_toArray, List.set_cons_zero, List.set_cons_succ]
              refine wpAnyH_take (i := 23) (oi := { dst := some 81, op := Op.load 27 (Operand.tmp 80), type := 27, pos := "ref.go:119", after := #[{ on := 22, ground := Ground.data }], guard := none }) (v := ?_) rfl (by kernel_rfl) (by kernel_rfl) (by kernel_rfl) (fun _ _ _ h => h) (Or.inl ⟨by rfl, ?_⟩) (by assumption) ?_
              rotate_left
              · ((intro w hSw; (try dsimp only at hSw); go_simp) <;> with_reducible rfl)
              simp only [Act.put, List.setIfInBounds_toArray, List.set_cons_zero, List.set_cons_succ]
              refine wpAnyH_ready (rs := [5]) (by kernel_rfl) (by simp) ?_
              refine AllReadyH.cons (o := { dst := some 63, op := Op.load 87 (Operand.tmp 62), type := 87, pos := "ref.go:119", after := #[{ on := 4, ground := Ground.data }], guard := none }) rfl (fun K hK => ?_) AllReadyH.nil
              have kk := (unhide HK _ hB0).2.1
              go_simp
              refine hK.out _ _ ?_ (fun hHeld => ?_)
              · exact by assumption
              clear hK K
              clear kk
              refine wpAnyH_ready (rs := [24]) (by kernel_rfl) (by simp) ?_
              refine AllReadyH.cons (o := { dst := some 82, op := Op.call { callee := Callee.value (Operand.func 117), args := #[Operand.tmp 63, Operand.tmp 70, Operand.tmp 74, Operand.tmp 81], argTypes := #[87, 27, 87, 27] }, type := 87, pos := "ref.go:119", after := #[{ on := 5, ground := Ground.data }, { on := 12, ground := Ground.data }, { on := 16, ground := Ground.data }, { on := 23, ground := Ground.data }], guard := none }) rfl (fun K hK => ?_) AllReadyH.nil
              go_simp
              refine (unhide CL _ hB0).mono ?_
              rintro e w7 ⟨a9, c9, R9, rfl, FIN, hB7⟩
              go_wp2_with fail
              refine hK.out _ _ ?_ (fun hHeld => ?_)
              · exact (unhide HK _ hB7).1
              clear hK K
              refine wpAnyH_take (i := 25) (oi := { dst := some 83, op := Op.indexAddr 86 (Operand.tmp 58) (Operand.tmp 59), type := 0, pos := "ref.go:119", after := #[{ on := 0, ground := Ground.data }, { on := 1, ground := Ground.data }, { on := 0, ground := Ground.phase }, { on := 1, ground := Ground.phase }, { on := 2, ground := Ground.phase }, { on := 3, ground := Ground.phase }, { on := 4, ground := Ground.phase }, { on := 5, ground := Ground.phase }, { on := 6, ground := Ground.phase }, { on := 7, ground := Ground.phase }, { on := 8, ground := Ground.phase }, { on := 9, ground := Ground.phase }, { on := 10, ground := Ground.phase }, { on := 11, ground := Ground.phase }, { on := 12, ground := Ground.phase }, { on := 13, ground := Ground.phase }, { on := 14, ground := Ground.phase }, { on := 15, ground := Ground.phase }, { on := 16, ground := Ground.phase }, { on := 17, ground := Ground.phase }, { on := 18, ground := Ground.phase }, { on := 19, ground := Ground.phase }, { on := 20, ground := Ground.phase }, { on := 21, ground := Ground.phase }, { on := 22, ground := Ground.phase }, { on := 23, ground := Ground.phase }, { on := 24, ground := Ground.phase }], guard := none }) (v := ?_) rfl (by kernel_rfl) (by kernel_rfl) (by kernel_rfl) (fun _ _ _ h => h) (Or.inl ⟨by rfl, ?_⟩) (by assumption) ?_
              rotate_left
              · ((intro w hSw; (try dsimp only at hSw); go_simp) <;> with_reducible rfl)
              simp only [Act.put, List.setIfInBounds_toArray, List.set_cons_zero, List.set_cons_succ]
              refine wpAnyH_ready (rs := [26]) (by kernel_rfl) (by simp) ?_
              refine AllReadyH.cons (o := { dst := none, op := Op.store 87 (Operand.tmp 83) (Operand.tmp 82), type := 0, pos := "ref.go:119", after := #[{ on := 25, ground := Ground.data }, { on := 24, ground := Ground.data }, { on := 24, ground := Ground.chain }, { on := 0, ground := Ground.phase }, { on := 1, ground := Ground.phase }, { on := 2, ground := Ground.phase }, { on := 3, ground := Ground.phase }, { on := 4, ground := Ground.phase }, { on := 5, ground := Ground.phase }, { on := 6, ground := Ground.phase }, { on := 7, ground := Ground.phase }, { on := 8, ground := Ground.phase }, { on := 9, ground := Ground.phase }, { on := 10, ground := Ground.phase }, { on := 11, ground := Ground.phase }, { on := 12, ground := Ground.phase }, { on := 13, ground := Ground.phase }, { on := 14, ground := Ground.phase }, { on := 15, ground := Ground.phase }, { on := 16, ground := Ground.phase }, { on := 17, ground := Ground.phase }, { on := 18, ground := Ground.phase }, { on := 19, ground := Ground.phase }, { on := 20, ground := Ground.phase }, { on := 21, ground := Ground.phase }, { on := 22, ground := Ground.phase }, { on := 23, ground := Ground.phase }, { on := 24, ground := Ground.phase }], guard := none }) rfl (fun K hK => ?_) AllReadyH.nil
              have kk := (unhide HK _ hB7).2.1
              have kf := (unhide HK _ hB7).2.2.1
              go_simp
              refine hK.out _ _ ?_ (fun hHeld => ?_)
              · exact (unhide HK _ hB7).2.2.2 _
              clear hK K
              clear kk kf
              refine wpAnyH_done (by kernel_rfl) ?_ _
              clear HK CL hB0 hB7 hHeld
              go_wp2
              go_roundw
              case rel => exact ⟨k + 1, _, by omega, by omega, by go_num, FIN⟩
              case measure => simp [intOf]; omega
          · have hkm : k = ml := by omega
            have hgD : decide ((k : Int) < (ml : Int)) = false := decide_eq_false (by omega)
            have hgI : ¬ (k : Int) < (ml : Int) := by omega
            have NX' := hide ((unhide hI).congr (a' := crF s dn c) (fun j hj => if_pos (by omega)) (Nat.le_refl _))
            clear hI hSB hkm
            go_wp2
            go_roundw
            case rel => exact ⟨c + 1, dn + 1, g2, cp2, N2, crF s dn c, by omega, by omega, rfl, by go_num, by go_num, NX', ST'⟩
            case measure => simp [intOf]; omega
    · have hcn : c = n := by omega
      have hgD : decide ((c : Int) < (n : Int)) = false := decide_eq_false (by omega)
      have hgI : ¬ (c : Int) < (n : Int) := by omega
      subst hcn
      have RK := hide (unhide hST).rank
      have BW := hide hbw
      clear hST hNX hbw
      go_wp2_with (go_at_call 114; refine (unhide CW2).mono ?_; rintro e w' ⟨rfl, rfl⟩)
      go_ret
      exact ⟨⟨dn, rfl, RK⟩, unhide BW⟩

end Go.Proofs.YtfnnbkclnflpfaaGreatDoor

/- The law ExactRanks, walked. -/
namespace Go.Proofs.YtfnnbkclnflpfaaGreatDoor
open Go.RowKit
attribute [local go_sem ↓] Go.wp_at_zero Go.wp_at_succ

set_option maxHeartbeats 4000000 in
theorem refRank_nil (ao : Option Addr) (cap : Nat) (w : World) (h : MatAt w ao cap []) :
    Calls Tryz.prog 70 #[.slice ao 0 cap] w fun e w' => e = .returned (.int .i64 0) ∧ Below w.heap.size w w' := by
  have CW := hide (fun w' (hb : Below w.heap.size w w') => refWidth_any ao cap [] w' (h.below hb) ⟨by simp, by simp⟩)
  simp only [List.length_nil, show width [] = 0 from rfl] at CW
  have B0 := hide (show Below w.heap.size w (w.alloc (.cells #[] 87)) from (Below.refl _ _).alloc (Nat.le_refl _) _)
  clear h
  rcases ao with _ | a
  · go_enter Tryz.func70, Tryz.ntmps70
    go_wp2_with fail
    go_loopw [3, 4, 5] (fun _ d ci wr => d = .int .i64 0 ∧ ci = .int .i64 0 ∧ Hid (Below w.heap.size w wr)) (fun _ _ _ _ => 0)
    case atStart => exact ⟨rfl, rfl, B0⟩
    case round =>
      obtain ⟨rfl, rfl, hB⟩ := hrel
      clear B0
      have CW2 := hide (unhide CW _ (unhide hB))
      go_wp2_with (go_at_call 114; refine (unhide CW2).mono ?_; rintro e w' ⟨rfl, rfl⟩)
      go_ret
      exact ⟨rfl, unhide hB⟩
  · go_enter Tryz.func70, Tryz.ntmps70
    go_wp2_with fail
    go_loopw [3, 4, 5] (fun _ d ci wr => d = .int .i64 0 ∧ ci = .int .i64 0 ∧ Hid (Below w.heap.size w wr)) (fun _ _ _ _ => 0)
    case atStart => exact ⟨rfl, rfl, B0⟩
    case round =>
      obtain ⟨rfl, rfl, hB⟩ := hrel
      clear B0
      have CW2 := hide (unhide CW _ (unhide hB))
      go_wp2_with (go_at_call 114; refine (unhide CW2).mono ?_; rintro e w' ⟨rfl, rfl⟩)
      go_ret
      exact ⟨rfl, unhide hB⟩

end Go.Proofs.YtfnnbkclnflpfaaGreatDoor

