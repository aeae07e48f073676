/- Part 30 of the texts. -/
import Derived.Test.YtfnnbkclnflpfaaGreatDoorPartK29
import Derived.Test.YtfnnbkclnflpfaaGreatDoorPartK09
import Derived.Test.YtfnnbkclnflpfaaGreatDoorPartK08
import Derived.Test.YtfnnbkclnflpfaaGreatDoorPartK07
import Derived.Test.YtfnnbkclnflpfaaGreatDoorPartK10
import Derived.Test.YtfnnbkclnflpfaaGreatDoorPartK22
/- Contracts of exact's rising, setOf. -/
namespace Go.Proofs.YtfnnbkclnflpfaaGreatDoor
open Go.RowKit

/-- The whole numbers I lie at ao. -/
def IntsAt (w : World) (ao : Option Addr) (cap : Nat) (I : List Int) : Prop :=
  I.length ≤ cap ∧ (∀ x ∈ I, -9223372036854775808 ≤ x ∧ x ≤ 9223372036854775807) ∧ (I = [] ∨ ∃ b off, ao = some ⟨b, off, none⟩ ∧ b < w.heap.size ∧ ∀ i, i < I.length → w.cell? ⟨b, off + i, none⟩ = some (.int .i64 (I[i]?.getD 0)))

theorem IntsAt.below {w w' : World} {ao : Option Addr} {cap : Nat} {I : List Int} (h : IntsAt w ao cap I) (hb : Below w.heap.size w w') : IntsAt w' ao cap I := by
  refine ⟨h.1, h.2.1, ?_⟩
  rcases h.2.2 with h | ⟨b, off, h1, h2, h3⟩
  · exact .inl h
  · refine .inr ⟨b, off, h1, Nat.lt_of_lt_of_le h2 hb.size, fun i hi => ?_⟩
    rw [hb.cell (p := ⟨b, off + i, none⟩) h2]
    exact h3 i hi
theorem IntsAt.ne {w : World} {ao : Option Addr} {cap : Nat} {I : List Int} (h : IntsAt w ao cap I) (h0 : 0 < I.length) : ∃ b off, ao = some ⟨b, off, none⟩ ∧ b < w.heap.size ∧ ∀ i, i < I.length → w.cell? ⟨b, off + i, none⟩ = some (.int .i64 (I[i]?.getD 0)) := by
  rcases h.2.2 with e | e
  · rw [e] at h0; simp at h0
  · exact e

def atI (I : List Int) (j : Nat) : Int := I[j]?.getD 0
theorem IntsAt.wf {w : World} {ao : Option Addr} {cap : Nat} {I : List Int} (h : IntsAt w ao cap I) (j : Nat) : -9223372036854775808 ≤ atI I j ∧ atI I j ≤ 9223372036854775807 := by
  unfold atI
  by_cases hi : j < I.length
  · rw [List.getElem?_eq_getElem hi]; exact h.2.1 _ (List.getElem_mem hi)
  · rw [List.getElem?_eq_none (by omega)]; simp

theorem ins_elems : ∀ s, s < 64 → ∀ c, c < 6 → (∀ d ∈ elems s, d < c) → elems (ins s c) = elems s ++ [c] ∧ ins s c < 64 := by decide +kernel
theorem elems_zero : elems 0 = [] := by decide +kernel
/-- The places as numbers from 0 on. -/
def natI (I : List Int) : List Nat := I.map Int.toNat

end Go.Proofs.YtfnnbkclnflpfaaGreatDoor

/- Frames: what a call leaves alone, but for one block; what a number's box is to others. -/
namespace Go.Proofs.YtfnnbkclnflpfaaGreatDoor
open Go.RowKit

/-- Below B nothing has turned but block b. -/
structure Fr (B : Nat) (b : Option Nat) (w w' : World) : Prop where
  os : w'.os = w.os
  tape : w'.tape = w.tape
  output : w'.output = w.output
  size : w.heap.size ≤ w'.heap.size
  block : ∀ k, k < B → some k ≠ b → w'.heap[k]? = w.heap[k]?

theorem Fr.refl (B : Nat) (b : Option Nat) (w : World) : Fr B b w w := ⟨rfl, rfl, rfl, Nat.le_refl _, fun _ _ _ => rfl⟩
theorem Fr.trans {B : Nat} {b : Option Nat} {a c d : World} (h : Fr B b a c) (k : Fr B b c d) : Fr B b a d :=
  ⟨k.os.trans h.os, k.tape.trans h.tape, k.output.trans h.output, Nat.le_trans h.size k.size, fun i hi hb => (k.block i hi hb).trans (h.block i hi hb)⟩
theorem Fr.mono {B B' : Nat} {b : Option Nat} {w w' : World} (h : Fr B b w w') (hB : B' ≤ B) : Fr B' b w w' := ⟨h.os, h.tape, h.output, h.size, fun k hk hb => h.block k (Nat.lt_of_lt_of_le hk hB) hb⟩
theorem Fr.of {B : Nat} {w w' : World} (h : Below B w w') (b : Option Nat) : Fr B b w w' := ⟨h.os, h.tape, h.output, h.size, fun k hk _ => h.block k hk⟩
theorem Fr.drew {B : Nat} {b : Option Nat} {w w' : World} (h : Fr B b w w') : Fr B b w w'.drew := ⟨h.os, h.tape, h.output, h.size, h.block⟩
theorem Fr.alloc {B : Nat} {b : Option Nat} {w w' : World} (h : Fr B b w w') (hB : B ≤ w'.heap.size) (o : Obj) : Fr B b w (w'.alloc o) :=
  h.trans (.of ((Below.refl _ _).alloc hB o) b)
theorem Fr.setCell {B : Nat} {b : Option Nat} {w w' : World} (h : Fr B b w w') {p : Addr} (hp : B ≤ p.block) (u : Value) : Fr B b w (w'.setCell p u) :=
  h.trans (.of ((Below.refl _ _).setCell hp u) b)
theorem Fr.put2 {B : Nat} {b : Option Nat} {w w' : World} {g : Nat} (h : Fr B b w w') (hg : B ≤ g) (u u' : Value) : Fr B b w ((w'.setCell ⟨g, 0, none⟩ u).setCell ⟨g, 1, none⟩ u') :=
  (h.setCell hg _).setCell hg _
/-- One call behind another. -/
theorem Fr.then {B : Nat} {b : Option Nat} {w w1 w2 : World} (h : Fr B b w w1) (hB : B ≤ w.heap.size) (k : Fr w1.heap.size b w1 w2) : Fr B b w w2 := h.trans (k.mono (Nat.le_trans hB h.size))
theorem Fr.thenB {B : Nat} {b : Option Nat} {w w1 w2 : World} (h : Fr B b w w1) (hB : B ≤ w.heap.size) (k : Below w1.heap.size w1 w2) : Fr B b w w2 := h.then hB (.of k b)
theorem Fr.below {B : Nat} {b : Option Nat} {w w' : World} (h : Fr B b w w') {C : Nat} (hC : C ≤ B) (hb : ∀ m, b = some m → C ≤ m) : Below C w w' :=
  ⟨h.os, h.tape, h.output, h.size, fun k hk => h.block k (by omega) (fun e => by have := hb k e.symm; omega)⟩
theorem Fr.box {B : Nat} {b : Option Nat} {w w' : World} (h : Fr B b w w') {g : Nat} {x y : Value} (hx : Box2 w g x y) (hg : g < B) (hb : ∀ m, b = some m → m < g) : Box2 w' g x y :=
  (h.block g hg (fun e => by have := hb g e.symm; omega)).trans hx
theorem LimbsAt.fr {w w' : World} {ao : Option Addr} {cap B : Nat} {L : List Nat} (h : LimbsAt w ao cap L) {b : Option Nat} (hf : Fr w.heap.size b w w') (hn : NewAt B ao L) (hb : ∀ m, b = some m → m < B) : LimbsAt w' ao cap L := by
  refine ⟨h.1, h.2.1, ?_⟩
  rcases h.2.2 with h0 | ⟨c, off, h1, h2, h3⟩
  · exact .inl h0
  · rcases hn with h0 | ⟨b', off', h1', h2'⟩
    · exact .inl h0
    · rw [h1] at h1'
      simp only [Option.some.injEq, Addr.mk.injEq] at h1'
      obtain ⟨rfl, rfl, _⟩ := h1'
      refine .inr ⟨c, off, h1, Nat.lt_of_lt_of_le h2 hf.size, fun i hi => ?_⟩
      rw [World.cell?_of_block (a := ⟨c, off + i, none⟩) (hf.block c h2 (fun e => by have := hb c e.symm; omega))]
      exact h3 i hi
theorem IsNum.fr {B : Nat} {w w' : World} {v : Value} {x : Int} (h : IsNum B w v x) {b : Option Nat} (hf : Fr w.heap.size b w w') (hb : ∀ m, b = some m → m < B) : IsNum B w' v x := by
  obtain ⟨neg, ao, cap, L, h1, h2, h3, h4⟩ := h
  exact ⟨neg, ao, cap, L, h1, h2.fr hf h3 hb, h3, h4⟩
theorem IsNum.putx {B : Nat} {w : World} {v : Value} {x : Int} (h : IsNum B w v x) {g : Nat} (hg : g < B) (u u' : Value) : IsNum B ((w.setCell ⟨g, 0, none⟩ u).setCell ⟨g, 1, none⟩ u') v x := by
  obtain ⟨neg, ao, cap, L, h1, h2, h3, h4⟩ := h
  exact ⟨neg, ao, cap, L, h1, (h2.store h3 hg u).store h3 hg u', h3, h4⟩

/-- Block k is a number's box. -/
def IsBox (w : World) (k : Nat) : Prop := ∃ x a n c, w.heap[k]? = some (.cells #[.bool x, .slice a n c] 27 (0, 0))
/-- Nothing but numbers' boxes from Base on has turned. -/
structure Stb (Base : Nat) (w w' : World) : Prop where
  os : w'.os = w.os
  tape : w'.tape = w.tape
  output : w'.output = w.output
  size : w.heap.size ≤ w'.heap.size
  block : ∀ k, k < w.heap.size → w'.heap[k]? = w.heap[k]? ∨ (Base ≤ k ∧ IsBox w k)

theorem Stb.of {Base : Nat} {w w' : World} (h : Below w.heap.size w w') : Stb Base w w' := ⟨h.os, h.tape, h.output, h.size, fun k hk => .inl (h.block k hk)⟩
theorem Stb.drewed {Base : Nat} {w : World} : Stb Base w w.drew := ⟨rfl, rfl, rfl, Nat.le_refl _, fun _ _ => .inl rfl⟩
theorem Stb.put2 {Base : Nat} {w : World} {g : Nat} {x : Bool} {a : Option Addr} {n c : Nat} (hx : Box2 w g (.bool x) (.slice a n c)) (hg : Base ≤ g) (u u' : Value) : Stb Base w ((w.setCell ⟨g, 0, none⟩ u).setCell ⟨g, 1, none⟩ u') := by
  refine ⟨rfl, rfl, rfl, by simp [World.setCell], fun k _ => ?_⟩
  by_cases e : k = g
  · subst e; exact .inr ⟨hg, x, a, n, c, hx⟩
  · left
    rw [Below.heap_setCell _ _ _ _ (show k ≠ (⟨g, 1, none⟩ : Addr).block from e), Below.heap_setCell _ _ _ _ (show k ≠ (⟨g, 0, none⟩ : Addr).block from e)]
theorem Stb.below {Base : Nat} {w w' : World} (h : Stb Base w w') (hB : Base ≤ w.heap.size) : Below Base w w' :=
  ⟨h.os, h.tape, h.output, h.size, fun k hk => (h.block k (by omega)).resolve_right (fun e => by omega)⟩
/-- What is no box stays. -/
theorem Stb.keeps {Base : Nat} {w w' : World} (h : Stb Base w w') {k : Nat} {o : Obj} (ho : w.heap[k]? = some o) (hn : ∀ x a n c, o ≠ .cells #[.bool x, .slice a n c] 27 (0, 0)) : w'.heap[k]? = some o := by
  have hk : k < w.heap.size := (Array.getElem?_eq_some_iff.1 ho).1
  rcases h.block k hk with e | ⟨_, x, a, n, c, e⟩
  · rw [e]; exact ho
  · rw [ho] at e; exact absurd (Option.some.inj e) (hn x a n c)
theorem LimbsAt.stb {Base : Nat} {w w' : World} {ao : Option Addr} {cap : Nat} {L : List Nat} (h : LimbsAt w ao cap L) (hs : Stb Base w w') : LimbsAt w' ao cap L := by
  refine ⟨h.1, h.2.1, ?_⟩
  rcases h.2.2 with h0 | ⟨c, off, h1, h2, h3⟩
  · exact .inl h0
  · by_cases hL : L = []
    · exact .inl hL
    refine .inr ⟨c, off, h1, Nat.lt_of_lt_of_le h2 hs.size, fun i hi => ?_⟩
    rcases hs.block c h2 with e | ⟨_, x, a, n, k, e⟩
    · rw [World.cell?_of_block (a := ⟨c, off + i, none⟩) e]
      exact h3 i hi
    · have := h3 i hi
      rw [cell_of_row w c _ _ _ _ e] at this
      generalize off + i = j at this
      match j, this with
      | 0, t => simp at t
      | 1, t => simp at t
      | j + 2, t => simp at t
theorem IsNum.stb {B Base : Nat} {w w' : World} {v : Value} {x : Int} (h : IsNum B w v x) (hs : Stb Base w w') : IsNum B w' v x := by
  obtain ⟨neg, ao, cap, L, h1, h2, h3⟩ := h
  exact ⟨neg, ao, cap, L, h1, h2.stb hs, h3⟩

theorem Box2.otherx {w : World} {b g : Nat} {x y : Value} (h : Box2 w b x y) (hne : b ≠ g) (u u' : Value) : Box2 ((w.setCell ⟨g, 0, none⟩ u).setCell ⟨g, 1, none⟩ u') b x y := by
  unfold Box2
  rw [Below.heap_setCell _ _ _ _ (show b ≠ (⟨g, 1, none⟩ : Addr).block from hne), Below.heap_setCell _ _ _ _ (show b ≠ (⟨g, 0, none⟩ : Addr).block from hne)]
  exact h

theorem sub_ok {B B' : Nat} {w : World} {v u : Value} {x y : Int} (hv : IsNum B w v x) (hu : IsNum B' w u y) (hx : x.natAbs < TOP) (hy : y.natAbs < TOP) (hz : (x - y).natAbs < TOP) :
    Calls Tryz.prog 183 #[v, u] w fun e w' => ∃ r, e = .returned (.tuple #[r, .int .i64 0]) ∧ IsNum w.heap.size w' r (x - y) ∧ Below w.heap.size w w' := by
  obtain ⟨na, ao, ca, A, rfl, a1, a2, a3, a4⟩ := hv.right hx
  obtain ⟨nb, bo, cb, C, rfl, b1, b2, b3, b4⟩ := hu.right hy
  have := sub_any na nb ao bo ca cb A C w a1 b1 (by omega) (by omega)
  rw [a2, b2, a3, b3, Bool.and_self, opErr_true, opNum_true, errOf_small _ hz, numOf_small _ hz] at this
  exact this
theorem add_new {B B' : Nat} {w : World} {v u : Value} {x y : Int} (hv : IsNum B w v x) (hu : IsNum B' w u y) (hx : x.natAbs < TOP) (hy : y.natAbs < TOP) (hz : (x + y).natAbs < TOP) :
    Calls Tryz.prog 166 #[v, u] w fun e w' => ∃ r, e = .returned (.tuple #[r, .int .i64 0]) ∧ IsNum w.heap.size w' r (x + y) ∧ Below w.heap.size w w' := by
  have := add_num hv hu hx hy
  rwa [errOf_small _ hz, numOf_small _ hz] at this
theorem mul_new {B B' : Nat} {w : World} {v u : Value} {x y : Int} (hv : IsNum B w v x) (hu : IsNum B' w u y) (hx : x.natAbs < TOP) (hy : y.natAbs < TOP) (hz : (x * y).natAbs < TOP) :
    Calls Tryz.prog 163 #[v, u] w fun e w' => ∃ r, e = .returned (.tuple #[r, .int .i64 0]) ∧ IsNum w.heap.size w' r (x * y) ∧ Below w.heap.size w w' := by
  obtain ⟨na, ao, ca, A, rfl, a1, a2, a3, a4⟩ := hv.right hx
  obtain ⟨nb, bo, cb, C, rfl, b1, b2, b3, b4⟩ := hu.right hy
  have := mul_any na nb ao bo ca cb A C w a1 b1 (by omega) (by omega)
  rw [a2, b2, a3, b3, Bool.and_self, opErr_true, opNum_true, errOf_small _ hz, numOf_small _ hz] at this
  exact this

end Go.Proofs.YtfnnbkclnflpfaaGreatDoor

/- Contract of exact's expand. -/
namespace Go.Proofs.YtfnnbkclnflpfaaGreatDoor
open Go.RowKit
attribute [local go_sem ↓] Go.wp_at_zero Go.wp_at_succ

/-- A row's numbers at a set's places, each times what D says of the others, with signs, the first k places. -/
def exS (r : Nat → Int) (s : Nat) (D : Nat → Int) : Nat → Int
  | 0 => 0
  | k + 1 => exS r s D k + (if s.testBit k then (if abv s k % 2 = 0 then r k * D (del s k) else -(r k * D (del s k))) else 0)

theorem exS_bound (r : Nat → Int) (s : Nat) (D : Nat → Int) (Bd N : Nat) (k : Nat) (hr : ∀ c, c < k → (r c).natAbs ≤ Bd) (hD : ∀ c, c < k → s.testBit c = true → (D (del s c)).natAbs ≤ N) : (exS r s D k).natAbs ≤ k * (Bd * N) := by
  induction k with
  | zero => simp [exS]
  | succ k ih =>
    have h1 := ih (fun c hc => hr c (by omega)) (fun c hc => hD c (by omega))
    unfold exS
    by_cases hb : s.testBit k = true
    · have h2 : (r k * D (del s k)).natAbs ≤ Bd * N := by
        rw [Int.natAbs_mul]; exact Nat.mul_le_mul (hr k (by omega)) (hD k (by omega) hb)
      rw [if_pos hb, Nat.succ_mul]
      generalize r k * D (del s k) = t at *
      split <;> omega
    · rw [if_neg hb, Nat.succ_mul]; omega

/-- The world at hand under a name. -/
theorem at_then {K : Act → World → Prop} {Q : Exit → Act → World → Prop} {a : Act} {w : World} (F : World → Prop) (h : F w) (k : ∀ W, F W → Exit.then K Q .normal a W) : Exit.then K Q .normal a w := k w h

/-- What stands behind the product: its box g, the number in it, the sum's, what else is kept. -/
def TailF (I : World → Prop) (b : Option Nat) (w : World) (n : Bool) (a : Option Addr) (L : List Nat) (c : Nat) (np : Bool) (ap : Option Addr) (Lp : List Nat) (cp : Nat) (x y : Int) (B g : Nat) (W : World) : Prop :=
  Box2 W g (.bool np) (.slice ap Lp.length cp) ∧ IsNum B W (.agg #[.bool np, .slice ap Lp.length cp]) y ∧ IsNum (w.heap.size + 2) W (.agg #[.bool n, .slice a L.length c]) x ∧ I W ∧ Fr w.heap.size b w W ∧ Box2 W (w.heap.size + 1) (.bool n) (.slice a L.length c) ∧ Box2 W w.heap.size (.bool false) (.slice none 0 0)

theorem NumsAt.cells {w : World} {b off cap : Nat} {R : List Nm} (h : NumsAt w (some ⟨b, off, none⟩) cap R) {k : Nat} (hk : k < R.length) : w.cell? ⟨b, off + k * 2, none⟩ = some (.bool (nmAt R k).neg) ∧ w.cell? ⟨b, off + k * 2 + 1, none⟩ = some (.slice (nmAt R k).ao (nmAt R k).L.length (nmAt R k).cap) := by
  obtain ⟨b', off', e, _, hc⟩ := h.ne (by omega)
  simp only [Option.some.injEq, Addr.mk.injEq, and_true] at e
  obtain ⟨rfl, rfl⟩ := e
  exact hc k hk

end Go.Proofs.YtfnnbkclnflpfaaGreatDoor

/- A row that is a sum of others; determinants and full ranks; how great a determinant can be. No program. -/
namespace Go.Proofs.YtfnnbkclnflpfaaGreatDoor
theorem rise_le {n : Nat} : ∀ (I : List Nat) (b : Nat), I.Pairwise (· < ·) → (∀ i ∈ I, b ≤ i ∧ i < n) → b + I.length ≤ n ∨ I = []
  | [], _, _, _ => .inr rfl
  | [i], b, _, h => .inl (by have := h i (by simp); simp; omega)
  | i :: j :: I, b, hp, h => by
    have hp2 := List.pairwise_cons.1 hp
    have hi := h i (by simp)
    rcases rise_le (n := n) (j :: I) (b + 1) hp2.2 (fun t ht => by have := hp2.1 t ht; have := h t (by simp [ht]); omega) with e | e
    · left; simp at e ⊢; omega
    · simp at e

theorem van_over {k m n : Nat} {a : Nat → Nat → Int} (h : m < k ∨ n < k) : Van k a m n := by
  intro I C hI hC lI lC
  exfalso
  have h1 := rise_le (n := m) I 0 hI.1 (fun i hi => ⟨Nat.zero_le _, hI.2 i hi⟩)
  have h2 := rise_le (n := n) C 0 hC.1 (fun i hi => ⟨Nat.zero_le _, hC.2 i hi⟩)
  rcases h with h | h
  · rcases h1 with e | e
    · omega
    · subst e; simp at lI; omega
  · rcases h2 with e | e
    · omega
    · subst e; simp at lC; omega

theorem rank_le {r m n : Nat} {a : Nat → Nat → Int} (h : IsRank r a m n) : r ≤ m ∧ r ≤ n := by
  constructor
  · exact Nat.le_of_not_lt fun hlt => h.1 (van_over (.inl hlt))
  · exact Nat.le_of_not_lt fun hlt => h.1 (van_over (.inr hlt))

/-- How great a sum by the first row can be. -/
theorem exD_bound (r : Nat → Int) (B M : Nat) : ∀ (cs : List Nat) (D : List Nat → Int), (∀ c ∈ cs, (r c).natAbs ≤ B) → (∀ l, l.Sublist cs → l.length + 1 = cs.length → (D l).natAbs ≤ M) → (exD r cs D).natAbs ≤ cs.length * (B * M)
  | [], _, _, _ => by simp [exD]
  | c :: cs, D, h, hD => by
    have h1 := exD_bound r B M cs (fun l => D (c :: l)) (fun d hd => h d (by simp [hd])) (fun l hl hlen => hD (c :: l) (hl.cons_cons c) (by simp; omega))
    have h2 : (r c * D cs).natAbs ≤ B * M := by
      rw [Int.natAbs_mul]
      exact Nat.mul_le_mul (h c (by simp)) (hD cs (List.sublist_cons_self c cs) rfl)
    show (r c * D cs - exD r cs (fun l => D (c :: l))).natAbs ≤ _
    have h3 := Int.natAbs_sub_le (r c * D cs) (exD r cs (fun l => D (c :: l)))
    rw [List.length_cons, Nat.add_mul]
    omega

def factN : Nat → Nat
  | 0 => 1
  | n + 1 => (n + 1) * factN n

theorem detD_bound (B : Nat) : ∀ (rs : List (Nat → Int)) (cs : List Nat), rs.length = cs.length → (∀ r ∈ rs, ∀ c ∈ cs, (r c).natAbs ≤ B) → (detD rs cs).natAbs ≤ factN rs.length * B ^ rs.length
  | [], _, _, _ => by simp [detD, factN]
  | r :: rs, cs, hl, h => by
    have := exD_bound r B (factN rs.length * B ^ rs.length) cs (detD rs) (h r (by simp)) (fun l hs hlen => detD_bound B rs l (by simp at hl; omega) (fun s hs' c hc => h s (by simp [hs']) c (hs.subset hc)))
    refine Nat.le_trans this ?_
    rw [← hl, List.length_cons, Nat.pow_succ, show factN (rs.length + 1) = (rs.length + 1) * factN rs.length from rfl]
    generalize factN rs.length = f
    generalize B ^ rs.length = p
    have e : (rs.length + 1) * (B * (f * p)) = (rs.length + 1) * f * (p * B) := by
      simp only [Nat.mul_assoc, Nat.mul_left_comm, Nat.mul_comm]
    rw [e]
    exact Nat.le_refl _

end Go.Proofs.YtfnnbkclnflpfaaGreatDoor

/- Sets of columns and minors: what expand adds up is the minor by its last row. -/
namespace Go.Proofs.YtfnnbkclnflpfaaGreatDoor

theorem exD_snoc (r : Nat → Int) (k : Nat) : ∀ (pre : List Nat) (F : List Nat → Int), exD r (pre ++ [k]) F = exD r pre (fun l => F (l ++ [k])) + (-1) ^ pre.length * (r k * F pre)
  | [], F => by simp [exD]
  | c :: cs, F => by
    show r c * F (cs ++ [k]) - exD r (cs ++ [k]) (fun l => F (c :: l)) = r c * F (cs ++ [k]) - exD r cs (fun l => F (c :: (l ++ [k]))) + (-1) ^ (cs.length + 1) * (r k * F (c :: cs))
    rw [exD_snoc r k cs (fun l => F (c :: l)), Int.pow_succ]
    grind

def preS (s k : Nat) : List Nat := (elems s).filter (fun c => decide (c < k))
def postS (s k : Nat) : List Nat := (elems s).filter (fun c => decide (k ≤ c))

theorem set_step1 : ∀ s, s < 64 → ∀ k, k < 6 → s.testBit k = true → preS s (k + 1) = preS s k ++ [k] ∧ postS s k = k :: postS s (k + 1) ∧ elems (del s k) = preS s k ++ postS s (k + 1) := by decide +kernel
theorem set_step2 : ∀ s, s < 64 → ∀ k, k < 6 → s.testBit k = true → abv s k = (postS s (k + 1)).length ∧ del s k < 64 ∧ sz (del s k) + 1 = sz s := by decide +kernel
theorem set_step (s : Nat) (hs : s < 64) (k : Nat) (hk : k < 6) (hb : s.testBit k = true) : preS s (k + 1) = preS s k ++ [k] ∧ postS s k = k :: postS s (k + 1) ∧ elems (del s k) = preS s k ++ postS s (k + 1) ∧ abv s k = (postS s (k + 1)).length ∧ del s k < 64 ∧ sz (del s k) + 1 = sz s :=
  ⟨(set_step1 s hs k hk hb).1, (set_step1 s hs k hk hb).2.1, (set_step1 s hs k hk hb).2.2, set_step2 s hs k hk hb⟩
theorem set_stay : ∀ s, s < 64 → ∀ k, k < 6 → s.testBit k = false → preS s (k + 1) = preS s k ∧ postS s k = postS s (k + 1) := by decide +kernel
theorem set_ends : ∀ s, s < 64 → preS s 0 = [] ∧ postS s 0 = elems s ∧ sz s ≤ 6 ∧ (0 < s → 0 < sz s) := by decide +kernel
theorem set_width : ∀ n, n ≤ 6 → ∀ s, s < 2 ^ n → sz s ≤ n ∧ preS s n = elems s ∧ postS s n = [] ∧ ∀ c ∈ elems s, c < n := by decide +kernel
theorem set_full : ∀ n, n ≤ 6 → elems (2 ^ n - 1) = List.range n ∧ 2 ^ n ≤ 64 := by decide +kernel
theorem del_lt : ∀ s, s < 64 → ∀ k, k < 6 → s.testBit k = true → del s k < s := by decide +kernel

theorem parity (m : Nat) : ((-1 : Int) ^ m = 1 ∧ m % 2 = 0) ∨ ((-1 : Int) ^ m = -1 ∧ m % 2 = 1) := by
  induction m with
  | zero => simp
  | succ m ih =>
    rw [Int.pow_succ]
    rcases ih with ⟨h1, h2⟩ | ⟨h1, h2⟩
    · right; rw [h1]; constructor
      · rfl
      · omega
    · left; rw [h1]; constructor
      · rfl
      · omega

theorem exS_part (r : Nat → Int) (F : List Nat → Int) (s : Nat) (hs : s < 64) : ∀ k, k ≤ 6 → exS r s (fun t => F (elems t)) k = (-1) ^ (postS s k).length * ((-1) ^ ((preS s k).length + 1) * exD r (preS s k) (fun l => F (l ++ postS s k))) := by
  intro k
  induction k with
  | zero => intro _; rw [(set_ends s hs).1]; simp [exS, exD]
  | succ k ih =>
    intro hk
    unfold exS
    rw [ih (by omega)]
    by_cases hb : s.testBit k = true
    · obtain ⟨h1, h2, h3, h4, _, _⟩ := set_step s hs k (by omega) hb
      rw [if_pos hb, h1, exD_snoc, h2, h3, h4, List.length_append, List.length_cons, Int.pow_succ, Int.pow_succ, Int.pow_succ]
      simp only [List.length_nil, List.length_cons, Nat.zero_add, List.append_assoc, List.cons_append, List.nil_append]
      rw [Int.pow_succ]
      generalize exD r (preS s k) (fun l => F (l ++ k :: postS s (k + 1))) = e
      generalize r k * F (preS s k ++ postS s (k + 1)) = f
      rcases parity (postS s (k + 1)).length with ⟨p1, p2⟩ | ⟨p1, p2⟩ <;> rcases parity (preS s k).length with ⟨q1, _⟩ | ⟨q1, _⟩ <;> rw [p1, q1, p2] <;> simp <;> omega
    · have hb' : s.testBit k = false := by simpa using hb
      obtain ⟨h1, h2⟩ := set_stay s hs k (by omega) hb'
      rw [if_neg hb, h1, h2, Int.add_zero]

/-- What a minor by its last row is. -/
theorem exS_det (r : Nat → Int) (rs : List (Nat → Int)) (s n : Nat) (hn : n ≤ 6) (hs : s < 2 ^ n) (hl : rs.length + 1 = sz s) : exS r s (fun t => detD rs (elems t)) n = detD (rs ++ [r]) (elems s) := by
  have h64 : s < 64 := Nat.lt_of_lt_of_le hs (set_full n hn).2
  obtain ⟨_, h2, h3, _⟩ := set_width n hn s hs
  rw [exS_part r (detD rs) s h64 n hn, h2, h3, detD_last, detD_cons]
  have e : (elems s).length = rs.length + 1 := hl.symm
  rw [e, Int.pow_succ, Int.pow_succ]
  simp

/-- The bound of numbers of 80 limbs; of minors of these. -/
def N80 : Nat := 80
def B80 : Nat := 4294967296 ^ N80
def NB (k : Nat) : Nat := factN k * B80 ^ k
theorem NB_small (k : Nat) (hk : k ≤ 5) : 6 * (B80 * NB k) < TOP ∧ B80 < TOP ∧ NB k < TOP ∧ 1 < TOP := by
  have hB : 1 ≤ B80 := Nat.pow_pos (by decide)
  have hf : factN k ≤ 120 := by
    match k, hk with
    | 0, _ => decide
    | 1, _ => decide
    | 2, _ => decide
    | 3, _ => decide
    | 4, _ => decide
    | 5, _ => decide
  have hp : B80 ^ (k + 1) ≤ B80 ^ 6 := Nat.pow_le_pow_right hB (by omega)
  have hT : 720 * B80 ^ 6 < TOP := by
    obtain ⟨q, hq⟩ : ∃ q, q = N80 * 6 := ⟨_, rfl⟩
    have h1 : B80 ^ 6 = 4294967296 ^ q := by unfold B80; rw [← Nat.pow_mul, hq]
    have hq' : q + 1 ≤ TOPN := by rw [hq]; decide
    have h2 : (4294967296 : Nat) ^ (q + 1) ≤ TOP := Nat.pow_le_pow_right (by decide) hq'
    rw [Nat.pow_succ, ← h1] at h2
    clear h1 hq hq'
    have h3 : 0 < B80 ^ 6 := Nat.pow_pos hB
    generalize B80 ^ 6 = x at *
    omega
  have h0 : B80 ^ 1 ≤ B80 ^ 6 := Nat.pow_le_pow_right hB (by omega)
  rw [Nat.pow_one] at h0
  have h1 : B80 * NB k ≤ 120 * B80 ^ 6 := by
    unfold NB
    rw [show B80 * (factN k * B80 ^ k) = factN k * B80 ^ (k + 1) by rw [Nat.pow_succ, Nat.mul_comm (B80 ^ k) B80, ← Nat.mul_assoc, ← Nat.mul_assoc, Nat.mul_comm B80 (factN k)]]
    exact Nat.mul_le_mul hf hp
  have h2 : NB k ≤ B80 * NB k := Nat.le_mul_of_pos_left _ hB
  generalize B80 ^ 6 = x at *
  generalize B80 * NB k = y at *
  refine ⟨by omega, by omega, by omega, by omega⟩

end Go.Proofs.YtfnnbkclnflpfaaGreatDoor

