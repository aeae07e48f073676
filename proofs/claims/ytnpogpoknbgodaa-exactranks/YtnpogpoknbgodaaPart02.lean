/- Part 2 of the texts. -/
import Derived.Test.YtnpogpoknbgodaaPart01
import Derived.Outline
import Derived.Deep.RegionWith
import Derived.Deep.RegionHeld3
import Derived.Deep.DrawnRows
import Derived.BigQuiet
/- A row of limbs that the call itself made: its block, known whole. -/
namespace Go.Proofs.Ytnpogpoknbgodaa
open Go.RowKit

def limbV (x : Nat) : Value := .int .u32 (x : Int)

/-- Block g holds the limbs S, and nothing of it is frozen. -/
def RowAt (w : World) (g : Nat) (S : List Nat) : Prop := w.heap[g]? = some (.cells (S.map limbV).toArray 60 (0, 0))

theorem RowAt.cell {w : World} {g : Nat} {S : List Nat} (h : RowAt w g S) (j : Nat) (hj : j < S.length) : w.cell? ⟨g, j, none⟩ = some (.int .u32 ((S[j]?.getD 0 : Nat) : Int)) := by
  rw [cell_of_row w g j _ _ _ h]
  simp [limbV, hj]

theorem RowAt.free {w : World} {g : Nat} {S : List Nat} (h : RowAt w g S) (j : Nat) : w.frozen? ⟨g, j, none⟩ = false := frozen_of_row w g j _ _ h

theorem RowAt.set {w : World} {g : Nat} {S : List Nat} (h : RowAt w g S) (j x : Nat) : RowAt (w.setCell ⟨g, j, none⟩ (.int .u32 (x : Int))) g (S.set j x) := by
  unfold RowAt
  rw [heap_setCell_same w g j _ _ _ h]
  simp [List.map_set, limbV]

theorem RowAt.lt {w : World} {g : Nat} {S : List Nat} (h : RowAt w g S) : g < w.heap.size := (Array.getElem?_eq_some_iff.1 h).1

theorem RowAt.limbs {w : World} {g : Nat} {S : List Nat} (h : RowAt w g S) (hf : Fits S) (cap : Nat) (hc : S.length ≤ cap) : LimbsAt w (some ⟨g, 0, none⟩) cap S :=
  ⟨hc, hf, .inr ⟨g, 0, rfl, h.lt, fun i hi => by rw [Nat.zero_add]; exact h.cell i hi⟩⟩

theorem RowAt.below {w w' : World} {g : Nat} {S : List Nat} (h : RowAt w g S) {B : Nat} (hb : Below B w w') (hg : g < B) : RowAt w' g S := by
  unfold RowAt; rw [hb.block g hg]; exact h

theorem RowAt.drewN {w : World} {g : Nat} {S : List Nat} (h : RowAt w g S) (n : Nat) : RowAt (w.drewN n) g S := h

/-- Out of the law on 'make'. -/
theorem RowAt.made {w : World} {base g n : Nat} (h : w.ownsRow base 60 1 (.slice (some ⟨g, 0, none⟩) n n) n (madeCells (Value.int .u32 0).cells (n * 1)).toList) : RowAt w g (List.replicate n 0) := by
  rcases h.2 with ⟨h', _⟩ | ⟨g', cap', cur, h', _, hg, _, _, hs, htake⟩
  · simp at h'
  · simp only [Value.slice.injEq, Option.some.injEq, Addr.mk.injEq, and_true, true_and] at h'
    obtain ⟨rfl, rfl⟩ := h'
    unfold RowAt
    rw [hg]
    rw [List.take_of_length_le (by simp [hs])] at htake
    have : cur = ((List.replicate n 0).map limbV).toArray := by
      apply Array.toList_inj.1
      rw [htake]
      refine List.ext_getElem (by simp [madeCells]) fun i h1 h2 => ?_
      simp [madeCells, Value.cells, limbV, Nat.mod_one]
    rw [this]

end Go.Proofs.Ytnpogpoknbgodaa

/- What number a struct of a sign and limbs is. -/
namespace Go.Proofs.Ytnpogpoknbgodaa
open Go.RowKit

/-- The value of a sign and limbs. -/
def sval (neg : Bool) (L : List Nat) : Int := if neg then -(val L : Int) else (val L : Int)

/-- v is the number x in w: with no 0 on top, a sign only below 0; its limbs lie in blocks from B on. -/
def IsNum (B : Nat) (w : World) (v : Value) (x : Int) : Prop :=
  ∃ neg ao cap L, v = .agg #[.bool neg, .slice ao L.length cap] ∧ LimbsAt w ao cap L ∧ NewAt B ao L ∧ Canon L ∧ neg = decide (x < 0) ∧ val L = x.natAbs ∧ L.length ≤ 35184372088832

/-- 2^16384: as great as no number of 512 limbs is. -/
def TOPN : Nat := 512
def TOP : Nat := 4294967296 ^ TOPN
/-- What a number that is made answers: none, if it is too great. -/
def errOf (x : Int) : Int := if x.natAbs < TOP then 0 else 2
def numOf (x : Int) : Int := if x.natAbs < TOP then x else 0

theorem NewAt.nil (B : Nat) (ao : Option Addr) : NewAt B ao [] := .inl rfl
theorem NewAt.mono {B B' : Nat} {ao : Option Addr} {L : List Nat} (h : NewAt B ao L) (hb : B' ≤ B) : NewAt B' ao L := by
  rcases h with h | ⟨b, off, h1, h2⟩
  · exact .inl h
  · exact .inr ⟨b, off, h1, Nat.le_trans hb h2⟩
theorem NewAt.zero {w : World} {ao : Option Addr} {cap : Nat} {L : List Nat} (h : LimbsAt w ao cap L) : NewAt 0 ao L := by
  rcases h.2.2 with h | ⟨b, off, h1, _⟩
  · exact .inl h
  · exact .inr ⟨b, off, h1, Nat.zero_le _⟩

theorem IsNum.below {B : Nat} {w w' : World} {v : Value} {x : Int} (h : IsNum B w v x) (hb : Below w.heap.size w w') : IsNum B w' v x := by
  obtain ⟨neg, ao, cap, L, h1, h2, h3⟩ := h
  exact ⟨neg, ao, cap, L, h1, h2.below hb, h3⟩
theorem IsNum.mono {B B' : Nat} {w : World} {v : Value} {x : Int} (h : IsNum B w v x) (hb : B' ≤ B) : IsNum B' w v x := by
  obtain ⟨neg, ao, cap, L, h1, h2, h3, h4⟩ := h
  exact ⟨neg, ao, cap, L, h1, h2, h3.mono hb, h4⟩
theorem IsNum.zero (B : Nat) (w : World) (ao : Option Addr) (cap : Nat) : IsNum B w (.agg #[.bool false, .slice ao 0 cap]) 0 :=
  ⟨false, ao, cap, [], rfl, LimbsAt.nil _ _ _, .inl rfl, .inl rfl, rfl, rfl, by simp⟩

theorem natAbs_sval (neg : Bool) (L : List Nat) : (sval neg L).natAbs = val L := by
  unfold sval; cases neg <;> simp

/-- Limbs without a 0 on top, not none, with a sign. -/
theorem IsNum.mk {B : Nat} {w : World} {neg : Bool} {ao : Option Addr} {cap : Nat} {L : List Nat} (h : LimbsAt w ao cap L) (hn : NewAt B ao L) (c : Canon L) (h0 : L ≠ []) (hl : L.length ≤ 35184372088832) : IsNum B w (.agg #[.bool neg, .slice ao L.length cap]) (sval neg L) := by
  refine ⟨neg, ao, cap, L, rfl, h, hn, c, ?_, (natAbs_sval neg L).symm, hl⟩
  have hv : val L ≠ 0 := fun e => h0 ((val_zero_of_canon L c).1 e)
  unfold sval; cases neg <;> simp <;> omega

theorem sval_congr {neg : Bool} {L L' : List Nat} (h : val L = val L') : sval neg L = sval neg L' := by unfold sval; rw [h]
theorem sval_nil (neg : Bool) : sval neg [] = 0 := by unfold sval; cases neg <;> simp [val]

theorem val_lt_TOP (L : List Nat) (h : Fits L) (c : Canon L) : val L < TOP ↔ L.length ≤ 512 := (length_le_iff L h c TOPN).symm

end Go.Proofs.Ytnpogpoknbgodaa

/- Contracts of fit, Made. -/
namespace Go.Proofs.Ytnpogpoknbgodaa
open Go.RowKit

set_option maxHeartbeats 400000 in
theorem fit_any (B : Nat) (neg : Bool) (ao : Option Addr) (cap : Nat) (L : List Nat) (w : World) (h : LimbsAt w ao cap L) (hn : NewAt B ao L) (hl : L.length ≤ 35184372088832) :
    Calls Try.prog 59 #[.bool neg, .slice ao L.length cap] w fun e w' => ∃ v, e = .returned (.tuple #[v, .int .i64 (errOf (sval neg L))]) ∧ IsNum B w' v (numOf (sval neg L)) ∧ Below w.heap.size w w' := by
  have hT : ∀ L' : List Nat, Canon L' → Fits L' → val L' = val L → (L' = [] → errOf (sval neg L) = 0 ∧ numOf (sval neg L) = 0) ∧ (512 < L'.length → errOf (sval neg L) = 2 ∧ numOf (sval neg L) = 0) ∧ (L'.length ≤ 512 → errOf (sval neg L) = 0 ∧ numOf (sval neg L) = sval neg L') := by
    intro L' c f hv
    have hi := val_lt_TOP L' f c
    refine ⟨?_, ?_, ?_⟩
    · rintro rfl
      have : val L = 0 := by rw [← hv]; rfl
      have hT : 0 < TOP := Nat.pow_pos (by decide)
      have e : sval neg L = 0 := by unfold sval; cases neg <;> simp [this]
      simp [errOf, numOf, e, hT]
    · intro h5
      have : ¬ val L' < TOP := fun h => by have := hi.1 h; omega
      simp [errOf, numOf, natAbs_sval, ← hv, this]
    · intro h5
      have := hi.2 h5
      rw [sval_congr (neg := neg) hv]
      simp [errOf, numOf, natAbs_sval, ← hv, this]
  generalize errOf (sval neg L) = er at *
  generalize numOf (sval neg L) = nu at *
  have HT := hide hT
  clear hT
  have HN := hide hn
  clear hn
  go_enter Try.func59, Try.ntmps59
  go_wp2_with fail
  refine (trim_any ao cap L _ (h.below ?_) hl).mono ?_
  · exact (Below.refl _ _).alloc (Nat.le_refl _) _
  rintro e w' ⟨v, rfl, ⟨ao', cap', L', rfl, h2, h3, h4, h5, h6⟩, rfl⟩
  have h1 := h5 w h
  have H := hide (unhide HT L' h2 h1.2.1 h3)
  have HA := hide (h6 B (unhide HN))
  have H1 := hide h1
  have H2 := hide h2
  clear HT h3 h5 h6 h1 h2 h HN
  by_cases h0 : L' = []
  · have H0 := hide ((unhide H).1 h0)
    have hz : L'.length = 0 := by rw [h0]; rfl
    clear h0
    go_wp2
    refine bodyPost_ret (v := .tuple #[.agg #[.bool false, .slice none 0 0], .int .i64 0]) (by simp [results, Try.results59, go_sem]) rfl ⟨.agg #[.bool false, .slice none 0 0], ?_, ?_, (Below.refl _ _).alloc (Nat.le_refl _) _⟩
    · rw [(unhide H0).1]
    · rw [(unhide H0).2]; exact IsNum.zero _ _ _ _
  · have hp : 0 < L'.length := List.length_pos_iff.2 h0
    have hne : ((L'.length : Int) == 0) = false := by simp; exact h0
    by_cases h5 : L'.length ≤ 512
    · have H0 := hide ((unhide H).2.2 h5)
      go_wp2
      refine bodyPost_ret (v := .tuple #[.agg #[.bool neg, .slice ao' L'.length cap'], .int .i64 0]) (by simp [results, Try.results59, go_sem]) rfl ⟨.agg #[.bool neg, .slice ao' L'.length cap'], ?_, ?_, ?_⟩
      · rw [(unhide H0).1]
      · rw [(unhide H0).2]
        exact IsNum.mk ((unhide H1).below ((Below.refl _ _).alloc (Nat.le_refl _) _)) (unhide HA) (unhide H2) h0 (by omega)
      · exact (Below.refl _ _).alloc (Nat.le_refl _) _
    · have H0 := hide ((unhide H).2.1 (by omega))
      go_wp2
      refine bodyPost_ret (v := .tuple #[.agg #[.bool false, .slice none 0 0], .int .i64 2]) (by simp [results, Try.results59, go_sem]) rfl ⟨.agg #[.bool false, .slice none 0 0], ?_, ?_, (Below.refl _ _).alloc (Nat.le_refl _) _⟩
      · rw [(unhide H0).1]
      · rw [(unhide H0).2]; exact IsNum.zero _ _ _ _

end Go.Proofs.Ytnpogpoknbgodaa

/- Small laws for a region that draws its order and holds calls that make memory. -/
namespace Go.Proofs.Ytnpogpoknbgodaa
open Go.RowKit

/-- The world at hand under a name, with the facts that are wanted of it. -/
theorem at_world {P : Program} {c : Code} {Q : Exit → Act → World → Prop} {a : Act} {w : World} (F : World → Prop) (h : F w) (k : ∀ W, F W → Code.wp P c Q a W) : Code.wp P c Q a w := k w h

/-- Block b is a box of two cells, x and y. -/
def Box2 (w : World) (b : Nat) (x y : Value) : Prop := w.heap[b]? = some (.cells #[x, y] 35 (0, 0))
theorem Box2.c0 {w : World} {b : Nat} {x y : Value} (h : Box2 w b x y) : w.cell? ⟨b, 0, none⟩ = some x := by rw [cell_of_row w b 0 _ _ _ h]; rfl
theorem Box2.c1 {w : World} {b : Nat} {x y : Value} (h : Box2 w b x y) : w.cell? ⟨b, 1, none⟩ = some y := by rw [cell_of_row w b 1 _ _ _ h]; rfl
theorem Box2.free {w : World} {b : Nat} {x y : Value} (h : Box2 w b x y) (j : Nat) : w.frozen? ⟨b, j, none⟩ = false := frozen_of_row w b j _ _ h
theorem Box2.lt {w : World} {b : Nat} {x y : Value} (h : Box2 w b x y) : b < w.heap.size := (Array.getElem?_eq_some_iff.1 h).1
theorem Box2.below {w w' : World} {b : Nat} {x y : Value} (h : Box2 w b x y) {B : Nat} (hb : Below B w w') (hlt : b < B) : Box2 w' b x y := (hb.block b hlt).trans h
theorem Box2.new (w : World) (x y : Value) : Box2 (w.alloc (.cells #[x, y] 35)) w.heap.size x y := heap_alloc_new w _
theorem Box2.old {w : World} {b : Nat} {x y : Value} (h : Box2 w b x y) (o : Obj) : Box2 (w.alloc o) b x y := by
  unfold Box2; rw [Below.heap_alloc w o b h.lt]; exact h
theorem Box2.drew {w : World} {b : Nat} {x y : Value} (h : Box2 w b x y) : Box2 w.drew b x y := h
theorem Box2.drewN {w : World} {b : Nat} {x y : Value} (h : Box2 w b x y) (n : Nat) : Box2 (w.drewN n) b x y := h

end Go.Proofs.Ytnpogpoknbgodaa

/- Numbers and stores elsewhere. -/
namespace Go.Proofs.Ytnpogpoknbgodaa
open Go.RowKit

theorem cell_setCell_other (w : World) (a p : Addr) (u : Value) (h : a.block ≠ p.block) : (w.setCell p u).cell? a = w.cell? a :=
  World.cell?_of_block (Below.heap_setCell w p u a.block h)

theorem LimbsAt.store {w : World} {ao : Option Addr} {cap B : Nat} {L : List Nat} (h : LimbsAt w ao cap L) (hn : NewAt B ao L) {p : Addr} (hp : p.block < B) (u : Value) : LimbsAt (w.setCell p u) ao cap L := by
  refine ⟨h.1, h.2.1, ?_⟩
  rcases h.2.2 with h0 | ⟨b, off, h1, h2, h3⟩
  · exact .inl h0
  · rcases hn with h0 | ⟨b', off', h1', h2'⟩
    · exact .inl h0
    · rw [h1] at h1'
      simp only [Option.some.injEq, Addr.mk.injEq] at h1'
      obtain ⟨rfl, rfl, _⟩ := h1'
      refine .inr ⟨b, off, h1, by simpa [World.setCell] using h2, fun i hi => ?_⟩
      rw [cell_setCell_other w _ p u (by simp; omega)]
      exact h3 i hi

/-- What a function of one number answers through its result's box: the number, in the world behind the two stores. -/
theorem IsNum.stored {B B' : Nat} {w : World} {n : Bool} {ao : Option Addr} {cap : Nat} {L : List Nat} {x : Int} (h : LimbsAt w ao cap L ∧ NewAt B ao L ∧ Canon L ∧ n = decide (x < 0) ∧ val L = x.natAbs ∧ L.length ≤ 35184372088832) {p q : Addr} (hp : p.block < B) (hq : q.block < B) (hB : B' ≤ B) (u u' : Value) :
    IsNum B' ((w.setCell p u).setCell q u') (.agg #[.bool n, .slice ao L.length cap]) x :=
  ⟨n, ao, cap, L, rfl, (h.1.store h.2.1 hp u).store h.2.1 hq u', h.2.1.mono hB, h.2.2⟩

end Go.Proofs.Ytnpogpoknbgodaa

