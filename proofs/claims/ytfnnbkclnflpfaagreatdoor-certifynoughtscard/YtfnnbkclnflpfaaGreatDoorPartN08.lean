/- Part 8 of the texts. -/
import Derived.Test.YtfnnbkclnflpfaaGreatDoorPartN06
import Derived.Test.YtfnnbkclnflpfaaGreatDoorPartN07
import Derived.Test.YtfnnbkclnflpfaaGreatDoorPartN05
import Derived.Test.YtfnnbkclnflpfaaGreatDoorPartN02
import Derived.RegionTactic
import Derived.BigRegion
import Derived.Deep.AppendLies
/- Same of two numbers; awake. -/
namespace Go.Proofs.YtfnnbkclnflpfaaGreatDoor
open Go.RowKit

theorem sameB_num {na nb : Bool} {A B : List Nat} {x y : Int} (fA : Fits A) (fB : Fits B) (cA : Canon A) (cB : Canon B) (ea : na = decide (x < 0)) (eb : nb = decide (y < 0)) (va : val A = x.natAbs) (vb : val B = y.natAbs) : sameB na A nb B = decide (x = y) := by
  unfold sameB
  rw [decide_eq_decide]
  constructor
  · rintro ⟨h1, h2⟩
    subst h2
    rw [ea, eb, decide_eq_decide] at h1
    omega
  · rintro rfl
    exact ⟨by rw [ea, eb], eq_of_canon A B fA fB cA cB (by omega)⟩

theorem same_num {B B' : Nat} {w : World} {v u : Value} {x y : Int} (hv : IsNum B w v x) (hu : IsNum B' w u y) :
    Calls Tryz.prog 73 #[v, u] w fun e w' => e = .returned (.bool (decide (x = y))) ∧ Below w.heap.size w w' := by
  obtain ⟨na, ao, ca, A, rfl, a1, a2, a3, a4, a5, a6⟩ := hv
  obtain ⟨nb, bo, cb, C, rfl, b1, b2, b3, b4, b5, b6⟩ := hu
  have := same_any na nb ao bo ca cb A C w a1 b1 a6 b6
  rwa [sameB_num a1.2.1 b1.2.1 a3 b3 a4 b4 a5 b5] at this

/-- A right number's struct: what Add and the like ask. -/
theorem IsNum.right {B : Nat} {w : World} {v : Value} {x : Int} (h : IsNum B w v x) (hx : x.natAbs < TOP) :
    ∃ neg ao cap L, v = .agg #[.bool neg, .slice ao L.length cap] ∧ LimbsAt w ao cap L ∧ rightB neg L = true ∧ sval neg L = x ∧ L.length ≤ 512 := by
  obtain ⟨neg, ao, cap, L, rfl, h1, h2, h3, h4, h5, h6⟩ := h
  have hl : L.length ≤ 512 := (val_lt_TOP L h1.2.1 h3).1 (by omega)
  refine ⟨neg, ao, cap, L, rfl, h1, ?_, ?_, hl⟩
  · have e0 : L.length = 0 → neg = false := fun e => by
      have : L = [] := List.length_eq_zero_iff.1 e
      subst this
      rw [h4]; simp [val] at h5; simp; omega
    have e1 : L.length = 0 ∨ L[L.length - 1]?.getD 0 ≠ 0 := by
      rcases h3 with h | h
      · left; rw [h]; rfl
      · exact .inr h
    simp only [rightB, Bool.and_eq_true, decide_eq_true_eq, Bool.not_eq_true', Bool.and_eq_false_iff, decide_eq_false_iff_not, Bool.or_eq_true]
    refine ⟨⟨hl, ?_⟩, e1⟩
    by_cases e : L.length = 0
    · exact .inr (e0 e)
    · exact .inl e
  · unfold sval
    rw [h4]
    by_cases hx0 : x < 0
    · simp [hx0]; omega
    · simp [hx0]; omega

/-- Add of two right numbers. -/
theorem add_num {B B' : Nat} {w : World} {v u : Value} {x y : Int} (hv : IsNum B w v x) (hu : IsNum B' w u y) (hx : x.natAbs < TOP) (hy : y.natAbs < TOP) :
    Calls Tryz.prog 166 #[v, u] w fun e w' => ∃ r, e = .returned (.tuple #[r, .int .i64 (errOf (x + y))]) ∧ IsNum w.heap.size w' r (numOf (x + y)) ∧ Below w.heap.size w w' := by
  obtain ⟨na, ao, ca, A, rfl, a1, a2, a3, a4⟩ := hv.right hx
  obtain ⟨nb, bo, cb, C, rfl, b1, b2, b3, b4⟩ := hu.right hy
  have := add_any na nb ao bo ca cb A C w a1 b1 (by omega) (by omega)
  rwa [a2, b2, a3, b3, Bool.and_self, opErr_true, opNum_true] at this

theorem errOf_small (x : Int) (h : x.natAbs < TOP) : errOf x = 0 := by unfold errOf; rw [if_pos h]
theorem numOf_small (x : Int) (h : x.natAbs < TOP) : numOf x = x := by unfold numOf; rw [if_pos h]

end Go.Proofs.YtfnnbkclnflpfaaGreatDoor

/- Contracts of the reference's Double, Half. -/
namespace Go.Proofs.YtfnnbkclnflpfaaGreatDoor
open Go.RowKit
attribute [local go_sem ↓] Go.wp_at_zero Go.wp_at_succ
theorem Box2.other {w : World} {b : Nat} {x y : Value} (h : Box2 w b x y) {p : Addr} (hp : b ≠ p.block) (u : Value) : Box2 (w.setCell p u) b x y := (Below.heap_setCell w p u b hp).trans h

end Go.Proofs.YtfnnbkclnflpfaaGreatDoor

/- What stays where one row is written over; copied of any number. -/
namespace Go.Proofs.YtfnnbkclnflpfaaGreatDoor
open Go.RowKit
theorem Box2.grown {w w' : World} {b k : Nat} {x y : Value} (h : Box2 w b x y) (hg : w.grownBy w' (some k)) (hne : b ≠ k) : Box2 w' b x y := (hg.block b h.lt (by simpa using hne)).trans h

theorem LimbsAt.grown {w w' : World} {ao : Option Addr} {cap k : Nat} {L : List Nat} (h : LimbsAt w ao cap L) (hg : w.grownBy w' (some k)) (hne : ∀ b off, ao = some ⟨b, off, none⟩ → L ≠ [] → b ≠ k) : LimbsAt w' ao cap L := by
  refine ⟨h.1, h.2.1, ?_⟩
  rcases h.2.2 with h0 | ⟨b, off, h1, h2, h3⟩
  · exact .inl h0
  · by_cases he : L = []
    · exact .inl he
    · have hb := hg.block b h2 (by have := hne b off h1 he; simpa using this)
      refine .inr ⟨b, off, h1, Nat.lt_of_lt_of_le h2 hg.size, fun i hi => ?_⟩
      rw [World.cell?_of_block (a := ⟨b, off + i, none⟩) hb]
      exact h3 i hi

theorem IsNum.grown {w w' : World} {B k : Nat} {v : Value} {x : Int} (h : IsNum B w v x) (hg : w.grownBy w' (some k)) (hk : k < B) : IsNum B w' v x := by
  obtain ⟨neg, ao, cap, L, h1, h2, h3, h4⟩ := h
  refine ⟨neg, ao, cap, L, h1, h2.grown hg ?_, h3, h4⟩
  intro b off e he
  rcases h3 with h0 | ⟨b', off', e', hb'⟩
  · exact absurd h0 he
  · rw [e] at e'
    simp only [Option.some.injEq, Addr.mk.injEq] at e'
    omega

end Go.Proofs.YtfnnbkclnflpfaaGreatDoor

/- Plain facts for the reference's Shift. -/
namespace Go.Proofs.YtfnnbkclnflpfaaGreatDoor
open Go.RowKit

/-- A size times 2^m, without what is behind the point. -/
def shF (v : Nat) (m : Int) : Nat := if 0 ≤ m then v * 2 ^ m.toNat else v / 2 ^ (-m).toNat
theorem shV_shF (neg : Bool) (L : List Nat) (n : Int) : shV neg L n = sg neg (shF (val L) n) := rfl
theorem shF_zero (m : Int) : shF 0 m = 0 := by unfold shF; split <;> simp
theorem shF_end (v : Nat) : shF v 0 = v := by unfold shF; simp
theorem sg_sign (nn : Bool) (v : Nat) (m : Int) : sg (decide (sg nn v < 0)) (shF v m) = sg nn (shF v m) := by
  by_cases hv : v = 0
  · subst hv; rw [shF_zero]; unfold sg; simp
  · have : decide (sg nn v < 0) = nn := by unfold sg; cases nn <;> simp <;> omega
    rw [this]
theorem natAbs_sg (nn : Bool) (v : Nat) : (sg nn v).natAbs = v := by unfold sg; cases nn <;> simp

/-- What holds at the head of each of the four loops. -/
def ShI (w wr : World) (z m : Int) (nn : Bool) (a : Option Addr) (c : Nat) (L : List Nat) : Prop :=
  Box2 wr w.heap.size (.bool nn) (.slice a L.length c) ∧ Box2 wr (w.heap.size + 1) (.bool false) (.slice none 0 0) ∧ LimbsAt wr a c L ∧ Canon L ∧ (nn = true → L ≠ []) ∧ L.length + m.toNat ≤ 20000 ∧ sg nn (shF (val L) m) = z ∧ Below w.heap.size w wr

theorem Box2.put {w : World} {b : Nat} {x y : Value} (h : Box2 w b x y) (u u' : Value) : Box2 ((w.setCell ⟨b, 0, none⟩ u).setCell ⟨b, 1, none⟩ u') b u u' := by
  have h1 := heap_setCell_same w b 0 _ _ u h
  have h2 := heap_setCell_same (w.setCell ⟨b, 0, none⟩ u) b 1 _ _ u' h1
  unfold Box2
  rw [h2]
  simp

/-- The number that a step has made is stored into the variable. -/
theorem ShI.step {w w2 : World} {z m x : Int} {nn n0 n' : Bool} {a0 a' : Option Addr} {l0 c0 c' v M B : Nat} {L' : List Nat}
    (hb : Box2 w2 w.heap.size (.bool n0) (.slice a0 l0 c0)) (hr : Box2 w2 (w.heap.size + 1) (.bool false) (.slice none 0 0))
    (i : LimbsAt w2 a' c' L' ∧ NewAt B a' L' ∧ Canon L' ∧ n' = decide (x < 0) ∧ val L' = x.natAbs ∧ L'.length ≤ M) (hx : x = sg nn v) (hz : sg nn (shF v m) = z) (hl : M + m.toNat ≤ 20000) (hbel : Below w.heap.size w w2) :
    ShI w ((w2.setCell ⟨w.heap.size, 0, none⟩ (.bool n')).setCell ⟨w.heap.size, 1, none⟩ (.slice a' L'.length c')) z m n' a' c' L' := by
  obtain ⟨i1, i2, i3, i4, i5, i6⟩ := i
  subst hx
  rw [natAbs_sg] at i5
  refine ⟨hb.put _ _, (hr.other (by simp) _).other (by simp) _, i1.box hb _ _, i3, ?_, by omega, ?_, (hbel.setCell (by simp) _).setCell (by simp) _⟩
  · rintro e rfl
    rw [e] at i4
    simp [val] at i5
    have := of_decide_eq_true i4.symm
    rw [← i5] at this
    unfold sg at this
    simp at this
  · rw [i4, i5, sg_sign]; exact hz

theorem ShI.last {w wr : World} {z m : Int} {nn : Bool} {a : Option Addr} {c : Nat} {L : List Nat} (h : ShI w wr z m nn a c L) (he : m = 0 ∨ L = []) : IsNum 0 wr (.agg #[.bool nn, .slice a L.length c]) z := by
  obtain ⟨h1, h2, h3, h4, h5, h6, h7, h8⟩ := h
  by_cases h0 : L = []
  · subst h0
    have : nn = false := by cases nn <;> simp_all
    subst this
    simp only [val, shF_zero] at h7
    rw [← h7]
    exact IsNum.zero _ _ _ _
  · rcases he with rfl | he
    · rw [shF_end] at h7
      rw [← h7, ← sval_sg]
      exact IsNum.mk h3 (NewAt.zero h3) h4 h0 (by omega)
    · exact absurd he h0

end Go.Proofs.YtfnnbkclnflpfaaGreatDoor

/- A right number that came in. -/
namespace Go.Proofs.YtfnnbkclnflpfaaGreatDoor
open Go.RowKit

/-- A right number that came in, as a number. -/
theorem right_num {B : Nat} {w : World} {neg : Bool} {ao : Option Addr} {cap : Nat} {L : List Nat} (h : LimbsAt w ao cap L) (hr : rightB neg L = true) (hn : NewAt B ao L) : IsNum B w (.agg #[.bool neg, .slice ao L.length cap]) (sval neg L) := by
  have hc := right_canon hr
  by_cases h0 : L = []
  · subst h0
    have : neg = false := by cases neg <;> simp_all
    subst this
    exact IsNum.zero _ _ _ _
  · exact IsNum.mk h hn hc.2.1 h0 (by omega)

end Go.Proofs.YtfnnbkclnflpfaaGreatDoor

