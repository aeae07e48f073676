/- Part 11 of the texts. -/
import Derived.Test.YtlbggedahpnjgaaDoorPart10
import Derived.Test.YtlbggedahpnjgaaDoorPart07
import Derived.Deep.RegionLaw
import Derived.Test.YtlbggedahpnjgaaDoorPart08
import Derived.Test.YtlbggedahpnjgaaDoorPart05
import Derived.Test.YtlbggedahpnjgaaDoorPart02
/- Plain facts for the reference's Shift. -/
namespace Go.Proofs.YtlbggedahpnjgaaDoor
open Go.RowKit

/-- A size times 2^m, without what is behind the point. -/
def shF (v : Nat) (m : Int) : Nat := if 0 ≤ m then v * 2 ^ m.toNat else v / 2 ^ (-m).toNat
theorem shV_shF (neg : Bool) (L : List Nat) (n : Int) : shV neg L n = sg neg (shF (val L) n) := rfl
theorem shF_zero (m : Int) : shF 0 m = 0 := by unfold shF; split <;> simp
theorem shF_end (v : Nat) : shF v 0 = v := by unfold shF; simp
theorem shF_up32 (v : Nat) (m : Int) (h : 32 ≤ m) : shF (4294967296 * v) (m - 32) = shF v m := by
  unfold shF
  rw [if_pos (by omega), if_pos (by omega), show m.toNat = 32 + (m - 32).toNat by omega, Nat.pow_add, ← Nat.mul_assoc, Nat.mul_comm v, show (2 : Nat) ^ 32 = 4294967296 from rfl]
theorem shF_up1 (v : Nat) (m : Int) (h : 1 ≤ m) : shF (v + v) (m - 1) = shF v m := by
  unfold shF
  rw [if_pos (by omega), if_pos (by omega), show m.toNat = 1 + (m - 1).toNat by omega, Nat.pow_add, ← Nat.mul_assoc, show v * 2 ^ 1 = v + v by omega]
theorem shF_dn32 (v : Nat) (m : Int) (h : m ≤ -32) : shF (v / 4294967296) (m + 32) = shF v m := by
  unfold shF
  rw [if_neg (show ¬ 0 ≤ m by omega), show (-m).toNat = 32 + (-(m + 32)).toNat by omega, Nat.pow_add, ← Nat.div_div_eq_div_mul, show (2 : Nat) ^ 32 = 4294967296 from rfl]
  by_cases h0 : 0 ≤ m + 32
  · rw [if_pos h0, show (m + 32).toNat = 0 by omega, show (-(m + 32)).toNat = 0 by omega]; simp
  · rw [if_neg h0]
theorem shF_dn1 (v : Nat) (m : Int) (h : m ≤ -1) : shF (v / 2) (m + 1) = shF v m := by
  unfold shF
  rw [if_neg (show ¬ 0 ≤ m by omega), show (-m).toNat = 1 + (-(m + 1)).toNat by omega, Nat.pow_add, ← Nat.div_div_eq_div_mul, show (2 : Nat) ^ 1 = 2 from rfl]
  by_cases h0 : 0 ≤ m + 1
  · rw [if_pos h0, show (m + 1).toNat = 0 by omega, show (-(m + 1)).toNat = 0 by omega]; simp
  · rw [if_neg h0]
theorem sg_sign (nn : Bool) (v : Nat) (m : Int) : sg (decide (sg nn v < 0)) (shF v m) = sg nn (shF v m) := by
  by_cases hv : v = 0
  · subst hv; rw [shF_zero]; unfold sg; simp
  · have : decide (sg nn v < 0) = nn := by unfold sg; cases nn <;> simp <;> omega
    rw [this]
theorem natAbs_sg (nn : Bool) (v : Nat) : (sg nn v).natAbs = v := by unfold sg; cases nn <;> simp

/-- What holds at the head of each of the four loops. -/
def ShI (w wr : World) (z m : Int) (nn : Bool) (a : Option Addr) (c : Nat) (L : List Nat) : Prop :=
  Box2 wr w.heap.size (.bool nn) (.slice a L.length c) ∧ Box2 wr (w.heap.size + 1) (.bool false) (.slice none 0 0) ∧ LimbsAt wr a c L ∧ Canon L ∧ (nn = true → L ≠ []) ∧ L.length + m.toNat ≤ 20000 ∧ sg nn (shF (val L) m) = z ∧ Below w.heap.size w wr

theorem Box2.put {w : World} {b : Nat} {x y : Value} (h : Box2 w b x y) (u u' : Value) : Box2 ((w.setCell ⟨b, 0, none⟩ u).setCell ⟨b, 1, none⟩ u') b u u' := by
  have h1 := heap_setCell_same w b 0 _ _ u h
  have h2 := heap_setCell_same (w.setCell ⟨b, 0, none⟩ u) b 1 _ _ u' h1
  unfold Box2
  rw [h2]
  simp

/-- The number that a step has made is stored into the variable. -/
theorem ShI.step {w w2 : World} {z m x : Int} {nn n0 n' : Bool} {a0 a' : Option Addr} {l0 c0 c' v M B : Nat} {L' : List Nat}
    (hb : Box2 w2 w.heap.size (.bool n0) (.slice a0 l0 c0)) (hr : Box2 w2 (w.heap.size + 1) (.bool false) (.slice none 0 0))
    (i : LimbsAt w2 a' c' L' ∧ NewAt B a' L' ∧ Canon L' ∧ n' = decide (x < 0) ∧ val L' = x.natAbs ∧ L'.length ≤ M) (hx : x = sg nn v) (hz : sg nn (shF v m) = z) (hl : M + m.toNat ≤ 20000) (hbel : Below w.heap.size w w2) :
    ShI w ((w2.setCell ⟨w.heap.size, 0, none⟩ (.bool n')).setCell ⟨w.heap.size, 1, none⟩ (.slice a' L'.length c')) z m n' a' c' L' := by
  obtain ⟨i1, i2, i3, i4, i5, i6⟩ := i
  subst hx
  rw [natAbs_sg] at i5
  refine ⟨hb.put _ _, (hr.other (by simp) _).other (by simp) _, i1.box hb _ _, i3, ?_, by omega, ?_, (hbel.setCell (by simp) _).setCell (by simp) _⟩
  · rintro e rfl
    rw [e] at i4
    simp [val] at i5
    have := of_decide_eq_true i4.symm
    rw [← i5] at this
    unfold sg at this
    simp at this
  · rw [i4, i5, sg_sign]; exact hz

theorem ShI.last {w wr : World} {z m : Int} {nn : Bool} {a : Option Addr} {c : Nat} {L : List Nat} (h : ShI w wr z m nn a c L) (he : m = 0 ∨ L = []) : IsNum 0 wr (.agg #[.bool nn, .slice a L.length c]) z := by
  obtain ⟨h1, h2, h3, h4, h5, h6, h7, h8⟩ := h
  by_cases h0 : L = []
  · subst h0
    have : nn = false := by cases nn <;> simp_all
    subst this
    simp only [val, shF_zero] at h7
    rw [← h7]
    exact IsNum.zero _ _ _ _
  · rcases he with rfl | he
    · rw [shF_end] at h7
      rw [← h7, ← sval_sg]
      exact IsNum.mk h3 (NewAt.zero h3) h4 h0 (by omega)
    · exact absurd he h0

theorem LimbsAt.drop1 {w : World} {b off c : Nat} {L : List Nat} (h : LimbsAt w (some ⟨b, off, none⟩) c L) : LimbsAt w (some ⟨b, off + 1, none⟩) (c - 1) (L.drop 1) := by
  refine ⟨by have := h.1; simp; omega, fun x hx => h.2.1 x (List.mem_of_mem_drop hx), ?_⟩
  rcases h.2.2 with h0 | ⟨b', off', h1, h2, h3⟩
  · left; simp [h0]
  · simp only [Option.some.injEq, Addr.mk.injEq, and_true] at h1
    obtain ⟨rfl, rfl⟩ := h1
    refine .inr ⟨b, off + 1, rfl, h2, fun i hi => ?_⟩
    simp at hi
    have := h3 (i + 1) (by omega)
    rw [show off + 1 + i = off + (i + 1) by omega, this, List.getElem?_drop, Nat.add_comm 1 i]

theorem zero_limbs (L : List Nat) : val (0 :: L) = 4294967296 * val L := by simp [val]

end Go.Proofs.YtlbggedahpnjgaaDoor

/- Contract of the reference's Shift. -/
namespace Go.Proofs.YtlbggedahpnjgaaDoor
open Go.RowKit
attribute [local go_sem ↓] Go.wp_at_zero Go.wp_at_succ

theorem own_one (W : World) (base g : Nat) (hs : W.heap.size = g) (hb : base ≤ g) : ((W.alloc (.cells #[.int .u32 0] 87)).drew).ownsRow base 87 1 (.slice (some ⟨g, 0, none⟩) 1 1) 1 [.int .u32 0] := by
  subst hs
  exact ⟨by simp, .inr ⟨W.heap.size, 1, #[.int .u32 0], rfl, hb, heap_alloc_new W _, Nat.le_refl _, by simp [maxLen], by simp, by simp⟩⟩

theorem ne_of_val {L : List Nat} (h : val L ≠ 0) : L ≠ [] := by
  rintro rfl
  simp [val] at h

end Go.Proofs.YtlbggedahpnjgaaDoor

/- A right number that came in. -/
namespace Go.Proofs.YtlbggedahpnjgaaDoor
open Go.RowKit

/-- A right number that came in, as a number. -/
theorem right_num {B : Nat} {w : World} {neg : Bool} {ao : Option Addr} {cap : Nat} {L : List Nat} (h : LimbsAt w ao cap L) (hr : rightB neg L = true) (hn : NewAt B ao L) : IsNum B w (.agg #[.bool neg, .slice ao L.length cap]) (sval neg L) := by
  have hc := right_canon hr
  by_cases h0 : L = []
  · subst h0
    have : neg = false := by cases neg <;> simp_all
    subst this
    exact IsNum.zero _ _ _ _
  · exact IsNum.mk h hn hc.2.1 h0 (by omega)

end Go.Proofs.YtlbggedahpnjgaaDoor

/- The reference's Shift of any right number; light. -/
namespace Go.Proofs.YtlbggedahpnjgaaDoor
open Go.RowKit
attribute [local go_sem ↓] Go.wp_at_zero Go.wp_at_succ

/-- Can numbers be gone through here? -/
def lt1 (n : Bool) (L : List Nat) : Bool := decide (L.length ≤ 40) || !rightB n L

end Go.Proofs.YtlbggedahpnjgaaDoor

/- Contract of the reference's single: limbs times one limb. -/
namespace Go.Proofs.YtlbggedahpnjgaaDoor
open Go.RowKit

theorem single_step (A S : List Nat) (x c y : Nat) (hy : A[S.length]?.getD 0 = y) (h : val S + 4294967296 ^ S.length * c = val (A.take S.length) * x) :
    val (S ++ [(y * x + c) % 4294967296]) + 4294967296 ^ (S.length + 1) * ((y * x + c) / 4294967296) = val (A.take (S.length + 1)) * x := by
  rw [val_snoc, val_take_succ A, hy, Nat.add_mul]
  have e := pow_step (4294967296 ^ S.length) 4294967296 (y * x + c)
  rw [Nat.pow_succ]
  rw [Nat.mul_add, ← Nat.mul_assoc] at e
  omega

theorem single_casts (x y c : Nat) : (((y * x + c) % 4294967296 : Nat) : Int) = ((y : Int) * (x : Int) + (c : Int)) % 4294967296 ∧ (((y * x + c) / 4294967296 : Nat) : Int) = ((y : Int) * (x : Int) + (c : Int)) / 4294967296 := by
  have e : ((y * x : Nat) : Int) = (y : Int) * (x : Int) := Int.natCast_mul y x
  rw [← e]
  omega

end Go.Proofs.YtlbggedahpnjgaaDoor

