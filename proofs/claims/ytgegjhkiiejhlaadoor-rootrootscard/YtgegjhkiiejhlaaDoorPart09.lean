/- Part 9 of the texts. -/
import Derived.Test.YtgegjhkiiejhlaaDoorPart05
import Derived.Test.YtgegjhkiiejhlaaDoorPart02
import Derived.Test.YtgegjhkiiejhlaaDoorPart07
import Derived.Test.YtgegjhkiiejhlaaDoorPart06
import Derived.Test.YtgegjhkiiejhlaaDoorPart08
/- Contract of mulLimbs. -/
namespace Go.Proofs.YtgegjhkiiejhlaaDoor
open Go.RowKit

end Go.Proofs.YtgegjhkiiejhlaaDoor

/- Contract of Mul. -/
namespace Go.Proofs.YtgegjhkiiejhlaaDoor
open Go.RowKit
attribute [local go_sem ↓] Go.wp_at_zero Go.wp_at_succ

theorem mul_big (A B : List Nat) (cA : Canon A) (cB : Canon B) (lA : A.length ≤ 512) (lB : B.length ≤ 512) (h : 512 < A.length + B.length - 1) : ¬ val A * val B < TOP := by
  have a1 : A ≠ [] := by rintro rfl; simp at h; omega
  have b1 : B ≠ [] := by rintro rfl; simp at h; omega
  have hA := val_ge A (cA.resolve_left a1)
  have hB := val_ge B (cB.resolve_left b1)
  have hm := Nat.mul_le_mul hA hB
  rw [← Nat.pow_add] at hm
  have hp : TOP ≤ 4294967296 ^ (A.length - 1 + (B.length - 1)) := by
    unfold TOP
    exact Nat.pow_le_pow_right (by decide) (show TOPN ≤ A.length - 1 + (B.length - 1) by unfold TOPN; omega)
  omega

end Go.Proofs.YtgegjhkiiejhlaaDoor

/- Contract of Of. -/
namespace Go.Proofs.YtgegjhkiiejhlaaDoor
open Go.RowKit

/-- A new block of two limbs. -/
theorem two_row (w : World) (g : Nat) (a b : Int) (lo hi : Nat) (hg : w.heap.size = g) (ha : a = (lo : Int)) (hb : b = (hi : Int)) :
    RowAt (w.alloc (.cells #[.int .u32 a, .int .u32 b] 77)) g [lo, hi] := by
  subst hg; subst ha; subst hb
  exact heap_alloc_new w _

theorem wrap_neg (n : Int) (h0 : -9223372036854775808 ≤ n) (h1 : n < 0) : IntKind.u64.wrap (-IntKind.u64.wrap n) = -n := by
  simp only [IntKind.wrap, IntKind.signed, IntKind.bits]
  simp
  omega

theorem val_two (m : Nat) : val [m % 4294967296, m / 4294967296] = m := by simp only [val]; omega

set_option maxHeartbeats 400000 in
theorem of_any (n : Int) (w : World) (h0 : -9223372036854775808 ≤ n) (h1 : n ≤ 9223372036854775807) :
    Calls Tryd.prog 55 #[.int .i64 n] w fun e w' => ∃ v, e = .returned v ∧ IsNum w.heap.size w' v n ∧ Below w.heap.size w w' := by
  obtain ⟨m, hm⟩ : ∃ m, m = n.natAbs := ⟨_, rfl⟩
  have hf : Fits [m % 4294967296, m / 4294967296] := by intro x hx; simp at hx; omega
  have HF := hide hf
  have HM := hide hm
  clear hf hm
  by_cases hn : n < 0
  · have hw := wrap_neg n h0 hn
    have HW := hide hw
    clear hw
    go_enter Tryd.func55, Tryd.ntmps55
    go_wp2_with fail
    have hm := unhide HM
    have hR := two_row (w.alloc (.cells #[.bool false, .slice none 0 0] 44)) (w.heap.size + 1) (IntKind.u64.wrap (-IntKind.u64.wrap n) % 4294967296) (IntKind.u64.wrap (-IntKind.u64.wrap n) / 4294967296 % 4294967296) (m % 4294967296) (m / 4294967296) (by simp) (by rw [unhide HW]; omega) (by rw [unhide HW]; omega)
    refine (trim_any (some ⟨w.heap.size + 1, 0, none⟩) 2 [m % 4294967296, m / 4294967296] _ (hR.limbs (unhide HF) 2 (by simp)) (by simp)).mono ?_
    rintro e w' ⟨v, rfl, ⟨ao', cap', L', rfl, g1, g2, g3, g4, g5⟩, rfl⟩
    have G4 := hide g4
    have G1 := hide g1
    have G2 := hide g2
    have G5 := hide g5
    clear g1 g2 g4 g5 hR hm
    go_wp2
    refine bodyPost_ret (v := .agg #[.bool true, .slice ao' L'.length cap']) (by simp [results, Tryd.results55, go_sem]) rfl ⟨.agg #[.bool true, .slice ao' L'.length cap'], rfl, ⟨true, ao', cap', L', rfl, unhide G4 _ ?_, unhide G5 _ (.inr ⟨_, _, rfl, by omega⟩), unhide G1, by simp [hn], ?_⟩, ?_⟩
    · refine (two_row _ (w.heap.size + 1) _ _ _ _ (by simp) ?_ ?_).limbs (unhide HF) 2 (by simp)
      · have hm := unhide HM; rw [unhide HW]; omega
      · have hm := unhide HM; rw [unhide HW]; omega
    · exact ⟨by rw [unhide G2, val_two]; exact unhide HM, by simp at g3; omega⟩
    · exact ((Below.refl _ _).alloc (Nat.le_refl _) _).alloc (by simp) _
  · go_enter Tryd.func55, Tryd.ntmps55
    go_wp2_with fail
    have hm := unhide HM
    have hR := two_row (w.alloc (.cells #[.bool false, .slice none 0 0] 44)) (w.heap.size + 1) (n % 4294967296) (n / 4294967296) (m % 4294967296) (m / 4294967296) (by simp) (by omega) (by omega)
    refine (trim_any (some ⟨w.heap.size + 1, 0, none⟩) 2 [m % 4294967296, m / 4294967296] _ (hR.limbs (unhide HF) 2 (by simp)) (by simp)).mono ?_
    rintro e w' ⟨v, rfl, ⟨ao', cap', L', rfl, g1, g2, g3, g4, g5⟩, rfl⟩
    have G4 := hide g4
    have G1 := hide g1
    have G2 := hide g2
    have G5 := hide g5
    clear g1 g2 g4 g5 hR hm
    go_wp2
    refine bodyPost_ret (v := .agg #[.bool false, .slice ao' L'.length cap']) (by simp [results, Tryd.results55, go_sem]) rfl ⟨.agg #[.bool false, .slice ao' L'.length cap'], rfl, ⟨false, ao', cap', L', rfl, unhide G4 _ ?_, unhide G5 _ (.inr ⟨_, _, rfl, by omega⟩), unhide G1, by simp; omega, ?_⟩, ?_⟩
    · refine (two_row _ (w.heap.size + 1) _ _ _ _ (by simp) ?_ ?_).limbs (unhide HF) 2 (by simp)
      · have hm := unhide HM; omega
      · have hm := unhide HM; omega
    · exact ⟨by rw [unhide G2, val_two]; exact unhide HM, by simp at g3; omega⟩
    · exact ((Below.refl _ _).alloc (Nat.le_refl _) _).alloc (by simp) _

end Go.Proofs.YtgegjhkiiejhlaaDoor

/- Same of two numbers; awake. -/
namespace Go.Proofs.YtgegjhkiiejhlaaDoor
open Go.RowKit

theorem sameB_num {na nb : Bool} {A B : List Nat} {x y : Int} (fA : Fits A) (fB : Fits B) (cA : Canon A) (cB : Canon B) (ea : na = decide (x < 0)) (eb : nb = decide (y < 0)) (va : val A = x.natAbs) (vb : val B = y.natAbs) : sameB na A nb B = decide (x = y) := by
  unfold sameB
  rw [decide_eq_decide]
  constructor
  · rintro ⟨h1, h2⟩
    subst h2
    rw [ea, eb, decide_eq_decide] at h1
    omega
  · rintro rfl
    exact ⟨by rw [ea, eb], eq_of_canon A B fA fB cA cB (by omega)⟩

/-- A right number's struct: what Add and the like ask. -/
theorem IsNum.right {B : Nat} {w : World} {v : Value} {x : Int} (h : IsNum B w v x) (hx : x.natAbs < TOP) :
    ∃ neg ao cap L, v = .agg #[.bool neg, .slice ao L.length cap] ∧ LimbsAt w ao cap L ∧ rightB neg L = true ∧ sval neg L = x ∧ L.length ≤ 512 := by
  obtain ⟨neg, ao, cap, L, rfl, h1, h2, h3, h4, h5, h6⟩ := h
  have hl : L.length ≤ 512 := (val_lt_TOP L h1.2.1 h3).1 (by omega)
  refine ⟨neg, ao, cap, L, rfl, h1, ?_, ?_, hl⟩
  · have e0 : L.length = 0 → neg = false := fun e => by
      have : L = [] := List.length_eq_zero_iff.1 e
      subst this
      rw [h4]; simp [val] at h5; simp; omega
    have e1 : L.length = 0 ∨ L[L.length - 1]?.getD 0 ≠ 0 := by
      rcases h3 with h | h
      · left; rw [h]; rfl
      · exact .inr h
    simp only [rightB, Bool.and_eq_true, decide_eq_true_eq, Bool.not_eq_true', Bool.and_eq_false_iff, decide_eq_false_iff_not, Bool.or_eq_true]
    refine ⟨⟨hl, ?_⟩, e1⟩
    by_cases e : L.length = 0
    · exact .inr (e0 e)
    · exact .inl e
  · unfold sval
    rw [h4]
    by_cases hx0 : x < 0
    · simp [hx0]; omega
    · simp [hx0]; omega

theorem small_TOP (x : Nat) (h : x < 18446744073709551616) : x < TOP := by
  have : (4294967296 ^ 2 : Nat) ≤ 4294967296 ^ TOPN := Nat.pow_le_pow_right (by decide) (by decide)
  unfold TOP
  omega

theorem errOf_small (x : Int) (h : x.natAbs < TOP) : errOf x = 0 := by unfold errOf; rw [if_pos h]
theorem numOf_small (x : Int) (h : x.natAbs < TOP) : numOf x = x := by unfold numOf; rw [if_pos h]

end Go.Proofs.YtgegjhkiiejhlaaDoor

/- Contracts of the reference's Double, Half. -/
namespace Go.Proofs.YtgegjhkiiejhlaaDoor
open Go.RowKit
attribute [local go_sem ↓] Go.wp_at_zero Go.wp_at_succ

set_option maxHeartbeats 1000000 in
theorem double_any (na : Bool) (ao : Option Addr) (ca : Nat) (A : List Nat) (w : World) (hA : LimbsAt w ao ca A) (la : A.length ≤ 35184372088830) :
    Calls Tryd.prog 36 #[.agg #[.bool na, .slice ao A.length ca]] w fun e w' => ∃ v, e = .returned v ∧ IsNumM (A.length + 1) w.heap.size w' v (sg na (val A + val A)) ∧ Below w.heap.size w w' := by
  have hsum : ∀ L : List Nat, val L = val A + val A → sval na L = sg na (val A + val A) := by
    intro L h; rw [sval_sg, h]
  have HS := hide hsum
  clear hsum
  generalize sg na (val A + val A) = z at *
  go_enter Tryd.func36, Tryd.ntmps36
  go_wp2
  refine at_world (fun W => Below w.heap.size w W ∧ W.heap.size = w.heap.size + 2 ∧ Box2 W w.heap.size (.bool na) (.slice ao A.length ca) ∧ Box2 W (w.heap.size + 1) (.bool false) (.slice none 0 0)) ?_ ?_
  · refine ⟨((Below.refl _ _).alloc (Nat.le_refl _) _).alloc (by simp) _, by simp, (Box2.new _ _ _).old _, ?_⟩
    have := Box2.new (w.alloc (.cells #[.bool na, .slice ao A.length ca] 44)) (.bool false) (.slice none 0 0)
    simpa using this
  rintro W0 ⟨hw0, hs0, x0, x2⟩
  have hK : ∀ w', Below (w.heap.size + 1) W0 w' → Below (w.heap.size + 1) W0 w' ∧ w'.cell? ⟨w.heap.size, 0, none⟩ = some (.bool na) ∧ w'.cell? ⟨w.heap.size, 1, none⟩ = some (.slice ao A.length ca) := fun w' h =>
    ⟨h, (x0.below h (by omega)).c0, (x0.below h (by omega)).c1⟩
  have HK := hide hK
  have HA := hide (hA.below hw0)
  have X2 := hide x2
  have HW0 := hide hw0
  clear hK hA x0 x2 hw0
  go_region_held3 (fun w' => Below (w.heap.size + 1) W0 w' ∧ w'.cell? ⟨w.heap.size, 0, none⟩ = some (.bool na) ∧ w'.cell? ⟨w.heap.size, 1, none⟩ = some (.slice ao A.length ca))
    (first | exact unhide HK _ (Below.refl _ _).drew | exact unhide HK _ (by assumption) | exact unhide HK _ ((hB2.setCell (by simp) _).setCell (by simp) _))
    (first | (go_at_call 62; refine (plus_any ao ao ca ca A A _ ((unhide HA).below ((Below.refl _ _).drew)) ((unhide HA).below ((Below.refl _ _).drew)) la la).mono ?_; rintro e w1 ⟨ao', cap', L', rfl, g1, g2, g3, g4, hb1⟩; have hB1 : Below (w.heap.size + 1) W0 w1 := ((Below.refl _ _).drew).trans (hb1.mono (by simp [hs0])); have X3 := hide ((unhide X2).drew.below hb1 (by simp [hs0])); have G1 := hide g1; have G2 := hide g2; have G4 := hide g4; have L4 : L'.length ≤ 35184372088832 := (by omega); have L5 : L'.length ≤ A.length + 1 := (by omega); have s1 := hb1.size; clear g1 g2 g4 g3 hb1) | (go_at_call 58; refine (made_any _ na _ _ _ _ (unhide G1) (unhide G2) L4).mono ?_; rintro e w2 ⟨v, rfl, ⟨n2, a2, c2, L2, rfl, i1⟩, hb2⟩; have hB2 : Below (w.heap.size + 1) W0 w2 := hB1.trans (hb2.mono (by simp at s1; omega)); have X4 := (unhide X3).below hb2 (by simp at s1; omega); have y0 := X4.c0; have y1 := X4.c1; have f0 := X4.free 0; have f1 := X4.free 1; have I1 := hide i1; clear i1 hb2 X4))
  have hz := unhide HS L' (unhide G4)
  have HI := hide (hz ▸ unhide I1)
  clear hz
  go_wp2
  refine bodyPost_ret (v := .agg #[.bool n2, .slice a2 L2.length c2]) (by simp [results, Tryd.results36, go_sem, y0, y1]) rfl ⟨.agg #[.bool n2, .slice a2 L2.length c2], rfl, ?_, ?_⟩
  · exact (IsNumM.stored (unhide HI) (by simp; omega) (by simp; omega) (by simp; omega) _ _).more (by have := L5; omega)
  · exact (((unhide HW0).trans (hB2.mono (by omega))).setCell (by simp) _).setCell (by simp) _

theorem Box2.other {w : World} {b : Nat} {x y : Value} (h : Box2 w b x y) {p : Addr} (hp : b ≠ p.block) (u : Value) : Box2 (w.setCell p u) b x y := (Below.heap_setCell w p u b hp).trans h

theorem half_limb (d0 d1 : Nat) : ((d1 % 2 * 4294967296 + d0) / 2) % 4294967296 = ((d0 + 4294967296 * d1) / 2 ^ 1) % 4294967296 := by omega

end Go.Proofs.YtgegjhkiiejhlaaDoor

