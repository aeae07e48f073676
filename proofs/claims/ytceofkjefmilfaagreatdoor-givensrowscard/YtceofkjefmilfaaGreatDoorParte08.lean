/- Part 8 of the texts. -/
import Derived.Test.YtceofkjefmilfaaGreatDoorParte05
import Derived.Test.YtceofkjefmilfaaGreatDoorParte04
import Derived.Test.YtceofkjefmilfaaGreatDoorParte06
import Derived.Test.YtceofkjefmilfaaGreatDoorParte02
import Derived.Test.YtceofkjefmilfaaGreatDoorParte07
import Derived.RegionTactic
import Derived.BigRegion
import Derived.Deep.AppendLies
/- Contract of Of. -/
namespace Go.Proofs.YtceofkjefmilfaaGreatDoor
open Go.RowKit

/-- A new block of two limbs. -/
theorem two_row (w : World) (g : Nat) (a b : Int) (lo hi : Nat) (hg : w.heap.size = g) (ha : a = (lo : Int)) (hb : b = (hi : Int)) :
    RowAt (w.alloc (.cells #[.int .u32 a, .int .u32 b] 81)) g [lo, hi] := by
  subst hg; subst ha; subst hb
  exact heap_alloc_new w _

theorem wrap_neg (n : Int) (h0 : -9223372036854775808 ≤ n) (h1 : n < 0) : IntKind.u64.wrap (-IntKind.u64.wrap n) = -n := by
  simp only [IntKind.wrap, IntKind.signed, IntKind.bits]
  simp
  omega

theorem val_two (m : Nat) : val [m % 4294967296, m / 4294967296] = m := by simp only [val]; omega

set_option maxHeartbeats 400000 in
theorem of_any (n : Int) (w : World) (h0 : -9223372036854775808 ≤ n) (h1 : n ≤ 9223372036854775807) :
    Calls Tryz.prog 122 #[.int .i64 n] w fun e w' => ∃ v, e = .returned v ∧ IsNum w.heap.size w' v n ∧ Below w.heap.size w w' := by
  obtain ⟨m, hm⟩ : ∃ m, m = n.natAbs := ⟨_, rfl⟩
  have hf : Fits [m % 4294967296, m / 4294967296] := by intro x hx; simp at hx; omega
  have HF := hide hf
  have HM := hide hm
  clear hf hm
  by_cases hn : n < 0
  · have hw := wrap_neg n h0 hn
    have HW := hide hw
    clear hw
    go_enter Tryz.func122, Tryz.ntmps122
    go_wp2_with fail
    have hm := unhide HM
    have hR := two_row (w.alloc (.cells #[.bool false, .slice none 0 0] 50)) (w.heap.size + 1) (IntKind.u64.wrap (-IntKind.u64.wrap n) % 4294967296) (IntKind.u64.wrap (-IntKind.u64.wrap n) / 4294967296 % 4294967296) (m % 4294967296) (m / 4294967296) (by simp) (by rw [unhide HW]; omega) (by rw [unhide HW]; omega)
    refine (trim_any (some ⟨w.heap.size + 1, 0, none⟩) 2 [m % 4294967296, m / 4294967296] _ (hR.limbs (unhide HF) 2 (by simp)) (by simp)).mono ?_
    rintro e w' ⟨v, rfl, ⟨ao', cap', L', rfl, g1, g2, g3, g4, g5⟩, rfl⟩
    have G4 := hide g4
    have G1 := hide g1
    have G2 := hide g2
    have G5 := hide g5
    clear g1 g2 g4 g5 hR hm
    go_wp2
    refine bodyPost_ret (v := .agg #[.bool true, .slice ao' L'.length cap']) (by simp [results, Tryz.results122, go_sem]) rfl ⟨.agg #[.bool true, .slice ao' L'.length cap'], rfl, ⟨true, ao', cap', L', rfl, unhide G4 _ ?_, unhide G5 _ (.inr ⟨_, _, rfl, by omega⟩), unhide G1, by simp [hn], ?_⟩, ?_⟩
    · refine (two_row _ (w.heap.size + 1) _ _ _ _ (by simp) ?_ ?_).limbs (unhide HF) 2 (by simp)
      · have hm := unhide HM; rw [unhide HW]; omega
      · have hm := unhide HM; rw [unhide HW]; omega
    · exact ⟨by rw [unhide G2, val_two]; exact unhide HM, by simp at g3; omega⟩
    · exact ((Below.refl _ _).alloc (Nat.le_refl _) _).alloc (by simp) _
  · go_enter Tryz.func122, Tryz.ntmps122
    go_wp2_with fail
    have hm := unhide HM
    have hR := two_row (w.alloc (.cells #[.bool false, .slice none 0 0] 50)) (w.heap.size + 1) (n % 4294967296) (n / 4294967296) (m % 4294967296) (m / 4294967296) (by simp) (by omega) (by omega)
    refine (trim_any (some ⟨w.heap.size + 1, 0, none⟩) 2 [m % 4294967296, m / 4294967296] _ (hR.limbs (unhide HF) 2 (by simp)) (by simp)).mono ?_
    rintro e w' ⟨v, rfl, ⟨ao', cap', L', rfl, g1, g2, g3, g4, g5⟩, rfl⟩
    have G4 := hide g4
    have G1 := hide g1
    have G2 := hide g2
    have G5 := hide g5
    clear g1 g2 g4 g5 hR hm
    go_wp2
    refine bodyPost_ret (v := .agg #[.bool false, .slice ao' L'.length cap']) (by simp [results, Tryz.results122, go_sem]) rfl ⟨.agg #[.bool false, .slice ao' L'.length cap'], rfl, ⟨false, ao', cap', L', rfl, unhide G4 _ ?_, unhide G5 _ (.inr ⟨_, _, rfl, by omega⟩), unhide G1, by simp; omega, ?_⟩, ?_⟩
    · refine (two_row _ (w.heap.size + 1) _ _ _ _ (by simp) ?_ ?_).limbs (unhide HF) 2 (by simp)
      · have hm := unhide HM; omega
      · have hm := unhide HM; omega
    · exact ⟨by rw [unhide G2, val_two]; exact unhide HM, by simp at g3; omega⟩
    · exact ((Below.refl _ _).alloc (Nat.le_refl _) _).alloc (by simp) _

end Go.Proofs.YtceofkjefmilfaaGreatDoor

/- Same of two numbers; awake. -/
namespace Go.Proofs.YtceofkjefmilfaaGreatDoor
open Go.RowKit
/-- A right number's struct: what Add and the like ask. -/
theorem IsNum.right {B : Nat} {w : World} {v : Value} {x : Int} (h : IsNum B w v x) (hx : x.natAbs < TOP) :
    ∃ neg ao cap L, v = .agg #[.bool neg, .slice ao L.length cap] ∧ LimbsAt w ao cap L ∧ rightB neg L = true ∧ sval neg L = x ∧ L.length ≤ 512 := by
  obtain ⟨neg, ao, cap, L, rfl, h1, h2, h3, h4, h5, h6⟩ := h
  have hl : L.length ≤ 512 := (val_lt_TOP L h1.2.1 h3).1 (by omega)
  refine ⟨neg, ao, cap, L, rfl, h1, ?_, ?_, hl⟩
  · have e0 : L.length = 0 → neg = false := fun e => by
      have : L = [] := List.length_eq_zero_iff.1 e
      subst this
      rw [h4]; simp [val] at h5; simp; omega
    have e1 : L.length = 0 ∨ L[L.length - 1]?.getD 0 ≠ 0 := by
      rcases h3 with h | h
      · left; rw [h]; rfl
      · exact .inr h
    simp only [rightB, Bool.and_eq_true, decide_eq_true_eq, Bool.not_eq_true', Bool.and_eq_false_iff, decide_eq_false_iff_not, Bool.or_eq_true]
    refine ⟨⟨hl, ?_⟩, e1⟩
    by_cases e : L.length = 0
    · exact .inr (e0 e)
    · exact .inl e
  · unfold sval
    rw [h4]
    by_cases hx0 : x < 0
    · simp [hx0]; omega
    · simp [hx0]; omega

/-- Add of two right numbers. -/
theorem add_num {B B' : Nat} {w : World} {v u : Value} {x y : Int} (hv : IsNum B w v x) (hu : IsNum B' w u y) (hx : x.natAbs < TOP) (hy : y.natAbs < TOP) :
    Calls Tryz.prog 175 #[v, u] w fun e w' => ∃ r, e = .returned (.tuple #[r, .int .i64 (errOf (x + y))]) ∧ IsNum w.heap.size w' r (numOf (x + y)) ∧ Below w.heap.size w w' := by
  obtain ⟨na, ao, ca, A, rfl, a1, a2, a3, a4⟩ := hv.right hx
  obtain ⟨nb, bo, cb, C, rfl, b1, b2, b3, b4⟩ := hu.right hy
  have := add_any na nb ao bo ca cb A C w a1 b1 (by omega) (by omega)
  rwa [a2, b2, a3, b3, Bool.and_self, opErr_true, opNum_true] at this

theorem small_TOP (x : Nat) (h : x < 18446744073709551616) : x < TOP := by
  have : (4294967296 ^ 2 : Nat) ≤ 4294967296 ^ TOPN := Nat.pow_le_pow_right (by decide) (by decide)
  unfold TOP
  omega

theorem errOf_small (x : Int) (h : x.natAbs < TOP) : errOf x = 0 := by unfold errOf; rw [if_pos h]
theorem numOf_small (x : Int) (h : x.natAbs < TOP) : numOf x = x := by unfold numOf; rw [if_pos h]

end Go.Proofs.YtceofkjefmilfaaGreatDoor

/- Contracts of the reference's Double, Half. -/
namespace Go.Proofs.YtceofkjefmilfaaGreatDoor
open Go.RowKit
attribute [local go_sem ↓] Go.wp_at_zero Go.wp_at_succ
theorem Box2.other {w : World} {b : Nat} {x y : Value} (h : Box2 w b x y) {p : Addr} (hp : b ≠ p.block) (u : Value) : Box2 (w.setCell p u) b x y := (Below.heap_setCell w p u b hp).trans h

end Go.Proofs.YtceofkjefmilfaaGreatDoor

/- Contract of spoil: it writes into the one row that it is handed, and nowhere else. -/
namespace Go.Proofs.YtceofkjefmilfaaGreatDoor
open Go.RowKit

theorem bits_nat (a b : Int) : ∃ y : Nat, y < 4294967296 ∧ bits BinOp.xor IntKind.u32 a b = (y : Int) := by
  refine ⟨(bits BinOp.xor IntKind.u32 a b).toNat, ?_, ?_⟩
  all_goals
    have h : 0 ≤ bits BinOp.xor IntKind.u32 a b ∧ bits BinOp.xor IntKind.u32 a b < 4294967296 := by
      simp only [bits, IntKind.wrap, IntKind.signed, IntKind.bits]
      simp
      omega
    omega

end Go.Proofs.YtceofkjefmilfaaGreatDoor

/- What stays where one row is written over; copied of any number. -/
namespace Go.Proofs.YtceofkjefmilfaaGreatDoor
open Go.RowKit
theorem Box2.grown {w w' : World} {b k : Nat} {x y : Value} (h : Box2 w b x y) (hg : w.grownBy w' (some k)) (hne : b ≠ k) : Box2 w' b x y := (hg.block b h.lt (by simpa using hne)).trans h

theorem LimbsAt.grown {w w' : World} {ao : Option Addr} {cap k : Nat} {L : List Nat} (h : LimbsAt w ao cap L) (hg : w.grownBy w' (some k)) (hne : ∀ b off, ao = some ⟨b, off, none⟩ → L ≠ [] → b ≠ k) : LimbsAt w' ao cap L := by
  refine ⟨h.1, h.2.1, ?_⟩
  rcases h.2.2 with h0 | ⟨b, off, h1, h2, h3⟩
  · exact .inl h0
  · by_cases he : L = []
    · exact .inl he
    · have hb := hg.block b h2 (by have := hne b off h1 he; simpa using this)
      refine .inr ⟨b, off, h1, Nat.lt_of_lt_of_le h2 hg.size, fun i hi => ?_⟩
      rw [World.cell?_of_block (a := ⟨b, off + i, none⟩) hb]
      exact h3 i hi

theorem IsNum.grown {w w' : World} {B k : Nat} {v : Value} {x : Int} (h : IsNum B w v x) (hg : w.grownBy w' (some k)) (hk : k < B) : IsNum B w' v x := by
  obtain ⟨neg, ao, cap, L, h1, h2, h3, h4⟩ := h
  refine ⟨neg, ao, cap, L, h1, h2.grown hg ?_, h3, h4⟩
  intro b off e he
  rcases h3 with h0 | ⟨b', off', e', hb'⟩
  · exact absurd h0 he
  · rw [e] at e'
    simp only [Option.some.injEq, Addr.mk.injEq] at e'
    omega

end Go.Proofs.YtceofkjefmilfaaGreatDoor

