/- Part 20 of the texts. -/
import Derived.Test.YtfnnbkclnflpfaaGreatDoorPartR18
import Derived.Test.YtfnnbkclnflpfaaGreatDoorPartR16
import Derived.Test.YtfnnbkclnflpfaaGreatDoorPartR10
import Derived.Test.YtfnnbkclnflpfaaGreatDoorPartR08
import Derived.Lib.BitFns
import Derived.Test.YtfnnbkclnflpfaaGreatDoorPartR07
import Derived.Test.YtfnnbkclnflpfaaGreatDoorPartR11
import Derived.Deep.RegionHeld3
import Derived.Test.YtfnnbkclnflpfaaGreatDoorPartR17
import Derived.Test.YtfnnbkclnflpfaaGreatDoorPartR09
import Derived.Laws.Cover2
import Derived.Laws.Externs
import Derived.Test.YtfnnbkclnflpfaaGreatDoorPartR05
import Derived.Laws.FloatArith
import Derived.Test.YtfnnbkclnflpfaaGreatDoorPartR19
import Derived.Laws.BitsAllLaws
import Derived.BigQuiet
import Derived.Laws.BitsLemmas
import Derived.Test.YtfnnbkclnflpfaaGreatDoorPartR13
/- Contracts of vector's dot, Dot, Axpy, Times, Biggest, Finite. -/
namespace Go.Proofs.YtfnnbkclnflpfaaGreatDoor
open Go.RowKit
attribute [local go_sem ↓] Go.wp_at_zero Go.wp_at_succ
theorem size_alloc9 (w : World) (o : Obj) : (w.alloc o).heap.size = w.heap.size + 1 := by simp
theorem below_alloc9 (w : World) (o : Obj) : Below w.heap.size w (w.alloc o) := (Below.refl _ _).alloc (Nat.le_refl _) o
theorem BitsAt.lt {w : World} {ao : Option Addr} {cap : Nat} {I : List Int} (h : BitsAt w ao cap I) (j : Nat) : atB I j < 18446744073709551616 := (h.wf j).2

def fnK (I : List Int) : Nat → Bool
  | 0 => true
  | k + 1 => fnK I k && fFin (atB I k)
theorem RowB.bits {w : World} {g : Nat} {S : List Nat} (h : RowB w g S) (hf : ∀ x ∈ S, x < 18446744073709551616) : BitsAt w (some ⟨g, 0, none⟩) S.length (S.map (fun x : Nat => (x : Int))) := by
  refine ⟨by simp, ?_, .inr ⟨g, 0, rfl, h.lt, fun i hi => ?_⟩⟩
  · intro x hx
    obtain ⟨y, hy, rfl⟩ := List.mem_map.1 hx
    have := hf y hy
    omega
  · have hi' : i < S.length := by simpa using hi
    rw [Nat.zero_add, h.cell i hi']
    simp [hi']
end Go.Proofs.YtfnnbkclnflpfaaGreatDoor

/- The reference's Biggest, Finite, Norm, Tame. -/
namespace Go.Proofs.YtfnnbkclnflpfaaGreatDoor
open Go.RowKit
attribute [local go_sem ↓] Go.wp_at_zero Go.wp_at_succ

theorem fnK_down (I : List Int) : ∀ (m k : Nat), k ≤ m → fnK I m = true → fnK I k = true := by
  intro m
  induction m with
  | zero => intro k hk _; rw [show k = 0 by omega]; rfl
  | succ m ih =>
    intro k hk h
    have h' : (fnK I m && fFin (atB I m)) = true := h
    rw [Bool.and_eq_true] at h'
    by_cases e : k = m + 1
    · subst e; exact h
    · exact ih k (by omega) h'.1
theorem fnK_no (I : List Int) (n k : Nat) (hk : k < n) (h : fFin (atB I k) = false) : fnK I n = false := by
  cases e : fnK I n
  · rfl
  · have h2 : (fnK I k && fFin (atB I k)) = true := fnK_down I n (k + 1) (by omega) e
    rw [h, Bool.and_false] at h2
    cases h2

set_option maxRecDepth 20000 in
set_option maxHeartbeats 4000000 in
theorem r9finite_any (ao : Option Addr) (c : Nat) (I : List Int) (w : World) (hI : BitsAt w ao c I) (hn : I.length ≤ 35184372088830) :
    Calls Tryz.prog 40 #[.slice ao I.length c] w fun e w' => e = .returned (.bool (fnK I I.length)) ∧ Below w.heap.size w w' := by
  have HI := hide hI
  obtain ⟨n, hnn⟩ : ∃ n, I.length = n := ⟨_, rfl⟩
  rw [hnn] at hn ⊢
  have HN := hide hnn
  clear hI hnn
  obtain ⟨v, hv⟩ : ∃ v, fnK I n = v := ⟨_, rfl⟩
  rw [hv]
  have HV := hide hv
  clear hv
  go_enter Tryz.func40, Tryz.ntmps40
  go_wp2_with fail
  go_loopw [3] (fun i wr => ∃ k : Nat, k ≤ n ∧ i = .int .i64 k ∧ Hid (fnK I k = true) ∧ Hid (Below w.heap.size w wr)) (fun i _ => n - (intOf i).toNat)
  case atStart => exact ⟨0, Nat.zero_le _, rfl, rfl, Below.refl _ _⟩
  case round =>
    obtain ⟨k, hk, rfl, hq, hB⟩ := hrel
    by_cases hlt : k < n
    · have hkI : (k : Int) < (n : Int) := by omega
      obtain ⟨b, off, hao, hb, hc⟩ := ((unhide HI).below hB.out).ne (by rw [unhide HN]; omega)
      have hck := hc k (by rw [unhide HN]; exact hlt)
      have C1 := hide (fun w' => rfinite_any (atB I k) w' ((unhide HI).lt k))
      have eV : Hid (fnK I (k + 1) = (fnK I k && fFin (atB I k))) := rfl
      have eF := hide (fun h => fnK_no I n k hlt h)
      subst hao
      clear hc
      generalize atB I k = x at *
      cases hf : fFin x
      · have e2 := hide ((unhide HV).symm.trans (unhide eF hf))
        rw [hf] at C1
        have hv2 := unhide e2
        subst hv2
        go_wp2_with fail
        refine (unhide C1 _).mono ?_
        rintro e w2 ⟨rfl, rfl⟩
        clear C1
        go_wp2_with fail
        exact bodyPost_ret (v := .bool false) (by simp [results, Tryz.results40, go_sem]) rfl ⟨rfl, hB.out⟩
      · rw [hf] at C1 eV
        go_wp2_with fail
        refine (unhide C1 _).mono ?_
        rintro e w2 ⟨rfl, rfl⟩
        clear C1
        go_wp2_with fail
        go_round
        case rel => exact ⟨k + 1, by omega, by go_num, by unfold Hid; rw [eV.out, hq.out]; rfl, hB⟩
        case measure => simp [intOf]; omega
    · have hkk : k = n := by omega
      subst hkk
      have e2 := (unhide HV).symm.trans hq.out
      subst e2
      go_wp2_with fail
      exact bodyPost_ret (v := .bool true) (by simp [results, Tryz.results40, go_sem]) rfl ⟨rfl, hB.out⟩

end Go.Proofs.YtfnnbkclnflpfaaGreatDoor

/- Halfway between two numbers; products of such. -/
namespace Go.Proofs.YtfnnbkclnflpfaaGreatDoor
open Go.RowKit
/-- A product, at its numbers' own powers. -/
theorem mul_level7 (z1 z2 lo1 lo2 : Int) (h1 : z1 ≠ 0) (h2 : z2 ≠ 0) (l1 : lo1 ≤ oE z1 lo1) (l2 : lo2 ≤ oE z2 lo2) :
    oM (z1 * z2) = oM (oM z1 * oM z2) ∧ oE (z1 * z2) (lo1 + lo2) = oE (oM z1 * oM z2) (oE z1 lo1 + oE z2 lo2) := by
  have x1 := oM_level z1 lo1 h1
  have x2 := oM_level z2 lo2 h2
  obtain ⟨i, hi⟩ : ∃ i : Nat, oE z1 lo1 = lo1 + i := ⟨(oE z1 lo1 - lo1).toNat, by omega⟩
  obtain ⟨j, hj⟩ : ∃ j : Nat, oE z2 lo2 = lo2 + j := ⟨(oE z2 lo2 - lo2).toNat, by omega⟩
  rw [hi, show (lo1 + (i : Int) - lo1).toNat = i by omega] at x1
  rw [hj, show (lo2 + (j : Int) - lo2).toNat = j by omega] at x2
  have e : z1 * z2 = oM z1 * oM z2 * 2 ^ (i + j) := by
    rw [Int.pow_add, show oM z1 * oM z2 * (2 ^ i * 2 ^ j) = oM z1 * 2 ^ i * (oM z2 * 2 ^ j) by ac_rfl, x1, x2]
  have s := oM_scale (oM z1 * oM z2) (i + j) (lo1 + lo2)
  rw [← e] at s
  refine ⟨s.1, ?_⟩
  rw [s.2, hi, hj]
  congr 1
  omega
theorem oE_ge (z lo : Int) (h : z ≠ 0) : lo ≤ oE z lo := by
  rw [oE_ne _ _ h]; omega

/-- The reference's product of two that are not long. -/
theorem rmul7 {w : World} {v u : Value} {m1 m2 e1 e2 : Int} (hv : IsDy w v m1 e1) (hu : IsDy w u m2 e2) (h1 : m1.natAbs < 1152921504606846976) (h2 : m2.natAbs < 1152921504606846976) (b1 : -3000 ≤ e1 ∧ e1 ≤ 3000) (b2 : -3000 ≤ e2 ∧ e2 ≤ 3000) :
    Calls Tryz.prog 51 #[v, u] w fun r w' => ∃ q, r = .returned q ∧ IsDy w' q (oM (m1 * m2)) (oE (m1 * m2) (e1 + e2)) ∧ Below w.heap.size w w' := by
  have p30 : (1152921504606846976 : Nat) ≤ 4294967296 ^ 30 := by decide +kernel
  obtain ⟨n, a, c, L, rfl, g1, g2, g3, g4, g5⟩ := hv.right (small_TOP _ (by omega))
  obtain ⟨n', a', c', L', rfl, k1, k2, k3, k4, k5⟩ := hu.right (small_TOP _ (by omega))
  have v1 : val L = m1.natAbs := by rw [← g3, natAbs_sval]
  have v2 : val L' = m2.natAbs := by rw [← k3, natAbs_sval]
  have l1 : L.length ≤ 30 := (length_le_iff L g1.2.1 (right_canon g2).2.1 30).2 (by rw [v1]; exact Nat.lt_of_lt_of_le h1 p30)
  have l2 : L'.length ≤ 30 := (length_le_iff L' k1.2.1 (right_canon k2).2.1 30).2 (by rw [v2]; exact Nat.lt_of_lt_of_le h2 p30)
  have := rmul_any n n' a a' c c' L L' e1 e2 w g1 k1 l1 l2
  rw [g3, k3] at this
  have hm : (m1 * m2).natAbs < 2 ^ 120 := by
    rw [Int.natAbs_mul]
    have : m1.natAbs * m2.natAbs < 1152921504606846976 * 1152921504606846976 := Nat.mul_lt_mul_of_lt_of_le h1 (Nat.le_of_lt h2) (by decide)
    exact Nat.lt_of_lt_of_le this (by decide)
  have hE : (if m1 * m2 = 0 then 0 else IntKind.i64.wrap (IntKind.i64.wrap (e1 + e2) + tz (m1 * m2).natAbs)) = oE (m1 * m2) (e1 + e2) := by
    by_cases h0 : m1 * m2 = 0
    · rw [if_pos h0, h0, oE_zero]
    · have ht : tz (m1 * m2).natAbs < 120 := tz_lt _ 120 (by omega) hm
      rw [if_neg h0, oE_ne _ _ h0, wrap_small (e1 + e2) (by omega), wrap_small _ (by omega)]
  rwa [hE] at this

end Go.Proofs.YtfnnbkclnflpfaaGreatDoor

/- Exact numbers at a level: the reference's values, products, powers of two. -/
namespace Go.Proofs.YtfnnbkclnflpfaaGreatDoor
open Go.RowKit

/-- The number z times 2^lo. -/
def IsLv (w : World) (v : Value) (lo z : Int) : Prop := IsDy w v (oM z) (oE z lo)
theorem IsLv.below {w w' : World} {v : Value} {lo z : Int} (h : IsLv w v lo z) (hb : Below w.heap.size w w') : IsLv w' v lo z := IsDy.below h hb
theorem IsLv.zero (w : World) (lo : Int) : IsLv w (.agg #[.bool false, .slice none 0 0, .int .i64 0]) lo 0 := by
  unfold IsLv
  rw [oM_zero, oE_zero]
  exact IsDy.zero w none 0
/-- The same number at a lower level. -/
theorem IsLv.lower {w : World} {v : Value} {lo z : Int} (h : IsLv w v lo z) (k : Nat) : IsLv w v (lo - k) (z * 2 ^ k) := by
  unfold IsLv
  have s := oM_scale z k (lo - k)
  rw [show lo - (k : Int) + k = lo by omega] at s
  rw [s.1, s.2]
  exact h
theorem rvalueN (b : Nat) (w : World) (h : b < 18446744073709551616) (hf : fFin b = true) :
    Calls Tryz.prog 53 #[.int .u64 b] w fun r w' => ∃ u, r = .returned u ∧ IsLv w' u (-1074) (fZ b) ∧ Below w.heap.size w w' := by
  obtain ⟨d1, d2⟩ := fZ_level b h hf
  unfold IsLv
  rw [d1, d2]
  exact rvalue_any b w h

theorem fZ_ne {b : Nat} (h : fZ b ≠ 0) : fK b ≠ 0 := fun e => h (by
  have := fZ_abs b
  rw [(fK_zero b).1 e, rv_zero] at this
  omega)
theorem fD_few (b : Nat) (h : b < 18446744073709551616) (hf : fFin b = true) : (oM (fZ b)).natAbs < 9007199254740992 ∧ -1074 ≤ oE (fZ b) (-1074) ∧ oE (fZ b) (-1074) ≤ 1024 := by
  by_cases h0 : fZ b = 0
  · rw [h0, oM_zero, oE_zero]; decide
  · obtain ⟨d1, d2⟩ := fZ_level b h hf
    obtain ⟨z1, z2, z3, z4, z5, z6, z7, z8, z9⟩ := sc_facts b h hf (fZ_ne h0)
    rw [d1, d2]
    exact ⟨z2, z5, z6⟩

/-- The product of two numbers' values. -/
theorem rmulV {a b : Nat} {w : World} {v u : Value} (ha : a < 18446744073709551616) (hb : b < 18446744073709551616) (fa : fFin a = true) (fb : fFin b = true) (hv : IsLv w v (-1074) (fZ a)) (hu : IsLv w u (-1074) (fZ b)) :
    Calls Tryz.prog 51 #[v, u] w fun r w' => ∃ q, r = .returned q ∧ IsLv w' q (-2148) (fZ a * fZ b) ∧ Below w.heap.size w w' := by
  obtain ⟨x1, x2, x3⟩ := fD_few a ha fa
  obtain ⟨y1, y2, y3⟩ := fD_few b hb fb
  have := rmul7 hv hu (by omega) (by omega) (by omega) (by omega)
  unfold IsLv
  by_cases h0 : fZ a = 0
  · rw [h0] at this ⊢
    rw [oM_zero, Int.zero_mul, oM_zero, oE_zero] at this
    rw [Int.zero_mul, oM_zero, oE_zero]
    exact this
  by_cases h1 : fZ b = 0
  · rw [h1] at this ⊢
    rw [oM_zero, Int.mul_zero, oM_zero, oE_zero] at this
    rw [Int.mul_zero, oM_zero, oE_zero]
    exact this
  obtain ⟨m1, m2⟩ := mul_level7 (fZ a) (fZ b) (-1074) (-1074) h0 h1 (oE_ge _ _ h0) (oE_ge _ _ h1)
  rw [show (-1074 : Int) + -1074 = -2148 by decide] at m2
  rw [m1, m2]
  exact this

end Go.Proofs.YtfnnbkclnflpfaaGreatDoor

/- The reference's Near and Squares, at a level. -/
namespace Go.Proofs.YtfnnbkclnflpfaaGreatDoor
open Go.RowKit
attribute [local go_sem ↓] Go.wp_at_zero Go.wp_at_succ
theorem Lvl.more {lo : Int} {W W' : Nat} {z : Int} (h : Lvl lo W z) (hW : W ≤ W') (h1 : lo + W' ≤ 16384) (h2 : W' ≤ 16384) : Lvl lo W' z :=
  ⟨Nat.lt_of_lt_of_le h.1 (Nat.pow_le_pow_right (by decide) hW), h.2.1, h1, h2⟩
theorem Lvl.at {lo lo' : Int} {W : Nat} {z : Int} (h : Lvl lo W z) (h1 : -16384 ≤ lo') (h2 : lo' + W ≤ 16384) : Lvl lo' W z := ⟨h.1, h1, h2, h.2.2.2⟩

end Go.Proofs.YtfnnbkclnflpfaaGreatDoor

