/- Part 11 of the texts. -/
import Derived.Test.YtnpogpoknbgodaaPart10
import Derived.Test.YtnpogpoknbgodaaPart08
import Derived.Lib.BitFns
import Derived.Test.YtnpogpoknbgodaaPart07
import Derived.Test.YtnpogpoknbgodaaPart04
import Derived.Laws.BitsAllLaws
/- Contracts of the reference's Neg, Sub, Compare. -/
namespace Go.Proofs.Ytnpogpoknbgodaa
open Go.RowKit
attribute [local go_sem ↓] Go.wp_at_zero Go.wp_at_succ

theorem LimbsAt.box {w : World} {ao : Option Addr} {cap g : Nat} {L : List Nat} (h : LimbsAt w ao cap L) {x : Bool} {a : Option Addr} {n c : Nat} (hx : Box2 w g (.bool x) (.slice a n c)) (u u' : Value) :
    LimbsAt ((w.setCell ⟨g, 0, none⟩ u).setCell ⟨g, 1, none⟩ u') ao cap L := by
  refine ⟨h.1, h.2.1, ?_⟩
  rcases h.2.2 with h0 | ⟨b, off, h1, h2, h3⟩
  · exact .inl h0
  · by_cases he : L = []
    · exact .inl he
    · have hp : 0 < L.length := List.length_pos_iff.2 he
      have hne : b ≠ g := by
        rintro rfl
        have h4 := h3 0 hp
        rw [cell_of_row w b (off + 0) _ _ _ hx] at h4
        rcases (show off = 0 ∨ off = 1 ∨ 2 ≤ off by omega) with e | e | e
        · subst e; simp at h4
        · subst e; simp at h4
        · rw [Array.getElem?_eq_none (by simp; omega)] at h4; simp at h4
      refine .inr ⟨b, off, h1, by simpa [World.setCell] using h2, fun i hi => ?_⟩
      rw [cell_setCell_other _ _ _ _ (by simpa using hne), cell_setCell_other _ _ _ _ (by simpa using hne)]
      exact h3 i hi

set_option maxHeartbeats 400000 in
theorem refNeg_any (nb : Bool) (bo : Option Addr) (cb : Nat) (B : List Nat) (w : World) (hB : LimbsAt w bo cb B) (lb : B.length ≤ 35184372088830) :
    Calls Try.prog 51 #[.agg #[.bool nb, .slice bo B.length cb]] w fun e w' => ∃ v, e = .returned v ∧ IsNumM B.length 0 w' v (- sval nb B) ∧ Below w.heap.size w w' := by
  have HZ := hide (sval_not nb B)
  go_enter Try.func51, Try.ntmps51
  go_wp2_with fail
  have hb0 : Below w.heap.size w ((w.alloc (.cells #[.bool nb, .slice bo B.length cb] 35)).alloc (.cells #[.bool false, .slice none 0 0] 35)) := ((Below.refl _ _).alloc (Nat.le_refl _) _).alloc (by simp) _
  refine (made_any 0 (!nb) bo cb B _ (hB.below hb0) (NewAt.zero hB) (by omega)).mono ?_
  rw [unhide HZ]
  rintro e w1 ⟨v, rfl, ⟨n2, a2, c2, L2, rfl, i1⟩, hb1⟩
  have r1 : Box2 w1 (w.heap.size + 1) (.bool false) (.slice none 0 0) := by
    have := Box2.new (w.alloc (.cells #[.bool nb, .slice bo B.length cb] 35)) (.bool false) (.slice none 0 0)
    exact Box2.below (by simpa using this) hb1 (by simp)
  have y0 := r1.c0; have y1 := r1.c1; have f0 := r1.free 0; have f1 := r1.free 1
  have I1 := hide i1
  have R1 := hide r1
  have HB1 := hide (hb0.trans (hb1.mono (by simp; omega)))
  clear i1 hb1 hb0 r1
  go_wp2
  refine bodyPost_ret (v := .agg #[.bool n2, .slice a2 L2.length c2]) (by simp [results, Try.results51, go_sem, y0, y1]) rfl ⟨.agg #[.bool n2, .slice a2 L2.length c2], rfl, ?_, ?_⟩
  · exact ⟨n2, a2, c2, L2, rfl, (unhide I1).1.box (unhide R1) _ _, (unhide I1).2⟩
  · exact ((unhide HB1).setCell (by simp) _).setCell (by simp) _

set_option maxHeartbeats 1000000 in
theorem refSub_any (na nb : Bool) (ao bo : Option Addr) (ca cb : Nat) (A B : List Nat) (w : World) (hA : LimbsAt w ao ca A) (hB : LimbsAt w bo cb B) (la : A.length ≤ 35184372088830) (lb : B.length ≤ 35184372088830) :
    Calls Try.prog 41 #[.agg #[.bool na, .slice ao A.length ca], .agg #[.bool nb, .slice bo B.length cb]] w fun e w' => ∃ v, e = .returned v ∧ IsNumM (max A.length B.length + 1) w.heap.size w' v (sval na A - sval nb B) ∧ Below w.heap.size w w' := by
  go_enter Try.func41, Try.ntmps41
  go_wp2
  refine at_world (fun W => Below w.heap.size w W ∧ W.heap.size = w.heap.size + 3 ∧ Box2 W w.heap.size (.bool na) (.slice ao A.length ca) ∧ Box2 W (w.heap.size + 1) (.bool nb) (.slice bo B.length cb) ∧ Box2 W (w.heap.size + 2) (.bool false) (.slice none 0 0)) ?_ ?_
  · refine ⟨((((Below.refl _ _).alloc (Nat.le_refl _) _).alloc (by simp) _).alloc (by simp; omega) _), by simp, ((Box2.new _ _ _).old _).old _, ?_, ?_⟩
    · have := (Box2.new (w.alloc (.cells #[.bool na, .slice ao A.length ca] 35)) (.bool nb) (.slice bo B.length cb)).old (.cells #[.bool false, .slice none 0 0] 35)
      simpa using this
    · have := Box2.new ((w.alloc (.cells #[.bool na, .slice ao A.length ca] 35)).alloc (.cells #[.bool nb, .slice bo B.length cb] 35)) (.bool false) (.slice none 0 0)
      simpa using this
  rintro W0 ⟨hw0, hs0, x0, x1, x2⟩
  have hK : ∀ w', Below (w.heap.size + 2) W0 w' → Below (w.heap.size + 2) W0 w' ∧ w'.cell? ⟨w.heap.size, 0, none⟩ = some (.bool na) ∧ w'.cell? ⟨w.heap.size, 1, none⟩ = some (.slice ao A.length ca) ∧ w'.cell? ⟨w.heap.size + 1, 0, none⟩ = some (.bool nb) ∧ w'.cell? ⟨w.heap.size + 1, 1, none⟩ = some (.slice bo B.length cb) := fun w' h =>
    ⟨h, (x0.below h (by omega)).c0, (x0.below h (by omega)).c1, (x1.below h (by omega)).c0, (x1.below h (by omega)).c1⟩
  have HK := hide hK
  have HA := hide (hA.below hw0)
  have HB := hide (hB.below hw0)
  have X2 := hide x2
  have HW0 := hide hw0
  clear hK hA hB x0 x1 x2 hw0
  go_region_held3 (fun w' => Below (w.heap.size + 2) W0 w' ∧ w'.cell? ⟨w.heap.size, 0, none⟩ = some (.bool na) ∧ w'.cell? ⟨w.heap.size, 1, none⟩ = some (.slice ao A.length ca) ∧ w'.cell? ⟨w.heap.size + 1, 0, none⟩ = some (.bool nb) ∧ w'.cell? ⟨w.heap.size + 1, 1, none⟩ = some (.slice bo B.length cb))
    (first | exact unhide HK _ (Below.refl _ _).drew | exact unhide HK _ (by assumption) | exact unhide HK _ ((hB2.setCell (by simp) _).setCell (by simp) _))
    (first | (go_at_call 51; refine (refNeg_any nb bo cb B _ ((unhide HB).below ((Below.refl _ _).drew)) lb).mono ?_; rintro e w1 ⟨v, rfl, ⟨n1, a1, c1, L1, rfl, i1⟩, hb1⟩; have hB1 : Below (w.heap.size + 2) W0 w1 := ((Below.refl _ _).drew).trans (hb1.mono (by simp [hs0])); have X3 := hide ((unhide X2).drew.below hb1 (by simp [hs0])); have G1 := hide i1; have HA1 := hide ((unhide HA).below (((Below.refl _ _).drew).trans hb1)); have L4 : L1.length ≤ B.length := i1.2.2.2.2.2; have s1 := hb1.size; clear i1 hb1) | (go_at_call 10; refine (refAdd_any na n1 ao a1 ca c1 A L1 _ (unhide HA1) (unhide G1).1 la (by omega)).mono ?_; rintro e w2 ⟨v, rfl, ⟨n2, a2, c2, L2, rfl, i2⟩, hb2⟩; have hB2 : Below (w.heap.size + 2) W0 w2 := hB1.trans (hb2.mono (by simp at s1; omega)); have X4 := (unhide X3).below hb2 (by simp at s1; omega); have y0 := X4.c0; have y1 := X4.c1; have f0 := X4.free 0; have f1 := X4.free 1; have I1 := hide i2; clear i2 hb2 X4))
  have hz : sval na A + sval n1 L1 = sval na A - sval nb B := by
    have g := unhide G1
    rw [sval_IsNum g.2.2.2.1 g.2.2.2.2.1]; omega
  have HI := hide (hz ▸ unhide I1)
  clear hz
  go_wp2
  refine bodyPost_ret (v := .agg #[.bool n2, .slice a2 L2.length c2]) (by simp [results, Try.results41, go_sem, y0, y1]) rfl ⟨.agg #[.bool n2, .slice a2 L2.length c2], rfl, ?_, ?_⟩
  · exact (IsNumM.stored (unhide HI) (by simp at s1; simp; omega) (by simp at s1; simp; omega) (by simp at s1; omega) _ _).more (by omega)
  · exact (((unhide HW0).trans (hB2.mono (by omega))).setCell (by simp; omega) _).setCell (by simp; omega) _

end Go.Proofs.Ytnpogpoknbgodaa

/- Contract of bits.Len32. -/
namespace Go.Proofs.Ytnpogpoknbgodaa
open Go.RowKit

set_option maxHeartbeats 4000000 in
set_option maxRecDepth 100000 in
theorem len32_any (x : Int) (w : World) (h0 : 0 ≤ x) (h1 : x ≤ 4294967295) :
    Calls Try.prog 62 #[.int .u32 x] w fun e w' => e = .returned (.int .i64 (Lib.bitLen x.toNat)) ∧ w = w' := by
  rcases (show x < 256 ∨ (256 ≤ x ∧ x < 65536) ∨ (65536 ≤ x ∧ x < 16777216) ∨ 16777216 ≤ x by omega) with h | ⟨ha, hb⟩ | ⟨ha, hb⟩ | h
  · have hi := fun w => Lib.run_index_len8tab (P := Try.prog) w 9 .u8 (x) Try.underlying9 (by omega) (by omega)
    have l1 := Lib.len8_eq ⟨(x).toNat, by omega⟩
    have l2 := Lib.bitLen_le8 ⟨(x).toNat, by omega⟩
    have hl0 : 0 ≤ Lib.len8 (x) := by simp only [Int.toNat_of_nonneg (show 0 ≤ x by omega)] at l1; rw [l1]; omega
    have hl8 : Lib.len8 (x) ≤ 8 := by simp only [Int.toNat_of_nonneg (show 0 ≤ x by omega)] at l1; rw [l1]; simp only at l2; omega
    have HE : Hid (Lib.len8 (x) = (Lib.bitLen (x).toNat : Int)) := by unfold Hid; simp only [Int.toNat_of_nonneg (show 0 ≤ x by omega)] at l1; exact l1
    clear l1 l2
    go_enter Try.func62, Try.ntmps62
    go_wp2
    go_ret
    refine ⟨ret_int ?_, rfl⟩
    rw [HE.out]
  · have hi := fun w => Lib.run_index_len8tab (P := Try.prog) w 9 .u8 (x / 256) Try.underlying9 (by omega) (by omega)
    have l1 := Lib.len8_eq ⟨(x / 256).toNat, by omega⟩
    have l2 := Lib.bitLen_le8 ⟨(x / 256).toNat, by omega⟩
    have hl0 : 0 ≤ Lib.len8 (x / 256) := by simp only [Int.toNat_of_nonneg (show 0 ≤ x / 256 by omega)] at l1; rw [l1]; omega
    have hl8 : Lib.len8 (x / 256) ≤ 8 := by simp only [Int.toNat_of_nonneg (show 0 ≤ x / 256 by omega)] at l1; rw [l1]; simp only at l2; omega
    have HE : Hid (Lib.len8 (x / 256) = (Lib.bitLen (x / 256).toNat : Int)) := by unfold Hid; simp only [Int.toNat_of_nonneg (show 0 ≤ x / 256 by omega)] at l1; exact l1
    clear l1 l2
    go_enter Try.func62, Try.ntmps62
    go_wp2
    go_ret
    refine ⟨ret_int ?_, rfl⟩
    rw [HE.out]
    have s := Lib.bitLen_shift8 x.toNat (by omega) (by omega)
    rw [show (x / 256).toNat = x.toNat / 256 by omega]
    omega
  · have hi := fun w => Lib.run_index_len8tab (P := Try.prog) w 9 .u8 (x / 65536) Try.underlying9 (by omega) (by omega)
    have l1 := Lib.len8_eq ⟨(x / 65536).toNat, by omega⟩
    have l2 := Lib.bitLen_le8 ⟨(x / 65536).toNat, by omega⟩
    have hl0 : 0 ≤ Lib.len8 (x / 65536) := by simp only [Int.toNat_of_nonneg (show 0 ≤ x / 65536 by omega)] at l1; rw [l1]; omega
    have hl8 : Lib.len8 (x / 65536) ≤ 8 := by simp only [Int.toNat_of_nonneg (show 0 ≤ x / 65536 by omega)] at l1; rw [l1]; simp only at l2; omega
    have HE : Hid (Lib.len8 (x / 65536) = (Lib.bitLen (x / 65536).toNat : Int)) := by unfold Hid; simp only [Int.toNat_of_nonneg (show 0 ≤ x / 65536 by omega)] at l1; exact l1
    clear l1 l2
    go_enter Try.func62, Try.ntmps62
    go_wp2
    go_ret
    refine ⟨ret_int ?_, rfl⟩
    rw [HE.out]
    have s := Lib.bitLen_shift16 x.toNat (by omega) (by omega)
    rw [show (x / 65536).toNat = x.toNat / 65536 by omega]
    omega
  · have hi := fun w => Lib.run_index_len8tab (P := Try.prog) w 9 .u8 (x / 65536 / 256) Try.underlying9 (by omega) (by omega)
    have l1 := Lib.len8_eq ⟨(x / 65536 / 256).toNat, by omega⟩
    have l2 := Lib.bitLen_le8 ⟨(x / 65536 / 256).toNat, by omega⟩
    have hl0 : 0 ≤ Lib.len8 (x / 65536 / 256) := by simp only [Int.toNat_of_nonneg (show 0 ≤ x / 65536 / 256 by omega)] at l1; rw [l1]; omega
    have hl8 : Lib.len8 (x / 65536 / 256) ≤ 8 := by simp only [Int.toNat_of_nonneg (show 0 ≤ x / 65536 / 256 by omega)] at l1; rw [l1]; simp only at l2; omega
    have HE : Hid (Lib.len8 (x / 65536 / 256) = (Lib.bitLen (x / 65536 / 256).toNat : Int)) := by unfold Hid; simp only [Int.toNat_of_nonneg (show 0 ≤ x / 65536 / 256 by omega)] at l1; exact l1
    clear l1 l2
    go_enter Try.func62, Try.ntmps62
    go_wp2
    go_ret
    refine ⟨ret_int ?_, rfl⟩
    rw [HE.out]
    have s := Lib.bitLen_shift24 x.toNat (by omega) (by omega)
    rw [show (x / 65536 / 256).toNat = x.toNat / 16777216 by omega]
    omega

end Go.Proofs.Ytnpogpoknbgodaa

/- Contracts of Len, Compare, and the reference's Len, Compare; of form. -/
namespace Go.Proofs.Ytnpogpoknbgodaa
open Go.RowKit

theorem bitLen_fuel : ∀ (f x : Nat), x < 2 ^ f → Lib.bitLenAux (f + 1) x = Lib.bitLenAux f x
  | 0, x, h => by simp at h; subst h; rfl
  | f + 1, x, h => by
    have ih := bitLen_fuel f (x / 2) (by rw [Nat.pow_succ] at h; omega)
    have e1 : Lib.bitLenAux (f + 1 + 1) x = if x = 0 then 0 else 1 + Lib.bitLenAux (f + 1) (x / 2) := rfl
    have e2 : Lib.bitLenAux (f + 1) x = if x = 0 then 0 else 1 + Lib.bitLenAux f (x / 2) := rfl
    rw [e1, e2, ih]

theorem bitLen_half (t : Nat) (h0 : 0 < t) (h : t < 4294967296) : Lib.bitLen t = 1 + Lib.bitLen (t / 2) := by
  have e1 : Lib.bitLen t = 1 + Lib.bitLenAux 63 (t / 2) := by
    unfold Lib.bitLen
    rw [Lib.bitLenAux, if_neg (by omega)]
  rw [e1]
  unfold Lib.bitLen
  rw [← bitLen_fuel 63 (t / 2) (by omega)]
theorem bitLen_zero : Lib.bitLen 0 = 0 := rfl
theorem bitLen_le (t : Nat) : Lib.bitLen t ≤ 64 := by
  have : ∀ f x, Lib.bitLenAux f x ≤ f := by
    intro f
    induction f with
    | zero => intro x; simp [Lib.bitLenAux]
    | succ f ih => intro x; rw [Lib.bitLenAux]; split; omega; have := ih (x / 2); omega
  exact this 64 t

/-- How many bits limbs have, the last being the topmost. -/
def lenL (L : List Nat) : Int := if L.length = 0 then 0 else 32 * ((L.length : Int) - 1) + (Lib.bitLen (L[L.length - 1]?.getD 0) : Int)

theorem ret_int2 {k k' : IntKind} {a b c d : Int} (h : a = b) (h' : c = d) : Ending.returned (.tuple #[.int k a, .int k' c]) = .returned (.tuple #[.int k b, .int k' d]) := by rw [h, h']

/-- What Compare says. -/
def cmpE (na : Bool) (A : List Nat) (nb : Bool) (B : List Nat) : Int := if rightB na A && rightB nb B then cmpI (sval na A) (sval nb B) else 0

theorem val_pos {neg : Bool} {L : List Nat} (h : rightB neg L = true) (hn : neg = true) : 0 < val L := by
  have h1 := right_canon h
  have := val_zero_of_canon L h1.2.1
  rcases Nat.eq_zero_or_pos (val L) with e | e
  · exact absurd (this.1 e) (h1.2.2 hn)
  · exact e

end Go.Proofs.Ytnpogpoknbgodaa

/- Contract of the reference's Compare. -/
namespace Go.Proofs.Ytnpogpoknbgodaa
open Go.RowKit

theorem cmpI_sub (x y : Int) : cmpI x y = if x - y < 0 then -1 else if x - y = 0 then 0 else 1 := by
  unfold cmpI; split <;> split <;> (try split) <;> (try split) <;> omega

end Go.Proofs.Ytnpogpoknbgodaa

/- Contracts of Small, and of the reference's Of. -/
namespace Go.Proofs.Ytnpogpoknbgodaa
open Go.RowKit

/-- Does a number fit 64 bits? -/
def fits64 (x : Int) : Bool := decide (-9223372036854775808 ≤ x ∧ x ≤ 9223372036854775807)
def smE (neg : Bool) (L : List Nat) : Int := if rightB neg L then (if fits64 (sval neg L) then 0 else 2) else 1
def smV (neg : Bool) (L : List Nat) : Int := if rightB neg L && fits64 (sval neg L) then sval neg L else 0

/-- Bits above what is there: put beside it. -/
theorem or_above (v x i : Nat) (hv : v < 2 ^ i) : v ||| x * 2 ^ i = v + x * 2 ^ i := by
  have := Nat.two_pow_add_eq_or_of_lt hv x
  rw [Nat.mul_comm x, Nat.or_comm, ← this]; omega

theorem or_limb (v x k : Nat) (hk : k ≤ 1) (hv : v < 4294967296 ^ k) (hx : x < 4294967296) :
    bits BinOp.or IntKind.u64 (v : Int) (IntKind.u64.wrap ((x : Int) * 2 ^ (k * 32))) = ((v + 4294967296 ^ k * x : Nat) : Int) := by
  rcases (show k = 0 ∨ k = 1 by omega) with rfl | rfl
  · have e : IntKind.u64.wrap ((x : Int) * 2 ^ (0 * 32)) = ((x : Nat) : Int) := by
      simp only [IntKind.wrap, IntKind.signed, IntKind.bits]; simp; omega
    rw [e, u64_or_nat v x (by simp at hv; omega) (by omega)]
    have : v = 0 := by simpa using hv
    subst this; simp
  · have e : IntKind.u64.wrap ((x : Int) * 2 ^ (1 * 32)) = ((x * 2 ^ 32 : Nat) : Int) := by
      simp only [IntKind.wrap, IntKind.signed, IntKind.bits]; simp; omega
    rw [e, u64_or_nat v (x * 2 ^ 32) (by simp at hv; omega) (by omega), or_above v x 32 (by simpa using hv)]
    congr 1
    simp; omega

theorem wrap_back (v : Nat) (hv : v ≤ 9223372036854775808) : wrap64 (IntKind.u64.wrap (-(v : Int))) = -(v : Int) := by
  unfold wrap64
  simp only [IntKind.wrap, IntKind.signed, IntKind.bits]
  simp
  omega

set_option maxHeartbeats 400000 in
theorem refOf_any (n : Int) (w : World) (h0 : -9223372036854775808 ≤ n) (h1 : n ≤ 9223372036854775807) :
    Calls Try.prog 12 #[.int .i64 n] w fun e w' => ∃ v, e = .returned v ∧ IsNumM 2 w.heap.size w' v n ∧ Below w.heap.size w w' := by
  obtain ⟨m, hm⟩ : ∃ m, m = n.natAbs := ⟨_, rfl⟩
  have hf : Fits [m % 4294967296, m / 4294967296] := by intro x hx; simp at hx; omega
  have HF := hide hf
  have HM := hide hm
  clear hf hm
  by_cases hn : n < 0
  · have hs : sval true [m % 4294967296, m / 4294967296] = n := by
      have := unhide HM
      unfold sval; rw [if_pos rfl, val_two]; omega
    have HS := hide hs
    clear hs
    go_enter Try.func12, Try.ntmps12
    go_wp2_with fail
    have hm := unhide HM
    have hR := two_row (w.alloc (.cells #[.bool false, .slice none 0 0] 35)) (w.heap.size + 1) ((-(n + 1) + 1) % 4294967296) ((-(n + 1) + 1) / 4294967296) (m % 4294967296) (m / 4294967296) (by simp) (by omega) (by omega)
    refine (made_any (w.heap.size + 1) true (some ⟨w.heap.size + 1, 0, none⟩) 2 [m % 4294967296, m / 4294967296] _ (hR.limbs (unhide HF) 2 (by simp)) (.inr ⟨_, _, rfl, Nat.le_refl _⟩) (by simp)).mono ?_
    rw [unhide HS]
    rintro e w1 ⟨v, rfl, ⟨n2, a2, c2, L2, rfl, i1⟩, hb1⟩
    have r1 : Box2 w1 w.heap.size (.bool false) (.slice none 0 0) := ((Box2.new _ _ _).old _).below hb1 (by simp; omega)
    have y0 := r1.c0; have y1 := r1.c1; have f0 := r1.free 0; have f1 := r1.free 1
    have I1 := hide i1
    have HB1 := hide ((((Below.refl _ w).alloc (Nat.le_refl _) (.cells #[.bool false, .slice none 0 0] 35)).alloc (by simp) _).trans (hb1.mono (by simp; omega)))
    clear i1 hb1 r1 hR hm
    go_wp2
    refine bodyPost_ret (v := .agg #[.bool n2, .slice a2 L2.length c2]) (by simp [results, Try.results12, go_sem, y0, y1]) rfl ⟨.agg #[.bool n2, .slice a2 L2.length c2], rfl, ?_, ?_⟩
    · exact IsNumM.stored (unhide I1) (by simp) (by simp) (by omega) _ _
    · exact ((unhide HB1).setCell (by simp) _).setCell (by simp) _
  · have hs : sval false [m % 4294967296, m / 4294967296] = n := by
      have := unhide HM
      unfold sval; rw [if_neg (by decide), val_two]; omega
    have HS := hide hs
    clear hs
    go_enter Try.func12, Try.ntmps12
    go_wp2_with fail
    have hm := unhide HM
    have hR := two_row (w.alloc (.cells #[.bool false, .slice none 0 0] 35)) (w.heap.size + 1) (n % 4294967296) (n / 4294967296) (m % 4294967296) (m / 4294967296) (by simp) (by omega) (by omega)
    refine (made_any (w.heap.size + 1) false (some ⟨w.heap.size + 1, 0, none⟩) 2 [m % 4294967296, m / 4294967296] _ (hR.limbs (unhide HF) 2 (by simp)) (.inr ⟨_, _, rfl, Nat.le_refl _⟩) (by simp)).mono ?_
    rw [unhide HS]
    rintro e w1 ⟨v, rfl, ⟨n2, a2, c2, L2, rfl, i1⟩, hb1⟩
    have r1 : Box2 w1 w.heap.size (.bool false) (.slice none 0 0) := ((Box2.new _ _ _).old _).below hb1 (by simp; omega)
    have y0 := r1.c0; have y1 := r1.c1; have f0 := r1.free 0; have f1 := r1.free 1
    have I1 := hide i1
    have HB1 := hide ((((Below.refl _ w).alloc (Nat.le_refl _) (.cells #[.bool false, .slice none 0 0] 35)).alloc (by simp) _).trans (hb1.mono (by simp; omega)))
    clear i1 hb1 r1 hR hm
    go_wp2
    refine bodyPost_ret (v := .agg #[.bool n2, .slice a2 L2.length c2]) (by simp [results, Try.results12, go_sem, y0, y1]) rfl ⟨.agg #[.bool n2, .slice a2 L2.length c2], rfl, ?_, ?_⟩
    · exact IsNumM.stored (unhide I1) (by simp) (by simp) (by omega) _ _
    · exact ((unhide HB1).setCell (by simp) _).setCell (by simp) _

end Go.Proofs.Ytnpogpoknbgodaa

