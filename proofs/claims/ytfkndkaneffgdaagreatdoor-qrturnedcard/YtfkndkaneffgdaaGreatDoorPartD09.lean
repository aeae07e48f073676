/- Part 9 of the texts. -/
import Derived.Test.YtfkndkaneffgdaaGreatDoorPartD08
import Derived.Test.YtfkndkaneffgdaaGreatDoorPartD05
import Derived.Test.YtfkndkaneffgdaaGreatDoorPartD02
import Derived.Deep.AppendLies
import Derived.Test.YtfkndkaneffgdaaGreatDoorPartD06
import Derived.Deep.RegionLaw
import Derived.Test.YtfkndkaneffgdaaGreatDoorPartD07
import Derived.Laws.BitsAllLaws
import Derived.Test.YtfkndkaneffgdaaGreatDoorPartD03
import Derived.Shelf.Spec.TrailingZeros
/- What stays where one row is written over; copied of any number. -/
namespace Go.Proofs.YtfkndkaneffgdaaGreatDoor
open Go.RowKit
theorem Box2.grown {w w' : World} {b k : Nat} {x y : Value} (h : Box2 w b x y) (hg : w.grownBy w' (some k)) (hne : b ≠ k) : Box2 w' b x y := (hg.block b h.lt (by simpa using hne)).trans h

theorem LimbsAt.grown {w w' : World} {ao : Option Addr} {cap k : Nat} {L : List Nat} (h : LimbsAt w ao cap L) (hg : w.grownBy w' (some k)) (hne : ∀ b off, ao = some ⟨b, off, none⟩ → L ≠ [] → b ≠ k) : LimbsAt w' ao cap L := by
  refine ⟨h.1, h.2.1, ?_⟩
  rcases h.2.2 with h0 | ⟨b, off, h1, h2, h3⟩
  · exact .inl h0
  · by_cases he : L = []
    · exact .inl he
    · have hb := hg.block b h2 (by have := hne b off h1 he; simpa using this)
      refine .inr ⟨b, off, h1, Nat.lt_of_lt_of_le h2 hg.size, fun i hi => ?_⟩
      rw [World.cell?_of_block (a := ⟨b, off + i, none⟩) hb]
      exact h3 i hi

theorem IsNum.grown {w w' : World} {B k : Nat} {v : Value} {x : Int} (h : IsNum B w v x) (hg : w.grownBy w' (some k)) (hk : k < B) : IsNum B w' v x := by
  obtain ⟨neg, ao, cap, L, h1, h2, h3, h4⟩ := h
  refine ⟨neg, ao, cap, L, h1, h2.grown hg ?_, h3, h4⟩
  intro b off e he
  rcases h3 with h0 | ⟨b', off', e', hb'⟩
  · exact absurd h0 he
  · rw [e] at e'
    simp only [Option.some.injEq, Addr.mk.injEq] at e'
    omega

end Go.Proofs.YtfkndkaneffgdaaGreatDoor

/- Plain facts for the reference's Shift. -/
namespace Go.Proofs.YtfkndkaneffgdaaGreatDoor
open Go.RowKit

/-- A size times 2^m, without what is behind the point. -/
def shF (v : Nat) (m : Int) : Nat := if 0 ≤ m then v * 2 ^ m.toNat else v / 2 ^ (-m).toNat
theorem shV_shF (neg : Bool) (L : List Nat) (n : Int) : shV neg L n = sg neg (shF (val L) n) := rfl
theorem Box2.put {w : World} {b : Nat} {x y : Value} (h : Box2 w b x y) (u u' : Value) : Box2 ((w.setCell ⟨b, 0, none⟩ u).setCell ⟨b, 1, none⟩ u') b u u' := by
  have h1 := heap_setCell_same w b 0 _ _ u h
  have h2 := heap_setCell_same (w.setCell ⟨b, 0, none⟩ u) b 1 _ _ u' h1
  unfold Box2
  rw [h2]
  simp

end Go.Proofs.YtfkndkaneffgdaaGreatDoor

/- The reference's Shift of any right number; light. -/
namespace Go.Proofs.YtfkndkaneffgdaaGreatDoor
open Go.RowKit
attribute [local go_sem ↓] Go.wp_at_zero Go.wp_at_succ
/-- Can numbers be gone through here? -/
def lt1 (n : Bool) (L : List Nat) : Bool := decide (L.length ≤ 40) || !rightB n L

end Go.Proofs.YtfkndkaneffgdaaGreatDoor

/- Contracts of Small, and of the reference's Of. -/
namespace Go.Proofs.YtfkndkaneffgdaaGreatDoor
open Go.RowKit

/-- Does a number fit 64 bits? -/
def fits64 (x : Int) : Bool := decide (-9223372036854775808 ≤ x ∧ x ≤ 9223372036854775807)
def smE (neg : Bool) (L : List Nat) : Int := if rightB neg L then (if fits64 (sval neg L) then 0 else 2) else 1
def smV (neg : Bool) (L : List Nat) : Int := if rightB neg L && fits64 (sval neg L) then sval neg L else 0

/-- Bits above what is there: put beside it. -/
theorem or_above (v x i : Nat) (hv : v < 2 ^ i) : v ||| x * 2 ^ i = v + x * 2 ^ i := by
  have := Nat.two_pow_add_eq_or_of_lt hv x
  rw [Nat.mul_comm x, Nat.or_comm, ← this]; omega

theorem or_limb (v x k : Nat) (hk : k ≤ 1) (hv : v < 4294967296 ^ k) (hx : x < 4294967296) :
    bits BinOp.or IntKind.u64 (v : Int) (IntKind.u64.wrap ((x : Int) * 2 ^ (k * 32))) = ((v + 4294967296 ^ k * x : Nat) : Int) := by
  rcases (show k = 0 ∨ k = 1 by omega) with rfl | rfl
  · have e : IntKind.u64.wrap ((x : Int) * 2 ^ (0 * 32)) = ((x : Nat) : Int) := by
      simp only [IntKind.wrap, IntKind.signed, IntKind.bits]; simp; omega
    rw [e, u64_or_nat v x (by simp at hv; omega) (by omega)]
    have : v = 0 := by simpa using hv
    subst this; simp
  · have e : IntKind.u64.wrap ((x : Int) * 2 ^ (1 * 32)) = ((x * 2 ^ 32 : Nat) : Int) := by
      simp only [IntKind.wrap, IntKind.signed, IntKind.bits]; simp; omega
    rw [e, u64_or_nat v (x * 2 ^ 32) (by simp at hv; omega) (by omega), or_above v x 32 (by simpa using hv)]
    congr 1
    simp; omega

theorem wrap_back (v : Nat) (hv : v ≤ 9223372036854775808) : wrap64 (IntKind.u64.wrap (-(v : Int))) = -(v : Int) := by
  unfold wrap64
  simp only [IntKind.wrap, IntKind.signed, IntKind.bits]
  simp
  omega

set_option maxHeartbeats 1000000 in
theorem small_right (neg : Bool) (ao : Option Addr) (cap : Nat) (L : List Nat) (w : World) (h : LimbsAt w ao cap L) (hr : rightB neg L = true) (hl : L.length ≤ 2) :
    Calls Tryz.prog 163 #[.agg #[.bool neg, .slice ao L.length cap]] w fun e w' => e = .returned (.tuple #[.int .i64 (smV neg L), .int .i64 (smE neg L)]) ∧ Below w.heap.size w w' := by
  have hck := check_any neg ao cap L (w.alloc (.cells #[.bool neg, .slice ao L.length cap] 107)) (h.below ((Below.refl _ _).alloc (Nat.le_refl _) _)) (by omega)
  have hz : chkE neg L = 0 := by simp [chkE, hr]
  rw [hz] at hck
  have hF : (neg = true → val L ≤ 9223372036854775808 → smV neg L = -(val L : Int) ∧ smE neg L = 0) ∧ (neg = true → 9223372036854775808 < val L → smV neg L = 0 ∧ smE neg L = 2) ∧ (neg = false → val L < 9223372036854775808 → smV neg L = (val L : Int) ∧ smE neg L = 0) ∧ (neg = false → 9223372036854775808 ≤ val L → smV neg L = 0 ∧ smE neg L = 2) := by
    unfold smV smE
    rw [hr]
    refine ⟨?_, ?_, ?_, ?_⟩ <;> (rintro rfl hv; simp only [sval, fits64, if_true, Bool.true_and, Bool.false_eq_true, if_false])
    · rw [decide_eq_true (by omega)]; simp
    · rw [decide_eq_false (by omega)]; simp
    · rw [decide_eq_true (by omega)]; simp
    · rw [decide_eq_false (by omega)]; simp
  have HF := hide hF
  clear hF
  generalize smV neg L = r at *
  generalize smE neg L = e2 at *
  have HCK := hide hck
  clear hck hz hr
  go_enter Tryz.func163, Tryz.ntmps163
  go_wp2_with fail
  refine (unhide HCK).mono ?_
  rintro e w1 ⟨rfl, hb1⟩
  have x0 : Box2 w1 w.heap.size (.bool neg) (.slice ao L.length cap) := (Box2.new _ _ _).below hb1 (by simp)
  have p0 := x0.c0; have p1 := x0.c1
  have bel : Below w.heap.size w w1 := ((Below.refl _ _).alloc (Nat.le_refl _) _).trans (hb1.mono (by simp))
  clear x0 hb1 HCK
  go_wp2
  go_loop [5, 19] (fun s i => ∃ k : Nat, k ≤ L.length ∧ i = .int .i64 k ∧ s = .int .u64 ((val (L.take k) : Nat) : Int)) (fun _ i => L.length - (intOf i).toNat)
  case atStart => exact ⟨0, Nat.zero_le _, rfl, by simp [val]⟩
  case round =>
    obtain ⟨k, hk, rfl, rfl⟩ := hrel
    by_cases hlt : k < L.length
    · obtain ⟨b, off, hao, hb, hc⟩ := h.ne (by omega)
      have c1 := hc k hlt
      have d1 : w1.cell? ⟨b, off + k, none⟩ = some (.int .u32 ((L[k]?.getD 0 : Nat) : Int)) := by rw [bel.cell (p := ⟨b, off + k, none⟩) hb]; exact c1
      have hx := h.lt k
      have hv := val_take_lt L h.2.1 k
      have hvs := val_take_succ L k
      have HVS := hide hvs
      clear c1 hc hvs
      generalize L[k]?.getD 0 = x at *
      generalize hvk : val (L.take k) = v at *
      clear hvk h
      subst hao
      have hk1 : k ≤ 1 := by omega
      have hor := or_limb v x k hk1 hv hx
      have HOR := hide hor
      clear hor
      go_wp2
      go_round
      case rel => exact ⟨k + 1, by omega, by go_num, int_eq (by rw [unhide HOR, unhide HVS])⟩
      case measure => simp [intOf]; omega
    · have hkl : k = L.length := by omega
      rw [hkl, List.take_length]
      clear hkl hk hlt
      have hvl := val_lt L h.2.1
      have hv64 : val L < 18446744073709551616 := by
        refine Nat.lt_of_lt_of_le hvl ?_
        have := Nat.pow_le_pow_right (n := 4294967296) (by decide) hl
        simpa using this
      generalize val L = v at *
      clear hvl h
      cases neg
      · rcases Nat.lt_or_ge v 9223372036854775808 with hv | hv
        · have H := hide ((unhide HF).2.2.1 rfl hv)
          have hv' : (v : Int) < 9223372036854775808 := by omega
          clear HF hv hv64
          go_wp2
          go_ret2
          exact ⟨ret_int2 (unhide H).1.symm (unhide H).2.symm, bel⟩
        · have H := hide ((unhide HF).2.2.2 rfl hv)
          have hv' : ¬ (v : Int) < 9223372036854775808 := by omega
          clear HF
          go_wp2
          go_ret2
          exact ⟨ret_int2 (unhide H).1.symm (unhide H).2.symm, bel⟩
      · rcases Nat.lt_or_ge 9223372036854775808 v with hv | hv
        · have H := hide ((unhide HF).2.1 rfl hv)
          have hv' : ¬ (v : Int) ≤ 9223372036854775808 := by omega
          clear HF
          go_wp2
          go_ret2
          exact ⟨ret_int2 (unhide H).1.symm (unhide H).2.symm, bel⟩
        · have H := hide ((unhide HF).1 rfl hv)
          clear HF
          go_wp2
          go_ret2
          refine ⟨ret_int2 ?_ (unhide H).2.symm, bel⟩
          rw [(unhide H).1]
          exact wrap_back v hv

set_option maxHeartbeats 400000 in
theorem small_any (neg : Bool) (ao : Option Addr) (cap : Nat) (L : List Nat) (w : World) (h : LimbsAt w ao cap L) (hl : L.length ≤ 35184372088830) :
    Calls Tryz.prog 163 #[.agg #[.bool neg, .slice ao L.length cap]] w fun e w' => e = .returned (.tuple #[.int .i64 (smV neg L), .int .i64 (smE neg L)]) ∧ Below w.heap.size w w' := by
  cases hr : rightB neg L
  · have hck := check_any neg ao cap L (w.alloc (.cells #[.bool neg, .slice ao L.length cap] 107)) (h.below ((Below.refl _ _).alloc (Nat.le_refl _) _)) hl
    have hz : chkE neg L = 1 := by simp [chkE, hr]
    rw [hz] at hck
    have HCK := hide hck
    have H := hide (show smV neg L = 0 ∧ smE neg L = 1 by simp [smV, smE, hr])
    generalize smV neg L = r at *
    generalize smE neg L = e2 at *
    clear hck hz hr
    go_enter Tryz.func163, Tryz.ntmps163
    go_wp2_with fail
    refine (unhide HCK).mono ?_
    rintro e w1 ⟨rfl, hb1⟩
    go_wp2
    go_ret2
    exact ⟨ret_int2 (unhide H).1.symm (unhide H).2.symm, ((Below.refl _ _).alloc (Nat.le_refl _) _).trans (hb1.mono (by simp))⟩
  · by_cases h2 : L.length ≤ 2
    · exact small_right neg ao cap L w h hr h2
    · have hck := check_any neg ao cap L (w.alloc (.cells #[.bool neg, .slice ao L.length cap] 107)) (h.below ((Below.refl _ _).alloc (Nat.le_refl _) _)) hl
      have hz : chkE neg L = 0 := by simp [chkE, hr]
      rw [hz] at hck
      have HCK := hide hck
      have hbig : 18446744073709551616 ≤ val L := by
        rcases (right_canon hr).2.1 with e | e
        · rw [e] at h2; simp at h2
        · have h3 := val_ge L e
          have h4 := Nat.pow_le_pow_right (n := 4294967296) (by decide) (show 2 ≤ L.length - 1 by omega)
          simp at h4; omega
      have hf : fits64 (sval neg L) = false := by
        unfold fits64 sval
        rw [decide_eq_false_iff_not]
        cases neg <;> simp <;> omega
      have H := hide (show smV neg L = 0 ∧ smE neg L = 2 by simp [smV, smE, hr, hf])
      generalize smV neg L = r at *
      generalize smE neg L = e2 at *
      clear hck hz hr hbig hf
      go_enter Tryz.func163, Tryz.ntmps163
      go_wp2_with fail
      refine (unhide HCK).mono ?_
      rintro e w1 ⟨rfl, hb1⟩
      have x0 : Box2 w1 w.heap.size (.bool neg) (.slice ao L.length cap) := (Box2.new _ _ _).below hb1 (by simp)
      have p0 := x0.c0; have p1 := x0.c1
      have bel : Below w.heap.size w w1 := ((Below.refl _ _).alloc (Nat.le_refl _) _).trans (hb1.mono (by simp))
      clear x0 hb1 HCK
      go_wp2
      go_ret2
      exact ⟨ret_int2 (unhide H).1.symm (unhide H).2.symm, bel⟩

end Go.Proofs.YtfkndkaneffgdaaGreatDoor

/- Contracts of dyadic's small helpers. -/
namespace Go.Proofs.YtfkndkaneffgdaaGreatDoor
open Go.RowKit

/-- The library's table lies in its variable. -/
def Tab (w : World) : Prop := TabAt 1 Lib.deBruijn32tab w

theorem Tab.below {w w' : World} {B : Nat} (h : Tab w) (hb : Below B w w') (h0 : 1 < B) : Tab w' := fun j hj => by
  rw [hb.cell (p := ⟨1, j, none⟩) h0]
  exact h j hj

theorem Tab.pos {w : World} (h : Tab w) : 1 < w.heap.size := World.block_lt_of_cell? w _ (h 0 (by decide))

theorem Tab.all {w w' : World} (h : Tab w) (hb : Below w.heap.size w w') : Tab w' := h.below hb h.pos

set_option maxHeartbeats 1000000 in
theorem tz32_core (x k idx : Nat) (w : World) (hx0 : ((x : Int) == 0) = false)
    (key : bits BinOp.and IntKind.u32 (x : Int) (-(x : Int) % 4294967296) * 125613361 % 4294967296 / 134217728 = (idx : Int))
    (hi : idx < 32) (hk : k < 32) (hcell : w.cell? ⟨1, idx, none⟩ = some (.int .u8 k)) :
    Calls Tryz.prog 184 #[.int .u32 x] w fun e w' => e = .returned (.int .i64 k) ∧ w = w' := by
  go_enter Tryz.func184, Tryz.ntmps184
  go_wp2_with (simp only [key])
  go_ret
  exact ⟨rfl, rfl⟩

theorem tz32_any (x : Nat) (w : World) (hx : x < 4294967296) (hT : Tab w) :
    Calls Tryz.prog 184 #[.int .u32 x] w fun e w' => e = .returned (.int .i64 (Lib.ctz 32 x)) ∧ w = w' := by
  by_cases hx0 : x = 0
  · subst hx0
    go_enter Tryz.func184, Tryz.ntmps184
    go_wp2
    go_ret
    exact ⟨rfl, rfl⟩
  · obtain ⟨hlow, hk⟩ := Lib.lowest_bit 32 x hx0 hx
    obtain ⟨hi, htab⟩ := Lib.deBruijn32_at _ hk
    have hcell := hT _ hi
    rw [htab] at hcell
    exact tz32_core x _ _ w (by simp; omega) (tz32_key x _ hx hx0 hlow) hi hk hcell

set_option maxHeartbeats 400000 in
theorem within_any (n m : Int) (w : World) (hm : 0 ≤ m) (hm2 : m ≤ 100000) :
    Calls Tryz.prog 166 #[.int .i64 n, .int .i64 m] w fun e w' => e = .returned (.bool (decide (-m ≤ n ∧ n ≤ m))) ∧ w = w' := by
  have hw : IntKind.i64.wrap (-m) = -m := by
    simp only [IntKind.wrap, IntKind.signed, IntKind.bits]
    simp
    omega
  by_cases h1 : -m ≤ n
  · by_cases h2 : n ≤ m
    · go_enter Tryz.func166, Tryz.ntmps166
      go_wp2
      go_ret
      exact ⟨ret_bool (by simp [h1, h2]), rfl⟩
    · go_enter Tryz.func166, Tryz.ntmps166
      go_wp2
      go_ret
      exact ⟨ret_bool (by simp [h2]), rfl⟩
  · have h3 : ¬ (-m ≤ n ∧ n ≤ m) := fun h => h1 h.1
    have H3 := hide (decide_eq_false h3)
    rw [unhide H3]
    clear h3 H3
    go_enter Tryz.func166, Tryz.ntmps166
    go_wp2
    go_ret
    exact ⟨rfl, rfl⟩

set_option maxHeartbeats 400000 in
theorem isZero_any (neg : Bool) (ao : Option Addr) (cap : Nat) (n : Nat) (w : World) :
    Calls Tryz.prog 167 #[.agg #[.bool neg, .slice ao n cap]] w fun e w' => e = .returned (.bool (decide (n = 0))) ∧ Below w.heap.size w w' := by
  by_cases h0 : n = 0
  · subst h0
    go_enter Tryz.func167, Tryz.ntmps167
    go_wp2
    go_ret
    exact ⟨rfl, (Below.refl _ _).alloc (Nat.le_refl _) _⟩
  · have h1 : ((n : Int) == 0) = false := by simp; omega
    have H := hide (decide_eq_false h0)
    clear h0
    go_enter Tryz.func167, Tryz.ntmps167
    go_wp2
    go_ret
    exact ⟨ret_bool (unhide H).symm, (Below.refl _ _).alloc (Nat.le_refl _) _⟩

/-- How often 2 goes into a number; of 0: 0. -/
def lowZ (v : Nat) : Int := if v = 0 then 0 else (tz v : Int)

theorem lowZ_pos (v : Nat) (h : v ≠ 0) : lowZ v = tz v := by unfold lowZ; rw [if_neg h]

set_option maxHeartbeats 400000 in
theorem lowZeros_any (neg : Bool) (ao : Option Addr) (cap : Nat) (L : List Nat) (w : World) (h : LimbsAt w ao cap L) (hl : L.length ≤ 1073741824) (hT : Tab w) :
    Calls Tryz.prog 165 #[.agg #[.bool neg, .slice ao L.length cap]] w fun e w' => e = .returned (.int .i64 (lowZ (val L))) ∧ Below w.heap.size w w' := by
  by_cases hne : L = []
  · subst hne
    go_enter Tryz.func165, Tryz.ntmps165
    go_wp2
    refine wp_loop_rounds 1 ?_
    rw [rounds_succ]
    go_wp2
    go_ret
    exact ⟨rfl, (Below.refl _ _).alloc (Nat.le_refl _) _⟩
  obtain ⟨b, off, rfl, hb, hc⟩ := h.ne (List.length_pos_iff.2 hne)
  have hcap := h.1
  have hb0 : Below w.heap.size w (w.alloc (.cells #[.bool neg, .slice (some ⟨b, off, none⟩) L.length cap] 107)) := (Below.refl _ _).alloc (Nat.le_refl _) _
  have hc' : ∀ i, i < L.length → (w.alloc (.cells #[.bool neg, .slice (some ⟨b, off, none⟩) L.length cap] 107)).cell? ⟨b, off + i, none⟩ = some (.int .u32 ((L[i]?.getD 0 : Nat) : Int)) := fun i hi => by
    rw [hb0.cell (p := ⟨b, off + i, none⟩) hb]; exact hc i hi
  have hT' := hT.all hb0
  have HR := hide (fun k x => tz_limbs L k x)
  have HZ := hide (fun h : val L = 0 => (show lowZ (val L) = 0 by rw [h]; rfl))
  have HP := hide (fun h => lowZ_pos (val L) h)
  have HF := hide (fun i => h.lt i)
  have HV := hide (fun k (hk : L.length ≤ k) => val_take_all L k hk)
  have HS := hide (fun k => val_take_succ L k)
  have HB0 := hide hb0
  clear hT hc h hb hne hb0
  generalize lowZ (val L) = z at *
  go_enter Tryz.func165, Tryz.ntmps165
  go_wp2
  go_loop [3, 9] (fun c i => ∃ k : Nat, k ≤ L.length ∧ i = .int .i64 k ∧ c = .int .i64 (32 * (k : Int)) ∧ Hid (val (L.take k) = 0)) (fun _ i => L.length - (intOf i).toNat)
  case atStart => exact ⟨0, Nat.zero_le _, rfl, rfl, by unfold Hid; simp [val]⟩
  case round =>
    obtain ⟨k, hk, rfl, rfl, hv⟩ := hrel
    by_cases hlt : k < L.length
    · have hc1 := hc' k hlt
      clear hc'
      have hx := unhide HF k
      have HS1 := hide (unhide HS k)
      have HR1 := hide (fun h0 => unhide HR k _ hv.out rfl h0 hx)
      clear HR HZ HS HF HV
      generalize L[k]?.getD 0 = x at *
      have TZ := hide (tz32_any x _ hx hT')
      have hx32 : (Lib.ctz 32 x : Int) ≤ 32 ∧ (0 : Int) ≤ Lib.ctz 32 x := by
        by_cases h0 : x = 0
        · subst h0; decide
        · have := (Lib.lowest_bit 32 x h0 (by omega)).2
          omega
      have HTC := hide (fun h0 => tz_ctz x h0 hx)
      have e0 : x = 0 → Lib.ctz 32 x = 32 := fun h => by subst h; rfl
      generalize Lib.ctz 32 x = c at *
      obtain ⟨c1, c2⟩ := hx32
      by_cases hx0 : x = 0
      · have ec := e0 hx0
        subst hx0; subst ec
        have HN : Hid (val (L.take (k + 1)) = 0) := by unfold Hid; rw [unhide HS1, hv.out]; simp
        clear HR1 HS1 hv HTC e0 HP
        go_wp2_with (go_at_call 184; refine (unhide TZ).mono ?_; rintro e w' ⟨rfl, rfl⟩)
        go_round
        case rel => exact ⟨k + 1, by omega, by go_num, int_eq (by omega), HN⟩
        case measure => simp [intOf]; omega
      · have hr := unhide HR1 hx0
        have HE := hide (show z = 32 * (k : Int) + (c : Int) by rw [unhide HP hr.1, hr.2, unhide HTC hx0]; omega)
        have hx1 : ((x : Int) != 0) = true := by rw [bne_iff_ne]; omega
        clear HR1 HS1 hv HTC e0 HP hr
        go_wp2_with (go_at_call 184; refine (unhide TZ).mono ?_; rintro e w' ⟨rfl, rfl⟩)
        go_ret
        exact ⟨ret_int (unhide HE).symm, unhide HB0⟩
    · have hz := unhide HZ (by rw [← unhide HV k (by omega)]; exact hv.out)
      subst hz
      clear HR HZ HP HF HV HS hv hc'
      go_wp2
      go_ret
      exact ⟨rfl, unhide HB0⟩

end Go.Proofs.YtfkndkaneffgdaaGreatDoor

