/- Part 9 of the texts. -/
import Derived.Test.YtfkndkaneffgdaaGreatDoorPartC08
import Derived.Test.YtfkndkaneffgdaaGreatDoorPartC05
import Derived.Test.YtfkndkaneffgdaaGreatDoorPartC02
import Derived.Deep.AppendLies
import Derived.Test.YtfkndkaneffgdaaGreatDoorPartC06
import Derived.Test.YtfkndkaneffgdaaGreatDoorPartC07
import Derived.Laws.BitsAllLaws
import Derived.Test.YtfkndkaneffgdaaGreatDoorPartC03
import Derived.Deep.RegionLaw
import Derived.Shelf.Spec.TrailingZeros
/- What stays where one row is written over; copied of any number. -/
namespace Go.Proofs.YtfkndkaneffgdaaGreatDoor
open Go.RowKit
theorem Box2.grown {w w' : World} {b k : Nat} {x y : Value} (h : Box2 w b x y) (hg : w.grownBy w' (some k)) (hne : b ≠ k) : Box2 w' b x y := (hg.block b h.lt (by simpa using hne)).trans h

theorem LimbsAt.grown {w w' : World} {ao : Option Addr} {cap k : Nat} {L : List Nat} (h : LimbsAt w ao cap L) (hg : w.grownBy w' (some k)) (hne : ∀ b off, ao = some ⟨b, off, none⟩ → L ≠ [] → b ≠ k) : LimbsAt w' ao cap L := by
  refine ⟨h.1, h.2.1, ?_⟩
  rcases h.2.2 with h0 | ⟨b, off, h1, h2, h3⟩
  · exact .inl h0
  · by_cases he : L = []
    · exact .inl he
    · have hb := hg.block b h2 (by have := hne b off h1 he; simpa using this)
      refine .inr ⟨b, off, h1, Nat.lt_of_lt_of_le h2 hg.size, fun i hi => ?_⟩
      rw [World.cell?_of_block (a := ⟨b, off + i, none⟩) hb]
      exact h3 i hi

theorem IsNum.grown {w w' : World} {B k : Nat} {v : Value} {x : Int} (h : IsNum B w v x) (hg : w.grownBy w' (some k)) (hk : k < B) : IsNum B w' v x := by
  obtain ⟨neg, ao, cap, L, h1, h2, h3, h4⟩ := h
  refine ⟨neg, ao, cap, L, h1, h2.grown hg ?_, h3, h4⟩
  intro b off e he
  rcases h3 with h0 | ⟨b', off', e', hb'⟩
  · exact absurd h0 he
  · rw [e] at e'
    simp only [Option.some.injEq, Addr.mk.injEq] at e'
    omega

end Go.Proofs.YtfkndkaneffgdaaGreatDoor

/- Plain facts for the reference's Shift. -/
namespace Go.Proofs.YtfkndkaneffgdaaGreatDoor
open Go.RowKit

/-- A size times 2^m, without what is behind the point. -/
def shF (v : Nat) (m : Int) : Nat := if 0 ≤ m then v * 2 ^ m.toNat else v / 2 ^ (-m).toNat
theorem shV_shF (neg : Bool) (L : List Nat) (n : Int) : shV neg L n = sg neg (shF (val L) n) := rfl
theorem Box2.put {w : World} {b : Nat} {x y : Value} (h : Box2 w b x y) (u u' : Value) : Box2 ((w.setCell ⟨b, 0, none⟩ u).setCell ⟨b, 1, none⟩ u') b u u' := by
  have h1 := heap_setCell_same w b 0 _ _ u h
  have h2 := heap_setCell_same (w.setCell ⟨b, 0, none⟩ u) b 1 _ _ u' h1
  unfold Box2
  rw [h2]
  simp

end Go.Proofs.YtfkndkaneffgdaaGreatDoor

/- Contracts of Small, and of the reference's Of. -/
namespace Go.Proofs.YtfkndkaneffgdaaGreatDoor
open Go.RowKit

/-- Does a number fit 64 bits? -/
def fits64 (x : Int) : Bool := decide (-9223372036854775808 ≤ x ∧ x ≤ 9223372036854775807)
def smE (neg : Bool) (L : List Nat) : Int := if rightB neg L then (if fits64 (sval neg L) then 0 else 2) else 1
def smV (neg : Bool) (L : List Nat) : Int := if rightB neg L && fits64 (sval neg L) then sval neg L else 0

/-- Bits above what is there: put beside it. -/
theorem or_above (v x i : Nat) (hv : v < 2 ^ i) : v ||| x * 2 ^ i = v + x * 2 ^ i := by
  have := Nat.two_pow_add_eq_or_of_lt hv x
  rw [Nat.mul_comm x, Nat.or_comm, ← this]; omega

theorem or_limb (v x k : Nat) (hk : k ≤ 1) (hv : v < 4294967296 ^ k) (hx : x < 4294967296) :
    bits BinOp.or IntKind.u64 (v : Int) (IntKind.u64.wrap ((x : Int) * 2 ^ (k * 32))) = ((v + 4294967296 ^ k * x : Nat) : Int) := by
  rcases (show k = 0 ∨ k = 1 by omega) with rfl | rfl
  · have e : IntKind.u64.wrap ((x : Int) * 2 ^ (0 * 32)) = ((x : Nat) : Int) := by
      simp only [IntKind.wrap, IntKind.signed, IntKind.bits]; simp; omega
    rw [e, u64_or_nat v x (by simp at hv; omega) (by omega)]
    have : v = 0 := by simpa using hv
    subst this; simp
  · have e : IntKind.u64.wrap ((x : Int) * 2 ^ (1 * 32)) = ((x * 2 ^ 32 : Nat) : Int) := by
      simp only [IntKind.wrap, IntKind.signed, IntKind.bits]; simp; omega
    rw [e, u64_or_nat v (x * 2 ^ 32) (by simp at hv; omega) (by omega), or_above v x 32 (by simpa using hv)]
    congr 1
    simp; omega

theorem wrap_back (v : Nat) (hv : v ≤ 9223372036854775808) : wrap64 (IntKind.u64.wrap (-(v : Int))) = -(v : Int) := by
  unfold wrap64
  simp only [IntKind.wrap, IntKind.signed, IntKind.bits]
  simp
  omega

set_option maxHeartbeats 1000000 in
theorem small_right (neg : Bool) (ao : Option Addr) (cap : Nat) (L : List Nat) (w : World) (h : LimbsAt w ao cap L) (hr : rightB neg L = true) (hl : L.length ≤ 2) :
    Calls Tryz.prog 163 #[.agg #[.bool neg, .slice ao L.length cap]] w fun e w' => e = .returned (.tuple #[.int .i64 (smV neg L), .int .i64 (smE neg L)]) ∧ Below w.heap.size w w' := by
  have hck := check_any neg ao cap L (w.alloc (.cells #[.bool neg, .slice ao L.length cap] 107)) (h.below ((Below.refl _ _).alloc (Nat.le_refl _) _)) (by omega)
  have hz : chkE neg L = 0 := by simp [chkE, hr]
  rw [hz] at hck
  have hF : (neg = true → val L ≤ 9223372036854775808 → smV neg L = -(val L : Int) ∧ smE neg L = 0) ∧ (neg = true → 9223372036854775808 < val L → smV neg L = 0 ∧ smE neg L = 2) ∧ (neg = false → val L < 9223372036854775808 → smV neg L = (val L : Int) ∧ smE neg L = 0) ∧ (neg = false → 9223372036854775808 ≤ val L → smV neg L = 0 ∧ smE neg L = 2) := by
    unfold smV smE
    rw [hr]
    refine ⟨?_, ?_, ?_, ?_⟩ <;> (rintro rfl hv; simp only [sval, fits64, if_true, Bool.true_and, Bool.false_eq_true, if_false])
    · rw [decide_eq_true (by omega)]; simp
    · rw [decide_eq_false (by omega)]; simp
    · rw [decide_eq_true (by omega)]; simp
    · rw [decide_eq_false (by omega)]; simp
  have HF := hide hF
  clear hF
  generalize smV neg L = r at *
  generalize smE neg L = e2 at *
  have HCK := hide hck
  clear hck hz hr
  go_enter Tryz.func163, Tryz.ntmps163
  go_wp2_with fail
  refine (unhide HCK).mono ?_
  rintro e w1 ⟨rfl, hb1⟩
  have x0 : Box2 w1 w.heap.size (.bool neg) (.slice ao L.length cap) := (Box2.new _ _ _).below hb1 (by simp)
  have p0 := x0.c0; have p1 := x0.c1
  have bel : Below w.heap.size w w1 := ((Below.refl _ _).alloc (Nat.le_refl _) _).trans (hb1.mono (by simp))
  clear x0 hb1 HCK
  go_wp2
  go_loop [5, 19] (fun s i => ∃ k : Nat, k ≤ L.length ∧ i = .int .i64 k ∧ s = .int .u64 ((val (L.take k) : Nat) : Int)) (fun _ i => L.length - (intOf i).toNat)
  case atStart => exact ⟨0, Nat.zero_le _, rfl, by simp [val]⟩
  case round =>
    obtain ⟨k, hk, rfl, rfl⟩ := hrel
    by_cases hlt : k < L.length
    · obtain ⟨b, off, hao, hb, hc⟩ := h.ne (by omega)
      have c1 := hc k hlt
      have d1 : w1.cell? ⟨b, off + k, none⟩ = some (.int .u32 ((L[k]?.getD 0 : Nat) : Int)) := by rw [bel.cell (p := ⟨b, off + k, none⟩) hb]; exact c1
      have hx := h.lt k
      have hv := val_take_lt L h.2.1 k
      have hvs := val_take_succ L k
      have HVS := hide hvs
      clear c1 hc hvs
      generalize L[k]?.getD 0 = x at *
      generalize hvk : val (L.take k) = v at *
      clear hvk h
      subst hao
      have hk1 : k ≤ 1 := by omega
      have hor := or_limb v x k hk1 hv hx
      have HOR := hide hor
      clear hor
      go_wp2
      go_round
      case rel => exact ⟨k + 1, by omega, by go_num, int_eq (by rw [unhide HOR, unhide HVS])⟩
      case measure => simp [intOf]; omega
    · have hkl : k = L.length := by omega
      rw [hkl, List.take_length]
      clear hkl hk hlt
      have hvl := val_lt L h.2.1
      have hv64 : val L < 18446744073709551616 := by
        refine Nat.lt_of_lt_of_le hvl ?_
        have := Nat.pow_le_pow_right (n := 4294967296) (by decide) hl
        simpa using this
      generalize val L = v at *
      clear hvl h
      cases neg
      · rcases Nat.lt_or_ge v 9223372036854775808 with hv | hv
        · have H := hide ((unhide HF).2.2.1 rfl hv)
          have hv' : (v : Int) < 9223372036854775808 := by omega
          clear HF hv hv64
          go_wp2
          go_ret2
          exact ⟨ret_int2 (unhide H).1.symm (unhide H).2.symm, bel⟩
        · have H := hide ((unhide HF).2.2.2 rfl hv)
          have hv' : ¬ (v : Int) < 9223372036854775808 := by omega
          clear HF
          go_wp2
          go_ret2
          exact ⟨ret_int2 (unhide H).1.symm (unhide H).2.symm, bel⟩
      · rcases Nat.lt_or_ge 9223372036854775808 v with hv | hv
        · have H := hide ((unhide HF).2.1 rfl hv)
          have hv' : ¬ (v : Int) ≤ 9223372036854775808 := by omega
          clear HF
          go_wp2
          go_ret2
          exact ⟨ret_int2 (unhide H).1.symm (unhide H).2.symm, bel⟩
        · have H := hide ((unhide HF).1 rfl hv)
          clear HF
          go_wp2
          go_ret2
          refine ⟨ret_int2 ?_ (unhide H).2.symm, bel⟩
          rw [(unhide H).1]
          exact wrap_back v hv

set_option maxHeartbeats 400000 in
theorem small_any (neg : Bool) (ao : Option Addr) (cap : Nat) (L : List Nat) (w : World) (h : LimbsAt w ao cap L) (hl : L.length ≤ 35184372088830) :
    Calls Tryz.prog 163 #[.agg #[.bool neg, .slice ao L.length cap]] w fun e w' => e = .returned (.tuple #[.int .i64 (smV neg L), .int .i64 (smE neg L)]) ∧ Below w.heap.size w w' := by
  cases hr : rightB neg L
  · have hck := check_any neg ao cap L (w.alloc (.cells #[.bool neg, .slice ao L.length cap] 107)) (h.below ((Below.refl _ _).alloc (Nat.le_refl _) _)) hl
    have hz : chkE neg L = 1 := by simp [chkE, hr]
    rw [hz] at hck
    have HCK := hide hck
    have H := hide (show smV neg L = 0 ∧ smE neg L = 1 by simp [smV, smE, hr])
    generalize smV neg L = r at *
    generalize smE neg L = e2 at *
    clear hck hz hr
    go_enter Tryz.func163, Tryz.ntmps163
    go_wp2_with fail
    refine (unhide HCK).mono ?_
    rintro e w1 ⟨rfl, hb1⟩
    go_wp2
    go_ret2
    exact ⟨ret_int2 (unhide H).1.symm (unhide H).2.symm, ((Below.refl _ _).alloc (Nat.le_refl _) _).trans (hb1.mono (by simp))⟩
  · by_cases h2 : L.length ≤ 2
    · exact small_right neg ao cap L w h hr h2
    · have hck := check_any neg ao cap L (w.alloc (.cells #[.bool neg, .slice ao L.length cap] 107)) (h.below ((Below.refl _ _).alloc (Nat.le_refl _) _)) hl
      have hz : chkE neg L = 0 := by simp [chkE, hr]
      rw [hz] at hck
      have HCK := hide hck
      have hbig : 18446744073709551616 ≤ val L := by
        rcases (right_canon hr).2.1 with e | e
        · rw [e] at h2; simp at h2
        · have h3 := val_ge L e
          have h4 := Nat.pow_le_pow_right (n := 4294967296) (by decide) (show 2 ≤ L.length - 1 by omega)
          simp at h4; omega
      have hf : fits64 (sval neg L) = false := by
        unfold fits64 sval
        rw [decide_eq_false_iff_not]
        cases neg <;> simp <;> omega
      have H := hide (show smV neg L = 0 ∧ smE neg L = 2 by simp [smV, smE, hr, hf])
      generalize smV neg L = r at *
      generalize smE neg L = e2 at *
      clear hck hz hr hbig hf
      go_enter Tryz.func163, Tryz.ntmps163
      go_wp2_with fail
      refine (unhide HCK).mono ?_
      rintro e w1 ⟨rfl, hb1⟩
      have x0 : Box2 w1 w.heap.size (.bool neg) (.slice ao L.length cap) := (Box2.new _ _ _).below hb1 (by simp)
      have p0 := x0.c0; have p1 := x0.c1
      have bel : Below w.heap.size w w1 := ((Below.refl _ _).alloc (Nat.le_refl _) _).trans (hb1.mono (by simp))
      clear x0 hb1 HCK
      go_wp2
      go_ret2
      exact ⟨ret_int2 (unhide H).1.symm (unhide H).2.symm, bel⟩

end Go.Proofs.YtfkndkaneffgdaaGreatDoor

/- Contracts of dyadic's small helpers. -/
namespace Go.Proofs.YtfkndkaneffgdaaGreatDoor
open Go.RowKit

/-- The library's table lies in its variable. -/
def Tab (w : World) : Prop := TabAt 1 Lib.deBruijn32tab w

theorem Tab.below {w w' : World} {B : Nat} (h : Tab w) (hb : Below B w w') (h0 : 1 < B) : Tab w' := fun j hj => by
  rw [hb.cell (p := ⟨1, j, none⟩) h0]
  exact h j hj

theorem Tab.pos {w : World} (h : Tab w) : 1 < w.heap.size := World.block_lt_of_cell? w _ (h 0 (by decide))

theorem Tab.all {w w' : World} (h : Tab w) (hb : Below w.heap.size w w') : Tab w' := h.below hb h.pos

set_option maxHeartbeats 1000000 in
theorem tz32_core (x k idx : Nat) (w : World) (hx0 : ((x : Int) == 0) = false)
    (key : bits BinOp.and IntKind.u32 (x : Int) (-(x : Int) % 4294967296) * 125613361 % 4294967296 / 134217728 = (idx : Int))
    (hi : idx < 32) (hk : k < 32) (hcell : w.cell? ⟨1, idx, none⟩ = some (.int .u8 k)) :
    Calls Tryz.prog 184 #[.int .u32 x] w fun e w' => e = .returned (.int .i64 k) ∧ w = w' := by
  go_enter Tryz.func184, Tryz.ntmps184
  go_wp2_with (simp only [key])
  go_ret
  exact ⟨rfl, rfl⟩

theorem tz32_any (x : Nat) (w : World) (hx : x < 4294967296) (hT : Tab w) :
    Calls Tryz.prog 184 #[.int .u32 x] w fun e w' => e = .returned (.int .i64 (Lib.ctz 32 x)) ∧ w = w' := by
  by_cases hx0 : x = 0
  · subst hx0
    go_enter Tryz.func184, Tryz.ntmps184
    go_wp2
    go_ret
    exact ⟨rfl, rfl⟩
  · obtain ⟨hlow, hk⟩ := Lib.lowest_bit 32 x hx0 hx
    obtain ⟨hi, htab⟩ := Lib.deBruijn32_at _ hk
    have hcell := hT _ hi
    rw [htab] at hcell
    exact tz32_core x _ _ w (by simp; omega) (tz32_key x _ hx hx0 hlow) hi hk hcell

set_option maxHeartbeats 400000 in
theorem within_any (n m : Int) (w : World) (hm : 0 ≤ m) (hm2 : m ≤ 100000) :
    Calls Tryz.prog 166 #[.int .i64 n, .int .i64 m] w fun e w' => e = .returned (.bool (decide (-m ≤ n ∧ n ≤ m))) ∧ w = w' := by
  have hw : IntKind.i64.wrap (-m) = -m := by
    simp only [IntKind.wrap, IntKind.signed, IntKind.bits]
    simp
    omega
  by_cases h1 : -m ≤ n
  · by_cases h2 : n ≤ m
    · go_enter Tryz.func166, Tryz.ntmps166
      go_wp2
      go_ret
      exact ⟨ret_bool (by simp [h1, h2]), rfl⟩
    · go_enter Tryz.func166, Tryz.ntmps166
      go_wp2
      go_ret
      exact ⟨ret_bool (by simp [h2]), rfl⟩
  · have h3 : ¬ (-m ≤ n ∧ n ≤ m) := fun h => h1 h.1
    have H3 := hide (decide_eq_false h3)
    rw [unhide H3]
    clear h3 H3
    go_enter Tryz.func166, Tryz.ntmps166
    go_wp2
    go_ret
    exact ⟨rfl, rfl⟩

set_option maxHeartbeats 400000 in
theorem isZero_any (neg : Bool) (ao : Option Addr) (cap : Nat) (n : Nat) (w : World) :
    Calls Tryz.prog 167 #[.agg #[.bool neg, .slice ao n cap]] w fun e w' => e = .returned (.bool (decide (n = 0))) ∧ Below w.heap.size w w' := by
  by_cases h0 : n = 0
  · subst h0
    go_enter Tryz.func167, Tryz.ntmps167
    go_wp2
    go_ret
    exact ⟨rfl, (Below.refl _ _).alloc (Nat.le_refl _) _⟩
  · have h1 : ((n : Int) == 0) = false := by simp; omega
    have H := hide (decide_eq_false h0)
    clear h0
    go_enter Tryz.func167, Tryz.ntmps167
    go_wp2
    go_ret
    exact ⟨ret_bool (unhide H).symm, (Below.refl _ _).alloc (Nat.le_refl _) _⟩

/-- How often 2 goes into a number; of 0: 0. -/
def lowZ (v : Nat) : Int := if v = 0 then 0 else (tz v : Int)

theorem lowZ_pos (v : Nat) (h : v ≠ 0) : lowZ v = tz v := by unfold lowZ; rw [if_neg h]

set_option maxHeartbeats 400000 in
theorem lowZeros_any (neg : Bool) (ao : Option Addr) (cap : Nat) (L : List Nat) (w : World) (h : LimbsAt w ao cap L) (hl : L.length ≤ 1073741824) (hT : Tab w) :
    Calls Tryz.prog 165 #[.agg #[.bool neg, .slice ao L.length cap]] w fun e w' => e = .returned (.int .i64 (lowZ (val L))) ∧ Below w.heap.size w w' := by
  by_cases hne : L = []
  · subst hne
    go_enter Tryz.func165, Tryz.ntmps165
    go_wp2
    refine wp_loop_rounds 1 ?_
    rw [rounds_succ]
    go_wp2
    go_ret
    exact ⟨rfl, (Below.refl _ _).alloc (Nat.le_refl _) _⟩
  obtain ⟨b, off, rfl, hb, hc⟩ := h.ne (List.length_pos_iff.2 hne)
  have hcap := h.1
  have hb0 : Below w.heap.size w (w.alloc (.cells #[.bool neg, .slice (some ⟨b, off, none⟩) L.length cap] 107)) := (Below.refl _ _).alloc (Nat.le_refl _) _
  have hc' : ∀ i, i < L.length → (w.alloc (.cells #[.bool neg, .slice (some ⟨b, off, none⟩) L.length cap] 107)).cell? ⟨b, off + i, none⟩ = some (.int .u32 ((L[i]?.getD 0 : Nat) : Int)) := fun i hi => by
    rw [hb0.cell (p := ⟨b, off + i, none⟩) hb]; exact hc i hi
  have hT' := hT.all hb0
  have HR := hide (fun k x => tz_limbs L k x)
  have HZ := hide (fun h : val L = 0 => (show lowZ (val L) = 0 by rw [h]; rfl))
  have HP := hide (fun h => lowZ_pos (val L) h)
  have HF := hide (fun i => h.lt i)
  have HV := hide (fun k (hk : L.length ≤ k) => val_take_all L k hk)
  have HS := hide (fun k => val_take_succ L k)
  have HB0 := hide hb0
  clear hT hc h hb hne hb0
  generalize lowZ (val L) = z at *
  go_enter Tryz.func165, Tryz.ntmps165
  go_wp2
  go_loop [3, 9] (fun c i => ∃ k : Nat, k ≤ L.length ∧ i = .int .i64 k ∧ c = .int .i64 (32 * (k : Int)) ∧ Hid (val (L.take k) = 0)) (fun _ i => L.length - (intOf i).toNat)
  case atStart => exact ⟨0, Nat.zero_le _, rfl, rfl, by unfold Hid; simp [val]⟩
  case round =>
    obtain ⟨k, hk, rfl, rfl, hv⟩ := hrel
    by_cases hlt : k < L.length
    · have hc1 := hc' k hlt
      clear hc'
      have hx := unhide HF k
      have HS1 := hide (unhide HS k)
      have HR1 := hide (fun h0 => unhide HR k _ hv.out rfl h0 hx)
      clear HR HZ HS HF HV
      generalize L[k]?.getD 0 = x at *
      have TZ := hide (tz32_any x _ hx hT')
      have hx32 : (Lib.ctz 32 x : Int) ≤ 32 ∧ (0 : Int) ≤ Lib.ctz 32 x := by
        by_cases h0 : x = 0
        · subst h0; decide
        · have := (Lib.lowest_bit 32 x h0 (by omega)).2
          omega
      have HTC := hide (fun h0 => tz_ctz x h0 hx)
      have e0 : x = 0 → Lib.ctz 32 x = 32 := fun h => by subst h; rfl
      generalize Lib.ctz 32 x = c at *
      obtain ⟨c1, c2⟩ := hx32
      by_cases hx0 : x = 0
      · have ec := e0 hx0
        subst hx0; subst ec
        have HN : Hid (val (L.take (k + 1)) = 0) := by unfold Hid; rw [unhide HS1, hv.out]; simp
        clear HR1 HS1 hv HTC e0 HP
        go_wp2_with (go_at_call 184; refine (unhide TZ).mono ?_; rintro e w' ⟨rfl, rfl⟩)
        go_round
        case rel => exact ⟨k + 1, by omega, by go_num, int_eq (by omega), HN⟩
        case measure => simp [intOf]; omega
      · have hr := unhide HR1 hx0
        have HE := hide (show z = 32 * (k : Int) + (c : Int) by rw [unhide HP hr.1, hr.2, unhide HTC hx0]; omega)
        have hx1 : ((x : Int) != 0) = true := by rw [bne_iff_ne]; omega
        clear HR1 HS1 hv HTC e0 HP hr
        go_wp2_with (go_at_call 184; refine (unhide TZ).mono ?_; rintro e w' ⟨rfl, rfl⟩)
        go_ret
        exact ⟨ret_int (unhide HE).symm, unhide HB0⟩
    · have hz := unhide HZ (by rw [← unhide HV k (by omega)]; exact hv.out)
      subst hz
      clear HR HZ HP HF HV HS hv hc'
      go_wp2
      go_ret
      exact ⟨rfl, unhide HB0⟩

end Go.Proofs.YtfkndkaneffgdaaGreatDoor

/- Dyadic numbers: their struct, when one is right; contract of Check. -/
namespace Go.Proofs.YtfkndkaneffgdaaGreatDoor
open Go.RowKit

/-- Block b is a box of three cells. -/
def Box3 (w : World) (b : Nat) (x y z : Value) : Prop := w.heap[b]? = some (.cells #[x, y, z] 109 (0, 0))
theorem Box3.c0 {w : World} {b : Nat} {x y z : Value} (h : Box3 w b x y z) : w.cell? ⟨b, 0, none⟩ = some x := by rw [cell_of_row w b 0 _ _ _ h]; rfl
theorem Box3.c1 {w : World} {b : Nat} {x y z : Value} (h : Box3 w b x y z) : w.cell? ⟨b, 1, none⟩ = some y := by rw [cell_of_row w b 1 _ _ _ h]; rfl
theorem Box3.c2 {w : World} {b : Nat} {x y z : Value} (h : Box3 w b x y z) : w.cell? ⟨b, 2, none⟩ = some z := by rw [cell_of_row w b 2 _ _ _ h]; rfl
theorem Box3.free {w : World} {b : Nat} {x y z : Value} (h : Box3 w b x y z) (j : Nat) : w.frozen? ⟨b, j, none⟩ = false := frozen_of_row w b j _ _ h
theorem Box3.lt {w : World} {b : Nat} {x y z : Value} (h : Box3 w b x y z) : b < w.heap.size := (Array.getElem?_eq_some_iff.1 h).1
theorem Box3.below {w w' : World} {b : Nat} {x y z : Value} (h : Box3 w b x y z) {B : Nat} (hb : Below B w w') (hlt : b < B) : Box3 w' b x y z := (hb.block b hlt).trans h
theorem Box3.new (w : World) (x y z : Value) : Box3 (w.alloc (.cells #[x, y, z] 109)) w.heap.size x y z := heap_alloc_new w _
theorem Box3.old {w : World} {b : Nat} {x y z : Value} (h : Box3 w b x y z) (o : Obj) : Box3 (w.alloc o) b x y z := by
  unfold Box3; rw [Below.heap_alloc w o b h.lt]; exact h
theorem Box3.all {w w' : World} {b : Nat} {x y z : Value} (h : Box3 w b x y z) (hb : Below w.heap.size w w') : Box3 w' b x y z := h.below hb h.lt
theorem Box2.all {w w' : World} {b : Nat} {x y : Value} (h : Box2 w b x y) (hb : Below w.heap.size w w') : Box2 w' b x y := h.below hb h.lt
theorem Box3.drew {w : World} {b : Nat} {x y z : Value} (h : Box3 w b x y z) : Box3 w.drew b x y z := h

theorem Box3.other {w : World} {b : Nat} {x y z : Value} (h : Box3 w b x y z) {p : Addr} (hp : b ≠ p.block) (u : Value) : Box3 (w.setCell p u) b x y z := (Below.heap_setCell w p u b hp).trans h
theorem Box3.put {w : World} {b : Nat} {x y z : Value} (h : Box3 w b x y z) (u u' u'' : Value) : Box3 (((w.setCell ⟨b, 0, none⟩ u).setCell ⟨b, 1, none⟩ u').setCell ⟨b, 2, none⟩ u'') b u u' u'' := by
  have h1 := heap_setCell_same w b 0 _ _ u h
  have h2 := heap_setCell_same (w.setCell ⟨b, 0, none⟩ u) b 1 _ _ u' h1
  have h3 := heap_setCell_same ((w.setCell ⟨b, 0, none⟩ u).setCell ⟨b, 1, none⟩ u') b 2 _ _ u'' h2
  unfold Box3
  rw [h3]
  simp

theorem below_put3 {w w' : World} {B b : Nat} (h : Below B w w') (hb : B ≤ b) (u u' u'' : Value) : Below B w (((w'.setCell ⟨b, 0, none⟩ u).setCell ⟨b, 1, none⟩ u').setCell ⟨b, 2, none⟩ u'') :=
  ((h.setCell hb _).setCell hb _).setCell hb _

theorem LimbsAt.box3 {w : World} {ao : Option Addr} {cap g : Nat} {L : List Nat} (h : LimbsAt w ao cap L) {x : Bool} {a : Option Addr} {n c : Nat} {e : Int} (hx : Box3 w g (.bool x) (.slice a n c) (.int .i64 e)) (u u' u'' : Value) :
    LimbsAt (((w.setCell ⟨g, 0, none⟩ u).setCell ⟨g, 1, none⟩ u').setCell ⟨g, 2, none⟩ u'') ao cap L := by
  refine ⟨h.1, h.2.1, ?_⟩
  rcases h.2.2 with h0 | ⟨b, off, h1, h2, h3⟩
  · exact .inl h0
  · by_cases he : L = []
    · exact .inl he
    · have hp : 0 < L.length := List.length_pos_iff.2 he
      have hne : b ≠ g := by
        rintro rfl
        have h4 := h3 0 hp
        rw [cell_of_row w b (off + 0) _ _ _ hx] at h4
        rcases (show off = 0 ∨ off = 1 ∨ off = 2 ∨ 3 ≤ off by omega) with e | e | e | e
        · subst e; simp at h4
        · subst e; simp at h4
        · subst e; simp at h4
        · rw [Array.getElem?_eq_none (by simp; omega)] at h4; simp at h4
      refine .inr ⟨b, off, h1, by simpa [World.setCell] using h2, fun i hi => ?_⟩
      rw [cell_setCell_other _ _ _ _ (by simpa using hne), cell_setCell_other _ _ _ _ (by simpa using hne), cell_setCell_other _ _ _ _ (by simpa using hne)]
      exact h3 i hi

/-- Is a dyadic number right? -/
def drB (neg : Bool) (L : List Nat) (e : Int) : Bool := rightB neg L && (if L.length = 0 then decide (e = 0) else (decide (val L % 2 = 1) && decide (-16384 ≤ e ∧ e ≤ 16384)))
def drE (neg : Bool) (L : List Nat) (e : Int) : Int := if drB neg L e then 0 else 1

theorem lowZ_odd (v : Nat) (h : v ≠ 0) : 0 < lowZ v ↔ v % 2 = 0 := by
  rw [lowZ_pos v h]
  obtain ⟨m, hm⟩ := tz_spec v (by omega)
  constructor
  · intro h1
    obtain ⟨k, hk⟩ : ∃ k, tz v = k + 1 := ⟨tz v - 1, by omega⟩
    rw [hk, Nat.pow_succ, Nat.mul_assoc, Nat.mul_left_comm] at hm
    omega
  · intro h1
    rcases Nat.eq_zero_or_pos (tz v) with e | e
    · rw [e] at hm; simp at hm; omega
    · omega

theorem lowZ_le (v : Nat) (h : v < TOP) : 0 ≤ lowZ v ∧ lowZ v < 16384 := by
  by_cases h0 : v = 0
  · subst h0; decide
  · rw [lowZ_pos v h0]
    have e : TOP = 2 ^ (32 * TOPN) := by
      unfold TOP
      rw [show (4294967296 : Nat) = 2 ^ 32 by decide, ← Nat.pow_mul]
    rw [e] at h
    have := tz_lt v (32 * TOPN) (by omega) h
    have e2 : 32 * TOPN = 16384 := rfl
    omega

set_option maxHeartbeats 1000000 in
theorem dcheck_any (neg : Bool) (ao : Option Addr) (cap : Nat) (L : List Nat) (e : Int) (w : World) (h : LimbsAt w ao cap L) (hl : L.length ≤ 35184372088830) (hT : Tab w) :
    Calls Tryz.prog 169 #[.agg #[.bool neg, .slice ao L.length cap, .int .i64 e]] w fun r w' => r = .returned (.int .i64 (drE neg L e)) ∧ Below w.heap.size w w' := by
  have HC := hide (fun w' h' => check_any neg ao cap L w' h' hl)
  have H1 := hide (show rightB neg L = false → drE neg L e = 1 from fun h => by simp [drE, drB, h])
  have H2 := hide (show ¬ (-16384 ≤ e ∧ e ≤ 16384) → drE neg L e = 1 from fun h => by
    unfold drE drB
    by_cases h0 : L.length = 0
    · rw [if_pos h0, decide_eq_false (show ¬ e = 0 by omega)]; simp
    · rw [if_neg h0, decide_eq_false h]; simp)
  have H3 := hide (show L.length = 0 → e ≠ 0 → drE neg L e = 1 from fun h0 h => by
    unfold drE drB
    rw [if_pos h0, decide_eq_false h]; simp)
  have H4 := hide (show rightB neg L = true → L.length = 0 → e = 0 → drE neg L e = 0 ∧ lowZ (val L) = 0 from fun h h0 h' => by
    unfold drE drB
    rw [if_pos h0, decide_eq_true h', h]
    have : L = [] := List.length_eq_zero_iff.1 h0
    subst this
    exact ⟨by simp, rfl⟩)
  have H5 := hide (show rightB neg L = true → L.length ≠ 0 → (-16384 ≤ e ∧ e ≤ 16384) → drE neg L e = if 0 < lowZ (val L) then 1 else 0 from fun h h0 h' => by
    have hv : val L ≠ 0 := fun e => h0 (by rw [(val_zero_of_canon L (right_canon h).2.1).1 e]; rfl)
    unfold drE drB
    rw [if_neg h0, decide_eq_true h', h]
    have := lowZ_odd _ hv
    by_cases h1 : val L % 2 = 1
    · rw [decide_eq_true h1, if_neg (show ¬ 0 < lowZ (val L) by omega)]; simp
    · rw [decide_eq_false h1, if_pos (show 0 < lowZ (val L) by omega)]; simp)
  have HL := hide (show rightB neg L = true → L.length ≤ 512 from fun h => (right_canon h).1)
  have HE := hide (show chkE neg L = if rightB neg L then 0 else 1 from rfl)
  have HZ := hide (fun w' h' h'' t => lowZeros_any neg ao cap L w' h' h'' t)
  generalize drE neg L e = er at *
  generalize chkE neg L = ce at *
  generalize lowZ (val L) = lz at *
  generalize rightB neg L = rb at *
  have hb0 : Below w.heap.size w (w.alloc (.cells #[.bool neg, .slice ao L.length cap, .int .i64 e] 109)) := (Below.refl _ _).alloc (Nat.le_refl _) _
  have x0 := Box3.new w (.bool neg) (.slice ao L.length cap) (.int .i64 e)
  go_enter Tryz.func169, Tryz.ntmps169
  go_wp2_with fail
  refine (unhide HC _ (h.below hb0)).mono ?_
  rintro r w1 ⟨rfl, hb1⟩
  replace x0 := x0.all hb1
  have b1 := hb0.trans (hb1.mono hb0.size)
  rw [unhide HE]
  clear hb1 HE HC hb0
  have p0 := x0.c0; have p1 := x0.c1; have p2 := x0.c2
  cases rb
  · have hr := unhide H1 rfl
    subst hr
    simp only [Bool.false_eq_true, if_false]
    clear H1 H2 H3 H4 H5 HL HZ x0
    go_wp2
    go_ret
    exact ⟨rfl, b1⟩
  have HL' := unhide HL rfl
  have H4' := hide (unhide H4 rfl)
  have H5' := hide (unhide H5 rfl)
  clear HL H4 H5 H1
  simp only [if_true]
  go_wp2_with fail
  refine (within_any e 16384 _ (by decide) (by decide)).mono ?_
  rintro r w2 ⟨rfl, rfl⟩
  by_cases hin : -16384 ≤ e ∧ e ≤ 16384
  case neg =>
    have hr := unhide H2 hin
    subst hr
    rw [decide_eq_false hin]
    clear H2 H3 H4' H5' HL' HZ x0 hin
    go_wp2
    go_ret
    exact ⟨rfl, b1⟩
  rw [decide_eq_true hin]
  go_wp2_with fail
  refine (isZero_any neg ao cap L.length _).mono ?_
  rintro r w3 ⟨rfl, hb1⟩
  replace x0 := x0.all hb1
  replace b1 := b1.trans (hb1.mono b1.size)
  clear hb1 p0 p1 p2
  have p0 := x0.c0; have p1 := x0.c1; have p2 := x0.c2
  by_cases h0 : L.length = 0
  · rw [decide_eq_true h0]
    by_cases he : e = 0
    · obtain ⟨hr, hz⟩ := unhide H4' h0 he
      subst hr
      subst hz
      subst he
      clear H2 H3 H4' H5' x0 hin h0
      go_wp2_with fail
      refine (unhide HZ _ (h.below b1) (by omega) (hT.all b1)).mono ?_
      rintro r w4 ⟨rfl, hb1⟩
      go_wp2
      go_ret
      exact ⟨rfl, b1.trans (hb1.mono b1.size)⟩
    · have hr := unhide H3 h0 he
      subst hr
      have he1 : (e != 0) = true := by simpa using he
      clear H2 H3 H4' H5' x0 hin HZ
      go_wp2
      go_ret
      exact ⟨rfl, b1⟩
  · have hr := unhide H5' h0 hin
    rw [decide_eq_false h0]
    by_cases hz : 0 < lz
    · rw [if_pos hz] at hr
      subst hr
      clear H2 H3 H4' H5' x0 hin h0
      go_wp2_with fail
      refine (unhide HZ _ (h.below b1) (by omega) (hT.all b1)).mono ?_
      rintro r w4 ⟨rfl, hb1⟩
      go_wp2
      go_ret
      exact ⟨rfl, b1.trans (hb1.mono b1.size)⟩
    · rw [if_neg hz] at hr
      subst hr
      clear H2 H3 H4' H5' x0 hin h0
      go_wp2_with fail
      refine (unhide HZ _ (h.below b1) (by omega) (hT.all b1)).mono ?_
      rintro r w4 ⟨rfl, hb1⟩
      go_wp2
      go_ret
      exact ⟨rfl, b1.trans (hb1.mono b1.size)⟩

end Go.Proofs.YtfkndkaneffgdaaGreatDoor

