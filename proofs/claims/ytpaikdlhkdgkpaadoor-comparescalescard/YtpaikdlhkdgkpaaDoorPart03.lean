/- Part 3 of the texts. -/
import Derived.Test.YtpaikdlhkdgkpaaDoorPart02
import Ieee.Arith
import Derived.Test.YtpaikdlhkdgkpaaDoorPart01
import Derived.Laws.Bits64b
import Derived.Laws.Bits64
import Derived.Laws.StructEq
import Derived.Deep.RegionHeld3
/- The rung of a number v times 2 to the E, rounded to binary64; its flags; what a rung is worth. -/
namespace Go.Proofs.YtpaikdlhkdgkpaaDoor

/-- The power of the last digit that is kept. -/
def lastE (v : Nat) (E : Int) : Int := max ((bl v : Int) + E - 53) (-1074)
def rndM (v : Nat) (E : Int) : Nat := mS v (E - lastE v E)
def rnd (v : Nat) (E : Int) : Nat := if v = 0 then 0 else if 1024 < (bl v : Int) + E then 9218868437227405312 else rndM v E + (lastE v E + 1074).toNat * 4503599627370496
def rflag (v : Nat) (E : Int) : Int := if v = 0 then 0 else if 1024 < (bl v : Int) + E then 5 else if lastE v E ≤ E then 0 else if rnd v E = 9218868437227405312 then 5 else if rnd v E < 4503599627370496 then 3 else 1

theorem lastE_ge (v : Nat) (E : Int) : -1074 ≤ lastE v E ∧ (bl v : Int) + E - 53 ≤ lastE v E ∧ (lastE v E = -1074 ∨ lastE v E = (bl v : Int) + E - 53) := by
  unfold lastE; omega

theorem p53 : (2 : Nat) ^ 53 = 9007199254740992 := by decide
theorem p52 : (2 : Nat) ^ 52 = 4503599627370496 := by decide

theorem rndM_bounds (v : Nat) (E : Int) (h : v ≠ 0) : rndM v E ≤ 9007199254740992 ∧ (-1074 < lastE v E → 4503599627370496 ≤ rndM v E) ∧ (lastE v E ≤ E → rndM v E < 9007199254740992) := by
  obtain ⟨l1, l2, l3⟩ := lastE_ge v E
  obtain ⟨a1, a2, a3⟩ := bl_spec v h
  unfold rndM
  generalize lastE v E = l at *
  rcases Int.le_total l E with hle | hle
  · obtain ⟨k, hk⟩ := Int.eq_ofNat_of_zero_le (show 0 ≤ E - l by omega)
    rw [hk, mS_up]
    have hp : 0 < 2 ^ k := Nat.two_pow_pos _
    have hu : v * 2 ^ k < 2 ^ 53 := by
      have h1 : v * 2 ^ k < 2 ^ bl v * 2 ^ k := Nat.mul_lt_mul_of_pos_right a3 hp
      rw [← Nat.pow_add] at h1
      exact Nat.lt_of_lt_of_le h1 (pow_le2 (by omega))
    rw [p53] at hu
    refine ⟨by omega, fun hl => ?_, fun _ => hu⟩
    have h1 : 2 ^ (bl v - 1) * 2 ^ k ≤ v * 2 ^ k := Nat.mul_le_mul_right _ a2
    rw [← Nat.pow_add, show bl v - 1 + k = 52 by omega, p52] at h1
    exact h1
  · obtain ⟨k, hk⟩ := Int.eq_ofNat_of_zero_le (show 0 ≤ l - E by omega)
    by_cases hk0 : k = 0
    · subst hk0
      rw [show E - l = ((0 : Nat) : Int) by omega, mS_up]
      have hu : v < 2 ^ 53 := Nat.lt_of_lt_of_le a3 (pow_le2 (by omega))
      rw [p53] at hu
      refine ⟨by omega, fun hl => ?_, fun _ => by omega⟩
      rw [show bl v - 1 = 52 by omega, p52] at a2
      omega
    · rw [show E - l = -(k : Int) by omega, mS_down _ _ (by omega)]
      refine ⟨?_, fun hl => ?_, fun hl => by omega⟩
      · rw [← p53]
        refine cutE_upto ?_
        rw [← Nat.pow_add]
        exact Nat.le_trans (Nat.le_of_lt a3) (pow_le2 (by omega))
      · rw [← p52]
        refine cutE_ge ?_
        rw [← Nat.pow_add, show 52 + k = bl v - 1 by omega]
        exact a2

theorem rnd_fin (v : Nat) (E : Int) (h : v ≠ 0) (ht : (bl v : Int) + E ≤ 1024) : rnd v E = rndM v E + (lastE v E + 1074).toNat * 4503599627370496 := by
  unfold rnd; rw [if_neg h, if_neg (by omega)]

theorem rnd_le (v : Nat) (E : Int) : rnd v E ≤ 9218868437227405312 := by
  by_cases h : v = 0
  · subst h; simp [rnd]
  · by_cases ht : 1024 < (bl v : Int) + E
    · unfold rnd; rw [if_neg h, if_pos ht]; exact Nat.le_refl _
    · rw [rnd_fin v E h (by omega)]
      obtain ⟨l1, l2, l3⟩ := lastE_ge v E
      have := (rndM_bounds v E h).1
      omega

theorem rnd_exact_lt (v : Nat) (E : Int) (h : v ≠ 0) (ht : (bl v : Int) + E ≤ 1024) (he : lastE v E ≤ E) : rnd v E < 9218868437227405312 := by
  rw [rnd_fin v E h ht]
  obtain ⟨l1, l2, l3⟩ := lastE_ge v E
  have := (rndM_bounds v E h).2.2 he
  omega

theorem rnd_scale (v i : Nat) (E : Int) : rnd (v * 2 ^ i) E = rnd v (E + i) := by
  by_cases h : v = 0
  · subst h; simp [rnd]
  · have hp : 0 < 2 ^ i := Nat.two_pow_pos _
    have h' : v * 2 ^ i ≠ 0 := Nat.mul_ne_zero h (by omega)
    have hb := bl_scale v i h
    have hl : lastE (v * 2 ^ i) E = lastE v (E + i) := by unfold lastE; rw [hb]; congr 1; omega
    unfold rnd rndM
    rw [if_neg h, if_neg h', hl, hb, mS_scale, show E - lastE v (E + i) + i = E + i - lastE v (E + i) by omega, show ((bl v + i : Nat) : Int) + E = (bl v : Int) + (E + i) by omega]

theorem rnd_mono {v u : Nat} (E : Int) (h : v ≤ u) : rnd v E ≤ rnd u E := by
  by_cases h0 : v = 0
  · subst h0; simp [rnd]
  · have hb := bl_mono h
    by_cases ht : 1024 < (bl u : Int) + E
    · have : rnd u E = 9218868437227405312 := by unfold rnd; rw [if_neg (by omega), if_pos ht]
      rw [this]; exact rnd_le v E
    · rw [rnd_fin v E h0 (by omega), rnd_fin u E (by omega) (by omega)]
      obtain ⟨l1, l2, l3⟩ := lastE_ge v E
      obtain ⟨k1, k2, k3⟩ := lastE_ge u E
      by_cases hl : lastE v E = lastE u E
      · have : rndM v E ≤ rndM u E := by unfold rndM; rw [hl]; exact mS_mono _ h
        rw [hl]; omega
      · have hlt : lastE v E < lastE u E := by omega
        have := (rndM_bounds v E h0).1
        have := (rndM_bounds u E (by omega)).2.1 (by omega)
        omega

/-- What a rung is worth, in units of the least number. -/
def rv (r : Nat) : Nat := if r < 4503599627370496 then r else (4503599627370496 + r % 4503599627370496) * 2 ^ (r / 4503599627370496 - 1)

theorem rv_of (m k : Nat) (h1 : m ≤ 9007199254740992) (h2 : k ≠ 0 → 4503599627370496 ≤ m) : rv (m + k * 4503599627370496) = m * 2 ^ k := by
  unfold rv
  by_cases h : m + k * 4503599627370496 < 4503599627370496
  · rw [if_pos h]
    obtain rfl : k = 0 := by omega
    simp
  · rw [if_neg h]
    by_cases h3 : m < 9007199254740992
    · have hm : 4503599627370496 ≤ m := by
        by_cases hk : k = 0
        · omega
        · exact h2 hk
      rw [show (m + k * 4503599627370496) / 4503599627370496 = k + 1 by omega, show (m + k * 4503599627370496) % 4503599627370496 = m - 4503599627370496 by omega, show 4503599627370496 + (m - 4503599627370496) = m by omega]
      rfl
    · obtain rfl : m = 9007199254740992 := by omega
      rw [show (9007199254740992 + k * 4503599627370496) / 4503599627370496 = k + 2 by omega, show (9007199254740992 + k * 4503599627370496) % 4503599627370496 = 0 by omega, show k + 2 - 1 = k + 1 by omega, Nat.pow_succ]
      omega

theorem rv_succ (r : Nat) : rv r < rv (r + 1) := by
  by_cases h : r < 4503599627370496
  · have e1 := rv_of r 0 (by omega) (by simp)
    have e2 := rv_of (r + 1) 0 (by omega) (by simp)
    simp at e1 e2
    rw [e1, e2]; omega
  · obtain ⟨k, hk⟩ : ∃ k, r / 4503599627370496 = k + 1 := ⟨r / 4503599627370496 - 1, by omega⟩
    have hr : r = (4503599627370496 + r % 4503599627370496) + k * 4503599627370496 := by omega
    generalize hm : 4503599627370496 + r % 4503599627370496 = m at *
    have hm1 : m < 9007199254740992 := by omega
    have e1 := rv_of m k (by omega) (fun _ => by omega)
    have e2 := rv_of (m + 1) k (by omega) (fun _ => by omega)
    rw [← hr] at e1
    rw [show m + 1 + k * 4503599627370496 = r + 1 by omega] at e2
    rw [e1, e2]
    exact Nat.mul_lt_mul_of_pos_right (by omega) (Nat.two_pow_pos _)

theorem rv_mono {r s : Nat} (h : r ≤ s) : rv r ≤ rv s := by
  obtain ⟨d, rfl⟩ := Nat.exists_eq_add_of_le h
  induction d with
  | zero => exact Nat.le_refl _
  | succ d ih => exact Nat.le_trans (ih (by omega)) (Nat.le_of_lt (rv_succ (r + d)))

theorem rv_zero : rv 0 = 0 := by decide

end Go.Proofs.YtpaikdlhkdgkpaaDoor

/- The fields of bits; contracts of soft's split, Sign, Minus; of the reference's Neg, Power, Frac, Minus. -/
namespace Go.Proofs.YtpaikdlhkdgkpaaDoor
open Go.RowKit

def fS (b : Nat) : Bool := decide (9223372036854775808 ≤ b)
def fP (b : Nat) : Nat := b % 9223372036854775808 / 4503599627370496
def fF (b : Nat) : Nat := b % 4503599627370496
/-- The number with the other sign. -/
def fN (b : Nat) : Nat := if 9223372036854775808 ≤ b then b - 9223372036854775808 else b + 9223372036854775808
def fK (b : Nat) : Int := if fP b = 2047 then (if fF b = 0 then 3 else 4) else if fP b = 0 then (if fF b = 0 then 0 else 1) else 2

theorem and_top (b : Nat) (h : b < 18446744073709551616) : bits .and .u64 (b : Int) 9223372036854775808 = if fS b then 9223372036854775808 else 0 := by
  have h1 := bits_and_u64_nat b 9223372036854775808 h (by decide)
  refine h1.trans ?_
  have h2 : (b &&& 2 ^ 63) % 2 ^ 63 = 0 := by rw [Nat.and_mod_two_pow]; simp
  have h3 : (b &&& 2 ^ 63) / 2 ^ 63 = (b / 2 ^ 63) &&& 1 := by rw [Nat.and_div_two_pow]
  rw [show (9223372036854775808 : Nat) = 2 ^ 63 by decide]
  have h4 := Nat.div_add_mod (b &&& 2 ^ 63) (2 ^ 63)
  rw [h2, h3] at h4
  unfold fS
  by_cases hb : 9223372036854775808 ≤ b
  · rw [decide_eq_true hb, if_pos rfl]
    rw [show b / 2 ^ 63 = 1 by omega] at h4
    simp only [Nat.and_self] at h4
    omega
  · rw [decide_eq_false hb, if_neg (by simp)]
    rw [show b / 2 ^ 63 = 0 by omega] at h4
    simp only [Nat.zero_and] at h4
    omega

theorem and_low (b : Nat) (h : b < 18446744073709551616) : bits .and .u64 (b : Int) 4503599627370495 = (fF b : Int) := by
  have h1 := bits_and_u64_nat b 4503599627370495 h (by decide)
  refine h1.trans ?_
  have h2 : b &&& 2 ^ 52 - 1 = b % 2 ^ 52 := Nat.and_two_pow_sub_one_eq_mod b 52
  rw [show (4503599627370495 : Nat) = 2 ^ 52 - 1 by decide, h2]
  rfl

theorem and_mid (b : Nat) (h : b < 18446744073709551616) : bits .and .u64 ((b : Int) / 4503599627370496) 2047 = (fP b : Int) := by
  have h1 := bits_and_u64_nat (b / 4503599627370496) 2047 (by omega) (by decide)
  refine h1.trans ?_
  have h2 : (b / 4503599627370496) &&& 2 ^ 11 - 1 = (b / 4503599627370496) % 2 ^ 11 := Nat.and_two_pow_sub_one_eq_mod _ 11
  rw [show (2047 : Nat) = 2 ^ 11 - 1 by decide, h2]
  unfold fP
  omega

theorem xor_top (b : Nat) (h : b < 18446744073709551616) : bits .xor .u64 (b : Int) 9223372036854775808 = (fN b : Int) := by
  have h1 := bits_xor_u64_nat b 9223372036854775808 h (by decide)
  refine h1.trans ?_
  have h2 : (b ^^^ 2 ^ 63) % 2 ^ 63 = b % 2 ^ 63 := by rw [Nat.xor_mod_two_pow]; simp
  have h3 : (b ^^^ 2 ^ 63) / 2 ^ 63 = (b / 2 ^ 63) ^^^ 1 := by rw [Nat.xor_div_two_pow]
  rw [show (9223372036854775808 : Nat) = 2 ^ 63 by decide]
  unfold fN
  have h4 := Nat.div_add_mod (b ^^^ 2 ^ 63) (2 ^ 63)
  rw [h2, h3] at h4
  by_cases hb : 9223372036854775808 ≤ b
  · rw [if_pos hb]
    rw [show b / 2 ^ 63 = 1 by omega] at h4
    simp only [Nat.xor_self] at h4
    omega
  · rw [if_neg hb]
    rw [show b / 2 ^ 63 = 0 by omega] at h4
    simp only [Nat.zero_xor] at h4
    omega

theorem fP_lt (b : Nat) : fP b < 2048 := by unfold fP; omega
theorem fF_lt (b : Nat) : fF b < 4503599627370496 := by unfold fF; omega
theorem fN_lt (b : Nat) (h : b < 18446744073709551616) : fN b < 18446744073709551616 := by unfold fN; split <;> omega

/-- Block b is a box of three cells, of fields. -/
def BoxF (w : World) (b : Nat) (x y z : Value) : Prop := w.heap[b]? = some (.cells #[x, y, z] 79 (0, 0))
theorem BoxF.c0 {w : World} {b : Nat} {x y z : Value} (h : BoxF w b x y z) : w.cell? ⟨b, 0, none⟩ = some x := by rw [cell_of_row w b 0 _ _ _ h]; rfl
theorem BoxF.c1 {w : World} {b : Nat} {x y z : Value} (h : BoxF w b x y z) : w.cell? ⟨b, 1, none⟩ = some y := by rw [cell_of_row w b 1 _ _ _ h]; rfl
theorem BoxF.c2 {w : World} {b : Nat} {x y z : Value} (h : BoxF w b x y z) : w.cell? ⟨b, 2, none⟩ = some z := by rw [cell_of_row w b 2 _ _ _ h]; rfl
theorem BoxF.free {w : World} {b : Nat} {x y z : Value} (h : BoxF w b x y z) (j : Nat) : w.frozen? ⟨b, j, none⟩ = false := frozen_of_row w b j _ _ h
theorem BoxF.lt {w : World} {b : Nat} {x y z : Value} (h : BoxF w b x y z) : b < w.heap.size := (Array.getElem?_eq_some_iff.1 h).1
theorem BoxF.below {w w' : World} {b : Nat} {x y z : Value} (h : BoxF w b x y z) {B : Nat} (hb : Below B w w') (hlt : b < B) : BoxF w' b x y z := (hb.block b hlt).trans h
theorem BoxF.new (w : World) (x y z : Value) : BoxF (w.alloc (.cells #[x, y, z] 79)) w.heap.size x y z := heap_alloc_new w _
theorem BoxF.all {w w' : World} {b : Nat} {x y z : Value} (h : BoxF w b x y z) (hb : Below w.heap.size w w') : BoxF w' b x y z := h.below hb h.lt

theorem below_putF {w w' : World} {B b : Nat} (h : Below B w w') (hb : B ≤ b) (u u' u'' : Value) : Below B w (((w'.setCell ⟨b, 0, none⟩ u).setCell ⟨b, 1, none⟩ u').setCell ⟨b, 2, none⟩ u'') :=
  ((h.setCell (p := ⟨b, 0, none⟩) hb u).setCell (p := ⟨b, 1, none⟩) hb u').setCell (p := ⟨b, 2, none⟩) hb u''

/-- What split tells. -/
def fV (b : Nat) : Value := .agg #[.bool (fS b), .int .u64 (fP b), .int .u64 (fF b)]

set_option maxHeartbeats 1000000 in
theorem split_any (b : Nat) (w : World) (h : b < 18446744073709551616) :
    Calls Tryd.prog 64 #[.int .u64 b] w fun e w' => e = .returned (fV b) ∧ Below w.heap.size w w' := by
  have k1 := and_top b h
  have k2 := and_low b h
  have k3 := and_mid b h
  unfold fV
  generalize fF b = f at *
  generalize fP b = p at *
  generalize fS b = s at *
  have hb : (0 : Int) ≤ b := by omega
  have hb2 : (b : Int) < 18446744073709551616 := by omega
  clear h
  cases s
  · simp only [Bool.false_eq_true, if_false] at k1
    go_enter Tryd.func64, Tryd.ntmps64
    go_wp2_with (simp only [k1, k2, k3])
    refine bodyPost_ret (v := .agg #[.bool false, .int .u64 p, .int .u64 f]) (by simp [results, Tryd.results64, go_sem]) rfl ⟨rfl, (Below.refl _ _).alloc (Nat.le_refl _) _⟩
  · simp only [if_true] at k1
    go_enter Tryd.func64, Tryd.ntmps64
    go_wp2_with (simp only [k1, k2, k3])
    refine bodyPost_ret (v := .agg #[.bool true, .int .u64 p, .int .u64 f]) (by simp [results, Tryd.results64, go_sem]) rfl ⟨rfl, (Below.refl _ _).alloc (Nat.le_refl _) _⟩

set_option maxHeartbeats 1000000 in
theorem sminus_any (b : Nat) (w : World) (h : b < 18446744073709551616) :
    Calls Tryd.prog 43 #[.int .u64 b] w fun e w' => e = .returned (.int .u64 (fN b)) ∧ w = w' := by
  have k1 := xor_top b h
  generalize fN b = f at *
  clear h
  go_enter Tryd.func43, Tryd.ntmps43
  go_wp2_with (simp only [k1])
  go_ret
  exact ⟨rfl, rfl⟩

theorem field_sign (s : Bool) (p f : Int) (W : World) : (Instr.field 79 (.agg #[.bool s, .int .u64 p, .int .u64 f]) 0).run Tryd.prog W = .ok (.bool s) W := by kernel_rfl

set_option maxHeartbeats 1000000 in
theorem ssign_any (b : Nat) (w : World) (h : b < 18446744073709551616) :
    Calls Tryd.prog 42 #[.int .u64 b] w fun e w' => e = .returned (.bool (fS b)) ∧ Below w.heap.size w w' := by
  have CS := hide (fun w' => split_any b w' h)
  unfold fV at CS
  generalize fF b = f at *
  generalize fP b = p at *
  generalize fS b = s at *
  have hf := fun W => field_sign s p f W
  clear h
  go_enter Tryd.func42, Tryd.ntmps42
  go_wp2_with (go_at_call 64; refine (unhide CS _).mono ?_; rintro r w2 ⟨rfl, hb1⟩)
  go_ret
  exact ⟨rfl, hb1⟩

set_option maxHeartbeats 1000000 in
theorem rneg4_any (b : Nat) (w : World) (h : b < 18446744073709551616) :
    Calls Tryd.prog 44 #[.int .u64 b] w fun e w' => e = .returned (.bool (fS b)) ∧ w = w' := by
  unfold fS
  by_cases hb : 9223372036854775808 ≤ b
  · rw [decide_eq_true hb]
    have hq : (b : Int) / 9223372036854775808 = 1 := by omega
    clear hb h
    go_enter Tryd.func44, Tryd.ntmps44
    go_wp2_with (simp only [hq])
    go_ret
    exact ⟨rfl, rfl⟩
  · rw [decide_eq_false hb]
    have hq : (b : Int) / 9223372036854775808 = 0 := by omega
    clear hb h
    go_enter Tryd.func44, Tryd.ntmps44
    go_wp2_with (simp only [hq])
    go_ret
    exact ⟨rfl, rfl⟩

set_option maxHeartbeats 1000000 in
theorem rpower_any (b : Nat) (w : World) (_h : b < 18446744073709551616) :
    Calls Tryd.prog 34 #[.int .u64 b] w fun e w' => e = .returned (.int .i64 (fP b)) ∧ w = w' := by
  have hq : (b : Int) % 9223372036854775808 / 4503599627370496 = (fP b : Int) := by unfold fP; omega
  have hl := fP_lt b
  generalize fP b = p at *
  go_enter Tryd.func34, Tryd.ntmps34
  go_wp2_with (simp only [hq])
  go_ret
  exact ⟨rfl, rfl⟩

set_option maxHeartbeats 1000000 in
theorem rfrac_any (b : Nat) (w : World) (_h : b < 18446744073709551616) :
    Calls Tryd.prog 63 #[.int .u64 b] w fun e w' => e = .returned (.int .u64 (fF b)) ∧ w = w' := by
  have hq : (b : Int) % 4503599627370496 = (fF b : Int) := by unfold fF; omega
  have hl := fF_lt b
  generalize fF b = p at *
  go_enter Tryd.func63, Tryd.ntmps63
  go_wp2_with (simp only [hq])
  go_ret
  exact ⟨rfl, rfl⟩

end Go.Proofs.YtpaikdlhkdgkpaaDoor

/- Contract of soft's Kind. -/
namespace Go.Proofs.YtpaikdlhkdgkpaaDoor
open Go.RowKit

theorem split_c0 (w : World) : Calls Tryd.prog 64 #[.int .u64 0] w fun e w' => e = .returned (.agg #[.bool false, .int .u64 0, .int .u64 0]) ∧ Below w.heap.size w w' := by
  have h := split_any 0 w (by decide)
  simpa [fV, fS, fP, fF] using h

theorem split_c1 (w : World) : Calls Tryd.prog 64 #[.int .u64 9223372036854775808] w fun e w' => e = .returned (.agg #[.bool true, .int .u64 0, .int .u64 0]) ∧ Below w.heap.size w w' := by
  have h := split_any 9223372036854775808 w (by decide)
  simpa [fV, fS, fP, fF] using h

theorem split_c2 (w : World) : Calls Tryd.prog 64 #[.int .u64 9218868437227405312] w fun e w' => e = .returned (.agg #[.bool false, .int .u64 2047, .int .u64 0]) ∧ Below w.heap.size w w' := by
  have h := split_any 9218868437227405312 w (by decide)
  simpa [fV, fS, fP, fF] using h

theorem split_c3 (w : World) : Calls Tryd.prog 64 #[.int .u64 18442240474082181120] w fun e w' => e = .returned (.agg #[.bool true, .int .u64 2047, .int .u64 0]) ∧ Below w.heap.size w w' := by
  have h := split_any 18442240474082181120 w (by decide)
  simpa [fV, fS, fP, fF] using h

set_option maxHeartbeats 4000000 in
theorem kind_z0 (b : Nat) (w : World) (C : ∀ w', Calls Tryd.prog 64 #[.int .u64 b] w' fun e w'' => e = .returned (.agg #[.bool false, .int .u64 0, .int .u64 0]) ∧ Below w'.heap.size w' w'')  :
    Calls Tryd.prog 35 #[.int .u64 b] w fun e w' => e = .returned (.int .i64 0) ∧ Below w.heap.size w w' := by
  have C0 := hide (fun w' => split_c0 w')
  have CS := hide C
  clear C
  go_enter Tryd.func35, Tryd.ntmps35
  go_wp2_with fail
  refine (unhide CS _).mono ?_
  rintro e w1 ⟨rfl, hb1⟩
  clear CS
  go_wp2
  refine at_world (fun W => Below w.heap.size w W ∧ BoxF W w1.heap.size (.bool false) (.int .u64 0) (.int .u64 0)) ⟨hb1.alloc hb1.size _, BoxF.new _ _ _ _⟩ ?_
  rintro W0 ⟨b0, x0⟩
  clear hb1
  generalize w1.heap.size = g at *
  have hK : ∀ w', Below W0.heap.size W0 w' → Below W0.heap.size W0 w' ∧ w'.cell? ⟨g, 0, none⟩ = some (.bool false) ∧ w'.cell? ⟨g, 1, none⟩ = some (.int .u64 0) ∧ w'.cell? ⟨g, 2, none⟩ = some (.int .u64 0) := fun w' h => ⟨h, (x0.all h).c0, (x0.all h).c1, (x0.all h).c2⟩
  have HK := hide hK
  have BB := hide b0; have X0 := hide x0
  clear hK x0 b0
  go_region_held3 (fun w' => Below W0.heap.size W0 w' ∧ w'.cell? ⟨g, 0, none⟩ = some (.bool false) ∧ w'.cell? ⟨g, 1, none⟩ = some (.int .u64 0) ∧ w'.cell? ⟨g, 2, none⟩ = some (.int .u64 0))
    (first | exact unhide HK _ (Below.refl _ _).drew | exact unhide HK _ (by assumption) | fail "NO KEEP")
    (first | (go_at_call 64; refine (unhide C0 _).mono ?_; rintro e wn ⟨rfl, hb1⟩; have hB : Below W0.heap.size W0 wn := Below.trans (And.left (by assumption)) (hb1.mono (Below.size (And.left (by assumption)))); clear hb1) | fail "NO ARM")
  go_wp2
  go_ret
  exact ⟨rfl, (unhide BB).trans (Below.mono (And.left (by assumption)) (unhide BB).size)⟩

set_option maxHeartbeats 4000000 in
theorem kind_i0 (b : Nat) (w : World) (C : ∀ w', Calls Tryd.prog 64 #[.int .u64 b] w' fun e w'' => e = .returned (.agg #[.bool false, .int .u64 2047, .int .u64 0]) ∧ Below w'.heap.size w' w'')  :
    Calls Tryd.prog 35 #[.int .u64 b] w fun e w' => e = .returned (.int .i64 3) ∧ Below w.heap.size w w' := by
  have C0 := hide (fun w' => split_c0 w')
  have C1 := hide (fun w' => split_c1 w')
  have C2 := hide (fun w' => split_c2 w')
  have CS := hide C
  clear C
  go_enter Tryd.func35, Tryd.ntmps35
  go_wp2_with fail
  refine (unhide CS _).mono ?_
  rintro e w1 ⟨rfl, hb1⟩
  clear CS
  go_wp2
  refine at_world (fun W => Below w.heap.size w W ∧ BoxF W w1.heap.size (.bool false) (.int .u64 2047) (.int .u64 0)) ⟨hb1.alloc hb1.size _, BoxF.new _ _ _ _⟩ ?_
  rintro W0 ⟨b0, x0⟩
  clear hb1
  generalize w1.heap.size = g at *
  have hK : ∀ w', Below W0.heap.size W0 w' → Below W0.heap.size W0 w' ∧ w'.cell? ⟨g, 0, none⟩ = some (.bool false) ∧ w'.cell? ⟨g, 1, none⟩ = some (.int .u64 2047) ∧ w'.cell? ⟨g, 2, none⟩ = some (.int .u64 0) := fun w' h => ⟨h, (x0.all h).c0, (x0.all h).c1, (x0.all h).c2⟩
  have HK := hide hK
  have BB := hide b0; have X0 := hide x0
  clear hK x0 b0
  go_region_held3 (fun w' => Below W0.heap.size W0 w' ∧ w'.cell? ⟨g, 0, none⟩ = some (.bool false) ∧ w'.cell? ⟨g, 1, none⟩ = some (.int .u64 2047) ∧ w'.cell? ⟨g, 2, none⟩ = some (.int .u64 0))
    (first | exact unhide HK _ (Below.refl _ _).drew | exact unhide HK _ (by assumption) | fail "NO KEEP")
    (first | (go_at_call 64; refine (unhide C0 _).mono ?_; rintro e wn ⟨rfl, hb1⟩; have hB : Below W0.heap.size W0 wn := Below.trans (And.left (by assumption)) (hb1.mono (Below.size (And.left (by assumption)))); clear hb1) | fail "NO ARM")
  go_wp2
  refine at_world (fun W => Below w.heap.size w W ∧ BoxF W g (.bool false) (.int .u64 2047) (.int .u64 0)) ⟨(unhide BB).trans (Below.mono (And.left (by assumption)) (unhide BB).size), (unhide X0).all (And.left (by assumption))⟩ ?_
  clear HK BB X0 C0
  rintro W0 ⟨b0, x0⟩
  have hK : ∀ w', Below W0.heap.size W0 w' → Below W0.heap.size W0 w' ∧ w'.cell? ⟨g, 0, none⟩ = some (.bool false) ∧ w'.cell? ⟨g, 1, none⟩ = some (.int .u64 2047) ∧ w'.cell? ⟨g, 2, none⟩ = some (.int .u64 0) := fun w' h => ⟨h, (x0.all h).c0, (x0.all h).c1, (x0.all h).c2⟩
  have HK := hide hK
  have BB := hide b0; have X0 := hide x0
  clear hK x0 b0
  go_region_held3 (fun w' => Below W0.heap.size W0 w' ∧ w'.cell? ⟨g, 0, none⟩ = some (.bool false) ∧ w'.cell? ⟨g, 1, none⟩ = some (.int .u64 2047) ∧ w'.cell? ⟨g, 2, none⟩ = some (.int .u64 0))
    (first | exact unhide HK _ (Below.refl _ _).drew | exact unhide HK _ (by assumption) | fail "NO KEEP")
    (first | (go_at_call 64; refine (unhide C1 _).mono ?_; rintro e wn ⟨rfl, hb1⟩; have hB : Below W0.heap.size W0 wn := Below.trans (And.left (by assumption)) (hb1.mono (Below.size (And.left (by assumption)))); clear hb1) | fail "NO ARM")
  go_wp2
  refine at_world (fun W => Below w.heap.size w W ∧ BoxF W g (.bool false) (.int .u64 2047) (.int .u64 0)) ⟨(unhide BB).trans (Below.mono (And.left (by assumption)) (unhide BB).size), (unhide X0).all (And.left (by assumption))⟩ ?_
  clear HK BB X0 C1
  rintro W0 ⟨b0, x0⟩
  have hK : ∀ w', Below W0.heap.size W0 w' → Below W0.heap.size W0 w' ∧ w'.cell? ⟨g, 0, none⟩ = some (.bool false) ∧ w'.cell? ⟨g, 1, none⟩ = some (.int .u64 2047) ∧ w'.cell? ⟨g, 2, none⟩ = some (.int .u64 0) := fun w' h => ⟨h, (x0.all h).c0, (x0.all h).c1, (x0.all h).c2⟩
  have HK := hide hK
  have BB := hide b0; have X0 := hide x0
  clear hK x0 b0
  go_region_held3 (fun w' => Below W0.heap.size W0 w' ∧ w'.cell? ⟨g, 0, none⟩ = some (.bool false) ∧ w'.cell? ⟨g, 1, none⟩ = some (.int .u64 2047) ∧ w'.cell? ⟨g, 2, none⟩ = some (.int .u64 0))
    (first | exact unhide HK _ (Below.refl _ _).drew | exact unhide HK _ (by assumption) | fail "NO KEEP")
    (first | (go_at_call 64; refine (unhide C2 _).mono ?_; rintro e wn ⟨rfl, hb1⟩; have hB : Below W0.heap.size W0 wn := Below.trans (And.left (by assumption)) (hb1.mono (Below.size (And.left (by assumption)))); clear hb1) | fail "NO ARM")
  go_wp2
  go_ret
  exact ⟨rfl, (unhide BB).trans (Below.mono (And.left (by assumption)) (unhide BB).size)⟩

set_option maxHeartbeats 4000000 in
theorem kind_s0 (b : Nat) (f : Nat) (w : World) (C : ∀ w', Calls Tryd.prog 64 #[.int .u64 b] w' fun e w'' => e = .returned (.agg #[.bool false, .int .u64 0, .int .u64 f]) ∧ Below w'.heap.size w' w'') (hf : ((f : Int) == 0) = false) :
    Calls Tryd.prog 35 #[.int .u64 b] w fun e w' => e = .returned (.int .i64 1) ∧ Below w.heap.size w w' := by
  have C0 := hide (fun w' => split_c0 w')
  have C1 := hide (fun w' => split_c1 w')
  have C2 := hide (fun w' => split_c2 w')
  have C3 := hide (fun w' => split_c3 w')
  have CS := hide C
  clear C
  go_enter Tryd.func35, Tryd.ntmps35
  go_wp2_with fail
  refine (unhide CS _).mono ?_
  rintro e w1 ⟨rfl, hb1⟩
  clear CS
  go_wp2
  refine at_world (fun W => Below w.heap.size w W ∧ BoxF W w1.heap.size (.bool false) (.int .u64 0) (.int .u64 f)) ⟨hb1.alloc hb1.size _, BoxF.new _ _ _ _⟩ ?_
  rintro W0 ⟨b0, x0⟩
  clear hb1
  generalize w1.heap.size = g at *
  have hK : ∀ w', Below W0.heap.size W0 w' → Below W0.heap.size W0 w' ∧ w'.cell? ⟨g, 0, none⟩ = some (.bool false) ∧ w'.cell? ⟨g, 1, none⟩ = some (.int .u64 0) ∧ w'.cell? ⟨g, 2, none⟩ = some (.int .u64 f) := fun w' h => ⟨h, (x0.all h).c0, (x0.all h).c1, (x0.all h).c2⟩
  have HK := hide hK
  have BB := hide b0; have X0 := hide x0
  clear hK x0 b0
  go_region_held3 (fun w' => Below W0.heap.size W0 w' ∧ w'.cell? ⟨g, 0, none⟩ = some (.bool false) ∧ w'.cell? ⟨g, 1, none⟩ = some (.int .u64 0) ∧ w'.cell? ⟨g, 2, none⟩ = some (.int .u64 f))
    (first | exact unhide HK _ (Below.refl _ _).drew | exact unhide HK _ (by assumption) | fail "NO KEEP")
    (first | (go_at_call 64; refine (unhide C0 _).mono ?_; rintro e wn ⟨rfl, hb1⟩; have hB : Below W0.heap.size W0 wn := Below.trans (And.left (by assumption)) (hb1.mono (Below.size (And.left (by assumption)))); clear hb1) | fail "NO ARM")
  go_wp2
  refine at_world (fun W => Below w.heap.size w W ∧ BoxF W g (.bool false) (.int .u64 0) (.int .u64 f)) ⟨(unhide BB).trans (Below.mono (And.left (by assumption)) (unhide BB).size), (unhide X0).all (And.left (by assumption))⟩ ?_
  clear HK BB X0 C0
  rintro W0 ⟨b0, x0⟩
  have hK : ∀ w', Below W0.heap.size W0 w' → Below W0.heap.size W0 w' ∧ w'.cell? ⟨g, 0, none⟩ = some (.bool false) ∧ w'.cell? ⟨g, 1, none⟩ = some (.int .u64 0) ∧ w'.cell? ⟨g, 2, none⟩ = some (.int .u64 f) := fun w' h => ⟨h, (x0.all h).c0, (x0.all h).c1, (x0.all h).c2⟩
  have HK := hide hK
  have BB := hide b0; have X0 := hide x0
  clear hK x0 b0
  go_region_held3 (fun w' => Below W0.heap.size W0 w' ∧ w'.cell? ⟨g, 0, none⟩ = some (.bool false) ∧ w'.cell? ⟨g, 1, none⟩ = some (.int .u64 0) ∧ w'.cell? ⟨g, 2, none⟩ = some (.int .u64 f))
    (first | exact unhide HK _ (Below.refl _ _).drew | exact unhide HK _ (by assumption) | fail "NO KEEP")
    (first | (go_at_call 64; refine (unhide C1 _).mono ?_; rintro e wn ⟨rfl, hb1⟩; have hB : Below W0.heap.size W0 wn := Below.trans (And.left (by assumption)) (hb1.mono (Below.size (And.left (by assumption)))); clear hb1) | fail "NO ARM")
  go_wp2
  refine at_world (fun W => Below w.heap.size w W ∧ BoxF W g (.bool false) (.int .u64 0) (.int .u64 f)) ⟨(unhide BB).trans (Below.mono (And.left (by assumption)) (unhide BB).size), (unhide X0).all (And.left (by assumption))⟩ ?_
  clear HK BB X0 C1
  rintro W0 ⟨b0, x0⟩
  have hK : ∀ w', Below W0.heap.size W0 w' → Below W0.heap.size W0 w' ∧ w'.cell? ⟨g, 0, none⟩ = some (.bool false) ∧ w'.cell? ⟨g, 1, none⟩ = some (.int .u64 0) ∧ w'.cell? ⟨g, 2, none⟩ = some (.int .u64 f) := fun w' h => ⟨h, (x0.all h).c0, (x0.all h).c1, (x0.all h).c2⟩
  have HK := hide hK
  have BB := hide b0; have X0 := hide x0
  clear hK x0 b0
  go_region_held3 (fun w' => Below W0.heap.size W0 w' ∧ w'.cell? ⟨g, 0, none⟩ = some (.bool false) ∧ w'.cell? ⟨g, 1, none⟩ = some (.int .u64 0) ∧ w'.cell? ⟨g, 2, none⟩ = some (.int .u64 f))
    (first | exact unhide HK _ (Below.refl _ _).drew | exact unhide HK _ (by assumption) | fail "NO KEEP")
    (first | (go_at_call 64; refine (unhide C2 _).mono ?_; rintro e wn ⟨rfl, hb1⟩; have hB : Below W0.heap.size W0 wn := Below.trans (And.left (by assumption)) (hb1.mono (Below.size (And.left (by assumption)))); clear hb1) | fail "NO ARM")
  go_wp2
  refine at_world (fun W => Below w.heap.size w W ∧ BoxF W g (.bool false) (.int .u64 0) (.int .u64 f)) ⟨(unhide BB).trans (Below.mono (And.left (by assumption)) (unhide BB).size), (unhide X0).all (And.left (by assumption))⟩ ?_
  clear HK BB X0 C2
  rintro W0 ⟨b0, x0⟩
  have hK : ∀ w', Below W0.heap.size W0 w' → Below W0.heap.size W0 w' ∧ w'.cell? ⟨g, 0, none⟩ = some (.bool false) ∧ w'.cell? ⟨g, 1, none⟩ = some (.int .u64 0) ∧ w'.cell? ⟨g, 2, none⟩ = some (.int .u64 f) := fun w' h => ⟨h, (x0.all h).c0, (x0.all h).c1, (x0.all h).c2⟩
  have HK := hide hK
  have BB := hide b0; have X0 := hide x0
  clear hK x0 b0
  go_region_held3 (fun w' => Below W0.heap.size W0 w' ∧ w'.cell? ⟨g, 0, none⟩ = some (.bool false) ∧ w'.cell? ⟨g, 1, none⟩ = some (.int .u64 0) ∧ w'.cell? ⟨g, 2, none⟩ = some (.int .u64 f))
    (first | exact unhide HK _ (Below.refl _ _).drew | exact unhide HK _ (by assumption) | fail "NO KEEP")
    (first | (go_at_call 64; refine (unhide C3 _).mono ?_; rintro e wn ⟨rfl, hb1⟩; have hB : Below W0.heap.size W0 wn := Below.trans (And.left (by assumption)) (hb1.mono (Below.size (And.left (by assumption)))); clear hb1) | fail "NO ARM")
  go_wp2
  go_ret
  exact ⟨rfl, (unhide BB).trans (Below.mono (And.left (by assumption)) (unhide BB).size)⟩

set_option maxHeartbeats 4000000 in
theorem kind_n0 (b : Nat) (f : Nat) (w : World) (C : ∀ w', Calls Tryd.prog 64 #[.int .u64 b] w' fun e w'' => e = .returned (.agg #[.bool false, .int .u64 2047, .int .u64 f]) ∧ Below w'.heap.size w' w'') (hf : ((f : Int) == 0) = false) :
    Calls Tryd.prog 35 #[.int .u64 b] w fun e w' => e = .returned (.int .i64 4) ∧ Below w.heap.size w w' := by
  have C0 := hide (fun w' => split_c0 w')
  have C1 := hide (fun w' => split_c1 w')
  have C2 := hide (fun w' => split_c2 w')
  have C3 := hide (fun w' => split_c3 w')
  have CS := hide C
  clear C
  go_enter Tryd.func35, Tryd.ntmps35
  go_wp2_with fail
  refine (unhide CS _).mono ?_
  rintro e w1 ⟨rfl, hb1⟩
  clear CS
  go_wp2
  refine at_world (fun W => Below w.heap.size w W ∧ BoxF W w1.heap.size (.bool false) (.int .u64 2047) (.int .u64 f)) ⟨hb1.alloc hb1.size _, BoxF.new _ _ _ _⟩ ?_
  rintro W0 ⟨b0, x0⟩
  clear hb1
  generalize w1.heap.size = g at *
  have hK : ∀ w', Below W0.heap.size W0 w' → Below W0.heap.size W0 w' ∧ w'.cell? ⟨g, 0, none⟩ = some (.bool false) ∧ w'.cell? ⟨g, 1, none⟩ = some (.int .u64 2047) ∧ w'.cell? ⟨g, 2, none⟩ = some (.int .u64 f) := fun w' h => ⟨h, (x0.all h).c0, (x0.all h).c1, (x0.all h).c2⟩
  have HK := hide hK
  have BB := hide b0; have X0 := hide x0
  clear hK x0 b0
  go_region_held3 (fun w' => Below W0.heap.size W0 w' ∧ w'.cell? ⟨g, 0, none⟩ = some (.bool false) ∧ w'.cell? ⟨g, 1, none⟩ = some (.int .u64 2047) ∧ w'.cell? ⟨g, 2, none⟩ = some (.int .u64 f))
    (first | exact unhide HK _ (Below.refl _ _).drew | exact unhide HK _ (by assumption) | fail "NO KEEP")
    (first | (go_at_call 64; refine (unhide C0 _).mono ?_; rintro e wn ⟨rfl, hb1⟩; have hB : Below W0.heap.size W0 wn := Below.trans (And.left (by assumption)) (hb1.mono (Below.size (And.left (by assumption)))); clear hb1) | fail "NO ARM")
  go_wp2
  refine at_world (fun W => Below w.heap.size w W ∧ BoxF W g (.bool false) (.int .u64 2047) (.int .u64 f)) ⟨(unhide BB).trans (Below.mono (And.left (by assumption)) (unhide BB).size), (unhide X0).all (And.left (by assumption))⟩ ?_
  clear HK BB X0 C0
  rintro W0 ⟨b0, x0⟩
  have hK : ∀ w', Below W0.heap.size W0 w' → Below W0.heap.size W0 w' ∧ w'.cell? ⟨g, 0, none⟩ = some (.bool false) ∧ w'.cell? ⟨g, 1, none⟩ = some (.int .u64 2047) ∧ w'.cell? ⟨g, 2, none⟩ = some (.int .u64 f) := fun w' h => ⟨h, (x0.all h).c0, (x0.all h).c1, (x0.all h).c2⟩
  have HK := hide hK
  have BB := hide b0; have X0 := hide x0
  clear hK x0 b0
  go_region_held3 (fun w' => Below W0.heap.size W0 w' ∧ w'.cell? ⟨g, 0, none⟩ = some (.bool false) ∧ w'.cell? ⟨g, 1, none⟩ = some (.int .u64 2047) ∧ w'.cell? ⟨g, 2, none⟩ = some (.int .u64 f))
    (first | exact unhide HK _ (Below.refl _ _).drew | exact unhide HK _ (by assumption) | fail "NO KEEP")
    (first | (go_at_call 64; refine (unhide C1 _).mono ?_; rintro e wn ⟨rfl, hb1⟩; have hB : Below W0.heap.size W0 wn := Below.trans (And.left (by assumption)) (hb1.mono (Below.size (And.left (by assumption)))); clear hb1) | fail "NO ARM")
  go_wp2
  refine at_world (fun W => Below w.heap.size w W ∧ BoxF W g (.bool false) (.int .u64 2047) (.int .u64 f)) ⟨(unhide BB).trans (Below.mono (And.left (by assumption)) (unhide BB).size), (unhide X0).all (And.left (by assumption))⟩ ?_
  clear HK BB X0 C1
  rintro W0 ⟨b0, x0⟩
  have hK : ∀ w', Below W0.heap.size W0 w' → Below W0.heap.size W0 w' ∧ w'.cell? ⟨g, 0, none⟩ = some (.bool false) ∧ w'.cell? ⟨g, 1, none⟩ = some (.int .u64 2047) ∧ w'.cell? ⟨g, 2, none⟩ = some (.int .u64 f) := fun w' h => ⟨h, (x0.all h).c0, (x0.all h).c1, (x0.all h).c2⟩
  have HK := hide hK
  have BB := hide b0; have X0 := hide x0
  clear hK x0 b0
  go_region_held3 (fun w' => Below W0.heap.size W0 w' ∧ w'.cell? ⟨g, 0, none⟩ = some (.bool false) ∧ w'.cell? ⟨g, 1, none⟩ = some (.int .u64 2047) ∧ w'.cell? ⟨g, 2, none⟩ = some (.int .u64 f))
    (first | exact unhide HK _ (Below.refl _ _).drew | exact unhide HK _ (by assumption) | fail "NO KEEP")
    (first | (go_at_call 64; refine (unhide C2 _).mono ?_; rintro e wn ⟨rfl, hb1⟩; have hB : Below W0.heap.size W0 wn := Below.trans (And.left (by assumption)) (hb1.mono (Below.size (And.left (by assumption)))); clear hb1) | fail "NO ARM")
  go_wp2
  refine at_world (fun W => Below w.heap.size w W ∧ BoxF W g (.bool false) (.int .u64 2047) (.int .u64 f)) ⟨(unhide BB).trans (Below.mono (And.left (by assumption)) (unhide BB).size), (unhide X0).all (And.left (by assumption))⟩ ?_
  clear HK BB X0 C2
  rintro W0 ⟨b0, x0⟩
  have hK : ∀ w', Below W0.heap.size W0 w' → Below W0.heap.size W0 w' ∧ w'.cell? ⟨g, 0, none⟩ = some (.bool false) ∧ w'.cell? ⟨g, 1, none⟩ = some (.int .u64 2047) ∧ w'.cell? ⟨g, 2, none⟩ = some (.int .u64 f) := fun w' h => ⟨h, (x0.all h).c0, (x0.all h).c1, (x0.all h).c2⟩
  have HK := hide hK
  have BB := hide b0; have X0 := hide x0
  clear hK x0 b0
  go_region_held3 (fun w' => Below W0.heap.size W0 w' ∧ w'.cell? ⟨g, 0, none⟩ = some (.bool false) ∧ w'.cell? ⟨g, 1, none⟩ = some (.int .u64 2047) ∧ w'.cell? ⟨g, 2, none⟩ = some (.int .u64 f))
    (first | exact unhide HK _ (Below.refl _ _).drew | exact unhide HK _ (by assumption) | fail "NO KEEP")
    (first | (go_at_call 64; refine (unhide C3 _).mono ?_; rintro e wn ⟨rfl, hb1⟩; have hB : Below W0.heap.size W0 wn := Below.trans (And.left (by assumption)) (hb1.mono (Below.size (And.left (by assumption)))); clear hb1) | fail "NO ARM")
  go_wp2
  go_ret
  exact ⟨rfl, (unhide BB).trans (Below.mono (And.left (by assumption)) (unhide BB).size)⟩

set_option maxHeartbeats 4000000 in
theorem kind_o0 (b : Nat) (p : Nat) (f : Nat) (w : World) (C : ∀ w', Calls Tryd.prog 64 #[.int .u64 b] w' fun e w'' => e = .returned (.agg #[.bool false, .int .u64 p, .int .u64 f]) ∧ Below w'.heap.size w' w'') (hp : ((p : Int) == 0) = false) (hq : ((p : Int) == 2047) = false) :
    Calls Tryd.prog 35 #[.int .u64 b] w fun e w' => e = .returned (.int .i64 2) ∧ Below w.heap.size w w' := by
  have C0 := hide (fun w' => split_c0 w')
  have C1 := hide (fun w' => split_c1 w')
  have C2 := hide (fun w' => split_c2 w')
  have C3 := hide (fun w' => split_c3 w')
  have CS := hide C
  clear C
  go_enter Tryd.func35, Tryd.ntmps35
  go_wp2_with fail
  refine (unhide CS _).mono ?_
  rintro e w1 ⟨rfl, hb1⟩
  clear CS
  go_wp2
  refine at_world (fun W => Below w.heap.size w W ∧ BoxF W w1.heap.size (.bool false) (.int .u64 p) (.int .u64 f)) ⟨hb1.alloc hb1.size _, BoxF.new _ _ _ _⟩ ?_
  rintro W0 ⟨b0, x0⟩
  clear hb1
  generalize w1.heap.size = g at *
  have hK : ∀ w', Below W0.heap.size W0 w' → Below W0.heap.size W0 w' ∧ w'.cell? ⟨g, 0, none⟩ = some (.bool false) ∧ w'.cell? ⟨g, 1, none⟩ = some (.int .u64 p) ∧ w'.cell? ⟨g, 2, none⟩ = some (.int .u64 f) := fun w' h => ⟨h, (x0.all h).c0, (x0.all h).c1, (x0.all h).c2⟩
  have HK := hide hK
  have BB := hide b0; have X0 := hide x0
  clear hK x0 b0
  go_region_held3 (fun w' => Below W0.heap.size W0 w' ∧ w'.cell? ⟨g, 0, none⟩ = some (.bool false) ∧ w'.cell? ⟨g, 1, none⟩ = some (.int .u64 p) ∧ w'.cell? ⟨g, 2, none⟩ = some (.int .u64 f))
    (first | exact unhide HK _ (Below.refl _ _).drew | exact unhide HK _ (by assumption) | fail "NO KEEP")
    (first | (go_at_call 64; refine (unhide C0 _).mono ?_; rintro e wn ⟨rfl, hb1⟩; have hB : Below W0.heap.size W0 wn := Below.trans (And.left (by assumption)) (hb1.mono (Below.size (And.left (by assumption)))); clear hb1) | fail "NO ARM")
  go_wp2
  refine at_world (fun W => Below w.heap.size w W ∧ BoxF W g (.bool false) (.int .u64 p) (.int .u64 f)) ⟨(unhide BB).trans (Below.mono (And.left (by assumption)) (unhide BB).size), (unhide X0).all (And.left (by assumption))⟩ ?_
  clear HK BB X0 C0
  rintro W0 ⟨b0, x0⟩
  have hK : ∀ w', Below W0.heap.size W0 w' → Below W0.heap.size W0 w' ∧ w'.cell? ⟨g, 0, none⟩ = some (.bool false) ∧ w'.cell? ⟨g, 1, none⟩ = some (.int .u64 p) ∧ w'.cell? ⟨g, 2, none⟩ = some (.int .u64 f) := fun w' h => ⟨h, (x0.all h).c0, (x0.all h).c1, (x0.all h).c2⟩
  have HK := hide hK
  have BB := hide b0; have X0 := hide x0
  clear hK x0 b0
  go_region_held3 (fun w' => Below W0.heap.size W0 w' ∧ w'.cell? ⟨g, 0, none⟩ = some (.bool false) ∧ w'.cell? ⟨g, 1, none⟩ = some (.int .u64 p) ∧ w'.cell? ⟨g, 2, none⟩ = some (.int .u64 f))
    (first | exact unhide HK _ (Below.refl _ _).drew | exact unhide HK _ (by assumption) | fail "NO KEEP")
    (first | (go_at_call 64; refine (unhide C1 _).mono ?_; rintro e wn ⟨rfl, hb1⟩; have hB : Below W0.heap.size W0 wn := Below.trans (And.left (by assumption)) (hb1.mono (Below.size (And.left (by assumption)))); clear hb1) | fail "NO ARM")
  go_wp2
  refine at_world (fun W => Below w.heap.size w W ∧ BoxF W g (.bool false) (.int .u64 p) (.int .u64 f)) ⟨(unhide BB).trans (Below.mono (And.left (by assumption)) (unhide BB).size), (unhide X0).all (And.left (by assumption))⟩ ?_
  clear HK BB X0 C1
  rintro W0 ⟨b0, x0⟩
  have hK : ∀ w', Below W0.heap.size W0 w' → Below W0.heap.size W0 w' ∧ w'.cell? ⟨g, 0, none⟩ = some (.bool false) ∧ w'.cell? ⟨g, 1, none⟩ = some (.int .u64 p) ∧ w'.cell? ⟨g, 2, none⟩ = some (.int .u64 f) := fun w' h => ⟨h, (x0.all h).c0, (x0.all h).c1, (x0.all h).c2⟩
  have HK := hide hK
  have BB := hide b0; have X0 := hide x0
  clear hK x0 b0
  go_region_held3 (fun w' => Below W0.heap.size W0 w' ∧ w'.cell? ⟨g, 0, none⟩ = some (.bool false) ∧ w'.cell? ⟨g, 1, none⟩ = some (.int .u64 p) ∧ w'.cell? ⟨g, 2, none⟩ = some (.int .u64 f))
    (first | exact unhide HK _ (Below.refl _ _).drew | exact unhide HK _ (by assumption) | fail "NO KEEP")
    (first | (go_at_call 64; refine (unhide C2 _).mono ?_; rintro e wn ⟨rfl, hb1⟩; have hB : Below W0.heap.size W0 wn := Below.trans (And.left (by assumption)) (hb1.mono (Below.size (And.left (by assumption)))); clear hb1) | fail "NO ARM")
  go_wp2
  refine at_world (fun W => Below w.heap.size w W ∧ BoxF W g (.bool false) (.int .u64 p) (.int .u64 f)) ⟨(unhide BB).trans (Below.mono (And.left (by assumption)) (unhide BB).size), (unhide X0).all (And.left (by assumption))⟩ ?_
  clear HK BB X0 C2
  rintro W0 ⟨b0, x0⟩
  have hK : ∀ w', Below W0.heap.size W0 w' → Below W0.heap.size W0 w' ∧ w'.cell? ⟨g, 0, none⟩ = some (.bool false) ∧ w'.cell? ⟨g, 1, none⟩ = some (.int .u64 p) ∧ w'.cell? ⟨g, 2, none⟩ = some (.int .u64 f) := fun w' h => ⟨h, (x0.all h).c0, (x0.all h).c1, (x0.all h).c2⟩
  have HK := hide hK
  have BB := hide b0; have X0 := hide x0
  clear hK x0 b0
  go_region_held3 (fun w' => Below W0.heap.size W0 w' ∧ w'.cell? ⟨g, 0, none⟩ = some (.bool false) ∧ w'.cell? ⟨g, 1, none⟩ = some (.int .u64 p) ∧ w'.cell? ⟨g, 2, none⟩ = some (.int .u64 f))
    (first | exact unhide HK _ (Below.refl _ _).drew | exact unhide HK _ (by assumption) | fail "NO KEEP")
    (first | (go_at_call 64; refine (unhide C3 _).mono ?_; rintro e wn ⟨rfl, hb1⟩; have hB : Below W0.heap.size W0 wn := Below.trans (And.left (by assumption)) (hb1.mono (Below.size (And.left (by assumption)))); clear hb1) | fail "NO ARM")
  go_wp2
  go_ret
  exact ⟨rfl, (unhide BB).trans (Below.mono (And.left (by assumption)) (unhide BB).size)⟩

set_option maxHeartbeats 4000000 in
theorem kind_z1 (b : Nat) (w : World) (C : ∀ w', Calls Tryd.prog 64 #[.int .u64 b] w' fun e w'' => e = .returned (.agg #[.bool true, .int .u64 0, .int .u64 0]) ∧ Below w'.heap.size w' w'')  :
    Calls Tryd.prog 35 #[.int .u64 b] w fun e w' => e = .returned (.int .i64 0) ∧ Below w.heap.size w w' := by
  have C0 := hide (fun w' => split_c0 w')
  have C1 := hide (fun w' => split_c1 w')
  have CS := hide C
  clear C
  go_enter Tryd.func35, Tryd.ntmps35
  go_wp2_with fail
  refine (unhide CS _).mono ?_
  rintro e w1 ⟨rfl, hb1⟩
  clear CS
  go_wp2
  refine at_world (fun W => Below w.heap.size w W ∧ BoxF W w1.heap.size (.bool true) (.int .u64 0) (.int .u64 0)) ⟨hb1.alloc hb1.size _, BoxF.new _ _ _ _⟩ ?_
  rintro W0 ⟨b0, x0⟩
  clear hb1
  generalize w1.heap.size = g at *
  have hK : ∀ w', Below W0.heap.size W0 w' → Below W0.heap.size W0 w' ∧ w'.cell? ⟨g, 0, none⟩ = some (.bool true) ∧ w'.cell? ⟨g, 1, none⟩ = some (.int .u64 0) ∧ w'.cell? ⟨g, 2, none⟩ = some (.int .u64 0) := fun w' h => ⟨h, (x0.all h).c0, (x0.all h).c1, (x0.all h).c2⟩
  have HK := hide hK
  have BB := hide b0; have X0 := hide x0
  clear hK x0 b0
  go_region_held3 (fun w' => Below W0.heap.size W0 w' ∧ w'.cell? ⟨g, 0, none⟩ = some (.bool true) ∧ w'.cell? ⟨g, 1, none⟩ = some (.int .u64 0) ∧ w'.cell? ⟨g, 2, none⟩ = some (.int .u64 0))
    (first | exact unhide HK _ (Below.refl _ _).drew | exact unhide HK _ (by assumption) | fail "NO KEEP")
    (first | (go_at_call 64; refine (unhide C0 _).mono ?_; rintro e wn ⟨rfl, hb1⟩; have hB : Below W0.heap.size W0 wn := Below.trans (And.left (by assumption)) (hb1.mono (Below.size (And.left (by assumption)))); clear hb1) | fail "NO ARM")
  go_wp2
  refine at_world (fun W => Below w.heap.size w W ∧ BoxF W g (.bool true) (.int .u64 0) (.int .u64 0)) ⟨(unhide BB).trans (Below.mono (And.left (by assumption)) (unhide BB).size), (unhide X0).all (And.left (by assumption))⟩ ?_
  clear HK BB X0 C0
  rintro W0 ⟨b0, x0⟩
  have hK : ∀ w', Below W0.heap.size W0 w' → Below W0.heap.size W0 w' ∧ w'.cell? ⟨g, 0, none⟩ = some (.bool true) ∧ w'.cell? ⟨g, 1, none⟩ = some (.int .u64 0) ∧ w'.cell? ⟨g, 2, none⟩ = some (.int .u64 0) := fun w' h => ⟨h, (x0.all h).c0, (x0.all h).c1, (x0.all h).c2⟩
  have HK := hide hK
  have BB := hide b0; have X0 := hide x0
  clear hK x0 b0
  go_region_held3 (fun w' => Below W0.heap.size W0 w' ∧ w'.cell? ⟨g, 0, none⟩ = some (.bool true) ∧ w'.cell? ⟨g, 1, none⟩ = some (.int .u64 0) ∧ w'.cell? ⟨g, 2, none⟩ = some (.int .u64 0))
    (first | exact unhide HK _ (Below.refl _ _).drew | exact unhide HK _ (by assumption) | fail "NO KEEP")
    (first | (go_at_call 64; refine (unhide C1 _).mono ?_; rintro e wn ⟨rfl, hb1⟩; have hB : Below W0.heap.size W0 wn := Below.trans (And.left (by assumption)) (hb1.mono (Below.size (And.left (by assumption)))); clear hb1) | fail "NO ARM")
  go_wp2
  go_ret
  exact ⟨rfl, (unhide BB).trans (Below.mono (And.left (by assumption)) (unhide BB).size)⟩

set_option maxHeartbeats 4000000 in
theorem kind_i1 (b : Nat) (w : World) (C : ∀ w', Calls Tryd.prog 64 #[.int .u64 b] w' fun e w'' => e = .returned (.agg #[.bool true, .int .u64 2047, .int .u64 0]) ∧ Below w'.heap.size w' w'')  :
    Calls Tryd.prog 35 #[.int .u64 b] w fun e w' => e = .returned (.int .i64 3) ∧ Below w.heap.size w w' := by
  have C0 := hide (fun w' => split_c0 w')
  have C1 := hide (fun w' => split_c1 w')
  have C2 := hide (fun w' => split_c2 w')
  have C3 := hide (fun w' => split_c3 w')
  have CS := hide C
  clear C
  go_enter Tryd.func35, Tryd.ntmps35
  go_wp2_with fail
  refine (unhide CS _).mono ?_
  rintro e w1 ⟨rfl, hb1⟩
  clear CS
  go_wp2
  refine at_world (fun W => Below w.heap.size w W ∧ BoxF W w1.heap.size (.bool true) (.int .u64 2047) (.int .u64 0)) ⟨hb1.alloc hb1.size _, BoxF.new _ _ _ _⟩ ?_
  rintro W0 ⟨b0, x0⟩
  clear hb1
  generalize w1.heap.size = g at *
  have hK : ∀ w', Below W0.heap.size W0 w' → Below W0.heap.size W0 w' ∧ w'.cell? ⟨g, 0, none⟩ = some (.bool true) ∧ w'.cell? ⟨g, 1, none⟩ = some (.int .u64 2047) ∧ w'.cell? ⟨g, 2, none⟩ = some (.int .u64 0) := fun w' h => ⟨h, (x0.all h).c0, (x0.all h).c1, (x0.all h).c2⟩
  have HK := hide hK
  have BB := hide b0; have X0 := hide x0
  clear hK x0 b0
  go_region_held3 (fun w' => Below W0.heap.size W0 w' ∧ w'.cell? ⟨g, 0, none⟩ = some (.bool true) ∧ w'.cell? ⟨g, 1, none⟩ = some (.int .u64 2047) ∧ w'.cell? ⟨g, 2, none⟩ = some (.int .u64 0))
    (first | exact unhide HK _ (Below.refl _ _).drew | exact unhide HK _ (by assumption) | fail "NO KEEP")
    (first | (go_at_call 64; refine (unhide C0 _).mono ?_; rintro e wn ⟨rfl, hb1⟩; have hB : Below W0.heap.size W0 wn := Below.trans (And.left (by assumption)) (hb1.mono (Below.size (And.left (by assumption)))); clear hb1) | fail "NO ARM")
  go_wp2
  refine at_world (fun W => Below w.heap.size w W ∧ BoxF W g (.bool true) (.int .u64 2047) (.int .u64 0)) ⟨(unhide BB).trans (Below.mono (And.left (by assumption)) (unhide BB).size), (unhide X0).all (And.left (by assumption))⟩ ?_
  clear HK BB X0 C0
  rintro W0 ⟨b0, x0⟩
  have hK : ∀ w', Below W0.heap.size W0 w' → Below W0.heap.size W0 w' ∧ w'.cell? ⟨g, 0, none⟩ = some (.bool true) ∧ w'.cell? ⟨g, 1, none⟩ = some (.int .u64 2047) ∧ w'.cell? ⟨g, 2, none⟩ = some (.int .u64 0) := fun w' h => ⟨h, (x0.all h).c0, (x0.all h).c1, (x0.all h).c2⟩
  have HK := hide hK
  have BB := hide b0; have X0 := hide x0
  clear hK x0 b0
  go_region_held3 (fun w' => Below W0.heap.size W0 w' ∧ w'.cell? ⟨g, 0, none⟩ = some (.bool true) ∧ w'.cell? ⟨g, 1, none⟩ = some (.int .u64 2047) ∧ w'.cell? ⟨g, 2, none⟩ = some (.int .u64 0))
    (first | exact unhide HK _ (Below.refl _ _).drew | exact unhide HK _ (by assumption) | fail "NO KEEP")
    (first | (go_at_call 64; refine (unhide C1 _).mono ?_; rintro e wn ⟨rfl, hb1⟩; have hB : Below W0.heap.size W0 wn := Below.trans (And.left (by assumption)) (hb1.mono (Below.size (And.left (by assumption)))); clear hb1) | fail "NO ARM")
  go_wp2
  refine at_world (fun W => Below w.heap.size w W ∧ BoxF W g (.bool true) (.int .u64 2047) (.int .u64 0)) ⟨(unhide BB).trans (Below.mono (And.left (by assumption)) (unhide BB).size), (unhide X0).all (And.left (by assumption))⟩ ?_
  clear HK BB X0 C1
  rintro W0 ⟨b0, x0⟩
  have hK : ∀ w', Below W0.heap.size W0 w' → Below W0.heap.size W0 w' ∧ w'.cell? ⟨g, 0, none⟩ = some (.bool true) ∧ w'.cell? ⟨g, 1, none⟩ = some (.int .u64 2047) ∧ w'.cell? ⟨g, 2, none⟩ = some (.int .u64 0) := fun w' h => ⟨h, (x0.all h).c0, (x0.all h).c1, (x0.all h).c2⟩
  have HK := hide hK
  have BB := hide b0; have X0 := hide x0
  clear hK x0 b0
  go_region_held3 (fun w' => Below W0.heap.size W0 w' ∧ w'.cell? ⟨g, 0, none⟩ = some (.bool true) ∧ w'.cell? ⟨g, 1, none⟩ = some (.int .u64 2047) ∧ w'.cell? ⟨g, 2, none⟩ = some (.int .u64 0))
    (first | exact unhide HK _ (Below.refl _ _).drew | exact unhide HK _ (by assumption) | fail "NO KEEP")
    (first | (go_at_call 64; refine (unhide C2 _).mono ?_; rintro e wn ⟨rfl, hb1⟩; have hB : Below W0.heap.size W0 wn := Below.trans (And.left (by assumption)) (hb1.mono (Below.size (And.left (by assumption)))); clear hb1) | fail "NO ARM")
  go_wp2
  refine at_world (fun W => Below w.heap.size w W ∧ BoxF W g (.bool true) (.int .u64 2047) (.int .u64 0)) ⟨(unhide BB).trans (Below.mono (And.left (by assumption)) (unhide BB).size), (unhide X0).all (And.left (by assumption))⟩ ?_
  clear HK BB X0 C2
  rintro W0 ⟨b0, x0⟩
  have hK : ∀ w', Below W0.heap.size W0 w' → Below W0.heap.size W0 w' ∧ w'.cell? ⟨g, 0, none⟩ = some (.bool true) ∧ w'.cell? ⟨g, 1, none⟩ = some (.int .u64 2047) ∧ w'.cell? ⟨g, 2, none⟩ = some (.int .u64 0) := fun w' h => ⟨h, (x0.all h).c0, (x0.all h).c1, (x0.all h).c2⟩
  have HK := hide hK
  have BB := hide b0; have X0 := hide x0
  clear hK x0 b0
  go_region_held3 (fun w' => Below W0.heap.size W0 w' ∧ w'.cell? ⟨g, 0, none⟩ = some (.bool true) ∧ w'.cell? ⟨g, 1, none⟩ = some (.int .u64 2047) ∧ w'.cell? ⟨g, 2, none⟩ = some (.int .u64 0))
    (first | exact unhide HK _ (Below.refl _ _).drew | exact unhide HK _ (by assumption) | fail "NO KEEP")
    (first | (go_at_call 64; refine (unhide C3 _).mono ?_; rintro e wn ⟨rfl, hb1⟩; have hB : Below W0.heap.size W0 wn := Below.trans (And.left (by assumption)) (hb1.mono (Below.size (And.left (by assumption)))); clear hb1) | fail "NO ARM")
  go_wp2
  go_ret
  exact ⟨rfl, (unhide BB).trans (Below.mono (And.left (by assumption)) (unhide BB).size)⟩

set_option maxHeartbeats 4000000 in
theorem kind_s1 (b : Nat) (f : Nat) (w : World) (C : ∀ w', Calls Tryd.prog 64 #[.int .u64 b] w' fun e w'' => e = .returned (.agg #[.bool true, .int .u64 0, .int .u64 f]) ∧ Below w'.heap.size w' w'') (hf : ((f : Int) == 0) = false) :
    Calls Tryd.prog 35 #[.int .u64 b] w fun e w' => e = .returned (.int .i64 1) ∧ Below w.heap.size w w' := by
  have C0 := hide (fun w' => split_c0 w')
  have C1 := hide (fun w' => split_c1 w')
  have C2 := hide (fun w' => split_c2 w')
  have C3 := hide (fun w' => split_c3 w')
  have CS := hide C
  clear C
  go_enter Tryd.func35, Tryd.ntmps35
  go_wp2_with fail
  refine (unhide CS _).mono ?_
  rintro e w1 ⟨rfl, hb1⟩
  clear CS
  go_wp2
  refine at_world (fun W => Below w.heap.size w W ∧ BoxF W w1.heap.size (.bool true) (.int .u64 0) (.int .u64 f)) ⟨hb1.alloc hb1.size _, BoxF.new _ _ _ _⟩ ?_
  rintro W0 ⟨b0, x0⟩
  clear hb1
  generalize w1.heap.size = g at *
  have hK : ∀ w', Below W0.heap.size W0 w' → Below W0.heap.size W0 w' ∧ w'.cell? ⟨g, 0, none⟩ = some (.bool true) ∧ w'.cell? ⟨g, 1, none⟩ = some (.int .u64 0) ∧ w'.cell? ⟨g, 2, none⟩ = some (.int .u64 f) := fun w' h => ⟨h, (x0.all h).c0, (x0.all h).c1, (x0.all h).c2⟩
  have HK := hide hK
  have BB := hide b0; have X0 := hide x0
  clear hK x0 b0
  go_region_held3 (fun w' => Below W0.heap.size W0 w' ∧ w'.cell? ⟨g, 0, none⟩ = some (.bool true) ∧ w'.cell? ⟨g, 1, none⟩ = some (.int .u64 0) ∧ w'.cell? ⟨g, 2, none⟩ = some (.int .u64 f))
    (first | exact unhide HK _ (Below.refl _ _).drew | exact unhide HK _ (by assumption) | fail "NO KEEP")
    (first | (go_at_call 64; refine (unhide C0 _).mono ?_; rintro e wn ⟨rfl, hb1⟩; have hB : Below W0.heap.size W0 wn := Below.trans (And.left (by assumption)) (hb1.mono (Below.size (And.left (by assumption)))); clear hb1) | fail "NO ARM")
  go_wp2
  refine at_world (fun W => Below w.heap.size w W ∧ BoxF W g (.bool true) (.int .u64 0) (.int .u64 f)) ⟨(unhide BB).trans (Below.mono (And.left (by assumption)) (unhide BB).size), (unhide X0).all (And.left (by assumption))⟩ ?_
  clear HK BB X0 C0
  rintro W0 ⟨b0, x0⟩
  have hK : ∀ w', Below W0.heap.size W0 w' → Below W0.heap.size W0 w' ∧ w'.cell? ⟨g, 0, none⟩ = some (.bool true) ∧ w'.cell? ⟨g, 1, none⟩ = some (.int .u64 0) ∧ w'.cell? ⟨g, 2, none⟩ = some (.int .u64 f) := fun w' h => ⟨h, (x0.all h).c0, (x0.all h).c1, (x0.all h).c2⟩
  have HK := hide hK
  have BB := hide b0; have X0 := hide x0
  clear hK x0 b0
  go_region_held3 (fun w' => Below W0.heap.size W0 w' ∧ w'.cell? ⟨g, 0, none⟩ = some (.bool true) ∧ w'.cell? ⟨g, 1, none⟩ = some (.int .u64 0) ∧ w'.cell? ⟨g, 2, none⟩ = some (.int .u64 f))
    (first | exact unhide HK _ (Below.refl _ _).drew | exact unhide HK _ (by assumption) | fail "NO KEEP")
    (first | (go_at_call 64; refine (unhide C1 _).mono ?_; rintro e wn ⟨rfl, hb1⟩; have hB : Below W0.heap.size W0 wn := Below.trans (And.left (by assumption)) (hb1.mono (Below.size (And.left (by assumption)))); clear hb1) | fail "NO ARM")
  go_wp2
  refine at_world (fun W => Below w.heap.size w W ∧ BoxF W g (.bool true) (.int .u64 0) (.int .u64 f)) ⟨(unhide BB).trans (Below.mono (And.left (by assumption)) (unhide BB).size), (unhide X0).all (And.left (by assumption))⟩ ?_
  clear HK BB X0 C1
  rintro W0 ⟨b0, x0⟩
  have hK : ∀ w', Below W0.heap.size W0 w' → Below W0.heap.size W0 w' ∧ w'.cell? ⟨g, 0, none⟩ = some (.bool true) ∧ w'.cell? ⟨g, 1, none⟩ = some (.int .u64 0) ∧ w'.cell? ⟨g, 2, none⟩ = some (.int .u64 f) := fun w' h => ⟨h, (x0.all h).c0, (x0.all h).c1, (x0.all h).c2⟩
  have HK := hide hK
  have BB := hide b0; have X0 := hide x0
  clear hK x0 b0
  go_region_held3 (fun w' => Below W0.heap.size W0 w' ∧ w'.cell? ⟨g, 0, none⟩ = some (.bool true) ∧ w'.cell? ⟨g, 1, none⟩ = some (.int .u64 0) ∧ w'.cell? ⟨g, 2, none⟩ = some (.int .u64 f))
    (first | exact unhide HK _ (Below.refl _ _).drew | exact unhide HK _ (by assumption) | fail "NO KEEP")
    (first | (go_at_call 64; refine (unhide C2 _).mono ?_; rintro e wn ⟨rfl, hb1⟩; have hB : Below W0.heap.size W0 wn := Below.trans (And.left (by assumption)) (hb1.mono (Below.size (And.left (by assumption)))); clear hb1) | fail "NO ARM")
  go_wp2
  refine at_world (fun W => Below w.heap.size w W ∧ BoxF W g (.bool true) (.int .u64 0) (.int .u64 f)) ⟨(unhide BB).trans (Below.mono (And.left (by assumption)) (unhide BB).size), (unhide X0).all (And.left (by assumption))⟩ ?_
  clear HK BB X0 C2
  rintro W0 ⟨b0, x0⟩
  have hK : ∀ w', Below W0.heap.size W0 w' → Below W0.heap.size W0 w' ∧ w'.cell? ⟨g, 0, none⟩ = some (.bool true) ∧ w'.cell? ⟨g, 1, none⟩ = some (.int .u64 0) ∧ w'.cell? ⟨g, 2, none⟩ = some (.int .u64 f) := fun w' h => ⟨h, (x0.all h).c0, (x0.all h).c1, (x0.all h).c2⟩
  have HK := hide hK
  have BB := hide b0; have X0 := hide x0
  clear hK x0 b0
  go_region_held3 (fun w' => Below W0.heap.size W0 w' ∧ w'.cell? ⟨g, 0, none⟩ = some (.bool true) ∧ w'.cell? ⟨g, 1, none⟩ = some (.int .u64 0) ∧ w'.cell? ⟨g, 2, none⟩ = some (.int .u64 f))
    (first | exact unhide HK _ (Below.refl _ _).drew | exact unhide HK _ (by assumption) | fail "NO KEEP")
    (first | (go_at_call 64; refine (unhide C3 _).mono ?_; rintro e wn ⟨rfl, hb1⟩; have hB : Below W0.heap.size W0 wn := Below.trans (And.left (by assumption)) (hb1.mono (Below.size (And.left (by assumption)))); clear hb1) | fail "NO ARM")
  go_wp2
  go_ret
  exact ⟨rfl, (unhide BB).trans (Below.mono (And.left (by assumption)) (unhide BB).size)⟩

set_option maxHeartbeats 4000000 in
theorem kind_n1 (b : Nat) (f : Nat) (w : World) (C : ∀ w', Calls Tryd.prog 64 #[.int .u64 b] w' fun e w'' => e = .returned (.agg #[.bool true, .int .u64 2047, .int .u64 f]) ∧ Below w'.heap.size w' w'') (hf : ((f : Int) == 0) = false) :
    Calls Tryd.prog 35 #[.int .u64 b] w fun e w' => e = .returned (.int .i64 4) ∧ Below w.heap.size w w' := by
  have C0 := hide (fun w' => split_c0 w')
  have C1 := hide (fun w' => split_c1 w')
  have C2 := hide (fun w' => split_c2 w')
  have C3 := hide (fun w' => split_c3 w')
  have CS := hide C
  clear C
  go_enter Tryd.func35, Tryd.ntmps35
  go_wp2_with fail
  refine (unhide CS _).mono ?_
  rintro e w1 ⟨rfl, hb1⟩
  clear CS
  go_wp2
  refine at_world (fun W => Below w.heap.size w W ∧ BoxF W w1.heap.size (.bool true) (.int .u64 2047) (.int .u64 f)) ⟨hb1.alloc hb1.size _, BoxF.new _ _ _ _⟩ ?_
  rintro W0 ⟨b0, x0⟩
  clear hb1
  generalize w1.heap.size = g at *
  have hK : ∀ w', Below W0.heap.size W0 w' → Below W0.heap.size W0 w' ∧ w'.cell? ⟨g, 0, none⟩ = some (.bool true) ∧ w'.cell? ⟨g, 1, none⟩ = some (.int .u64 2047) ∧ w'.cell? ⟨g, 2, none⟩ = some (.int .u64 f) := fun w' h => ⟨h, (x0.all h).c0, (x0.all h).c1, (x0.all h).c2⟩
  have HK := hide hK
  have BB := hide b0; have X0 := hide x0
  clear hK x0 b0
  go_region_held3 (fun w' => Below W0.heap.size W0 w' ∧ w'.cell? ⟨g, 0, none⟩ = some (.bool true) ∧ w'.cell? ⟨g, 1, none⟩ = some (.int .u64 2047) ∧ w'.cell? ⟨g, 2, none⟩ = some (.int .u64 f))
    (first | exact unhide HK _ (Below.refl _ _).drew | exact unhide HK _ (by assumption) | fail "NO KEEP")
    (first | (go_at_call 64; refine (unhide C0 _).mono ?_; rintro e wn ⟨rfl, hb1⟩; have hB : Below W0.heap.size W0 wn := Below.trans (And.left (by assumption)) (hb1.mono (Below.size (And.left (by assumption)))); clear hb1) | fail "NO ARM")
  go_wp2
  refine at_world (fun W => Below w.heap.size w W ∧ BoxF W g (.bool true) (.int .u64 2047) (.int .u64 f)) ⟨(unhide BB).trans (Below.mono (And.left (by assumption)) (unhide BB).size), (unhide X0).all (And.left (by assumption))⟩ ?_
  clear HK BB X0 C0
  rintro W0 ⟨b0, x0⟩
  have hK : ∀ w', Below W0.heap.size W0 w' → Below W0.heap.size W0 w' ∧ w'.cell? ⟨g, 0, none⟩ = some (.bool true) ∧ w'.cell? ⟨g, 1, none⟩ = some (.int .u64 2047) ∧ w'.cell? ⟨g, 2, none⟩ = some (.int .u64 f) := fun w' h => ⟨h, (x0.all h).c0, (x0.all h).c1, (x0.all h).c2⟩
  have HK := hide hK
  have BB := hide b0; have X0 := hide x0
  clear hK x0 b0
  go_region_held3 (fun w' => Below W0.heap.size W0 w' ∧ w'.cell? ⟨g, 0, none⟩ = some (.bool true) ∧ w'.cell? ⟨g, 1, none⟩ = some (.int .u64 2047) ∧ w'.cell? ⟨g, 2, none⟩ = some (.int .u64 f))
    (first | exact unhide HK _ (Below.refl _ _).drew | exact unhide HK _ (by assumption) | fail "NO KEEP")
    (first | (go_at_call 64; refine (unhide C1 _).mono ?_; rintro e wn ⟨rfl, hb1⟩; have hB : Below W0.heap.size W0 wn := Below.trans (And.left (by assumption)) (hb1.mono (Below.size (And.left (by assumption)))); clear hb1) | fail "NO ARM")
  go_wp2
  refine at_world (fun W => Below w.heap.size w W ∧ BoxF W g (.bool true) (.int .u64 2047) (.int .u64 f)) ⟨(unhide BB).trans (Below.mono (And.left (by assumption)) (unhide BB).size), (unhide X0).all (And.left (by assumption))⟩ ?_
  clear HK BB X0 C1
  rintro W0 ⟨b0, x0⟩
  have hK : ∀ w', Below W0.heap.size W0 w' → Below W0.heap.size W0 w' ∧ w'.cell? ⟨g, 0, none⟩ = some (.bool true) ∧ w'.cell? ⟨g, 1, none⟩ = some (.int .u64 2047) ∧ w'.cell? ⟨g, 2, none⟩ = some (.int .u64 f) := fun w' h => ⟨h, (x0.all h).c0, (x0.all h).c1, (x0.all h).c2⟩
  have HK := hide hK
  have BB := hide b0; have X0 := hide x0
  clear hK x0 b0
  go_region_held3 (fun w' => Below W0.heap.size W0 w' ∧ w'.cell? ⟨g, 0, none⟩ = some (.bool true) ∧ w'.cell? ⟨g, 1, none⟩ = some (.int .u64 2047) ∧ w'.cell? ⟨g, 2, none⟩ = some (.int .u64 f))
    (first | exact unhide HK _ (Below.refl _ _).drew | exact unhide HK _ (by assumption) | fail "NO KEEP")
    (first | (go_at_call 64; refine (unhide C2 _).mono ?_; rintro e wn ⟨rfl, hb1⟩; have hB : Below W0.heap.size W0 wn := Below.trans (And.left (by assumption)) (hb1.mono (Below.size (And.left (by assumption)))); clear hb1) | fail "NO ARM")
  go_wp2
  refine at_world (fun W => Below w.heap.size w W ∧ BoxF W g (.bool true) (.int .u64 2047) (.int .u64 f)) ⟨(unhide BB).trans (Below.mono (And.left (by assumption)) (unhide BB).size), (unhide X0).all (And.left (by assumption))⟩ ?_
  clear HK BB X0 C2
  rintro W0 ⟨b0, x0⟩
  have hK : ∀ w', Below W0.heap.size W0 w' → Below W0.heap.size W0 w' ∧ w'.cell? ⟨g, 0, none⟩ = some (.bool true) ∧ w'.cell? ⟨g, 1, none⟩ = some (.int .u64 2047) ∧ w'.cell? ⟨g, 2, none⟩ = some (.int .u64 f) := fun w' h => ⟨h, (x0.all h).c0, (x0.all h).c1, (x0.all h).c2⟩
  have HK := hide hK
  have BB := hide b0; have X0 := hide x0
  clear hK x0 b0
  go_region_held3 (fun w' => Below W0.heap.size W0 w' ∧ w'.cell? ⟨g, 0, none⟩ = some (.bool true) ∧ w'.cell? ⟨g, 1, none⟩ = some (.int .u64 2047) ∧ w'.cell? ⟨g, 2, none⟩ = some (.int .u64 f))
    (first | exact unhide HK _ (Below.refl _ _).drew | exact unhide HK _ (by assumption) | fail "NO KEEP")
    (first | (go_at_call 64; refine (unhide C3 _).mono ?_; rintro e wn ⟨rfl, hb1⟩; have hB : Below W0.heap.size W0 wn := Below.trans (And.left (by assumption)) (hb1.mono (Below.size (And.left (by assumption)))); clear hb1) | fail "NO ARM")
  go_wp2
  go_ret
  exact ⟨rfl, (unhide BB).trans (Below.mono (And.left (by assumption)) (unhide BB).size)⟩

set_option maxHeartbeats 4000000 in
theorem kind_o1 (b : Nat) (p : Nat) (f : Nat) (w : World) (C : ∀ w', Calls Tryd.prog 64 #[.int .u64 b] w' fun e w'' => e = .returned (.agg #[.bool true, .int .u64 p, .int .u64 f]) ∧ Below w'.heap.size w' w'') (hp : ((p : Int) == 0) = false) (hq : ((p : Int) == 2047) = false) :
    Calls Tryd.prog 35 #[.int .u64 b] w fun e w' => e = .returned (.int .i64 2) ∧ Below w.heap.size w w' := by
  have C0 := hide (fun w' => split_c0 w')
  have C1 := hide (fun w' => split_c1 w')
  have C2 := hide (fun w' => split_c2 w')
  have C3 := hide (fun w' => split_c3 w')
  have CS := hide C
  clear C
  go_enter Tryd.func35, Tryd.ntmps35
  go_wp2_with fail
  refine (unhide CS _).mono ?_
  rintro e w1 ⟨rfl, hb1⟩
  clear CS
  go_wp2
  refine at_world (fun W => Below w.heap.size w W ∧ BoxF W w1.heap.size (.bool true) (.int .u64 p) (.int .u64 f)) ⟨hb1.alloc hb1.size _, BoxF.new _ _ _ _⟩ ?_
  rintro W0 ⟨b0, x0⟩
  clear hb1
  generalize w1.heap.size = g at *
  have hK : ∀ w', Below W0.heap.size W0 w' → Below W0.heap.size W0 w' ∧ w'.cell? ⟨g, 0, none⟩ = some (.bool true) ∧ w'.cell? ⟨g, 1, none⟩ = some (.int .u64 p) ∧ w'.cell? ⟨g, 2, none⟩ = some (.int .u64 f) := fun w' h => ⟨h, (x0.all h).c0, (x0.all h).c1, (x0.all h).c2⟩
  have HK := hide hK
  have BB := hide b0; have X0 := hide x0
  clear hK x0 b0
  go_region_held3 (fun w' => Below W0.heap.size W0 w' ∧ w'.cell? ⟨g, 0, none⟩ = some (.bool true) ∧ w'.cell? ⟨g, 1, none⟩ = some (.int .u64 p) ∧ w'.cell? ⟨g, 2, none⟩ = some (.int .u64 f))
    (first | exact unhide HK _ (Below.refl _ _).drew | exact unhide HK _ (by assumption) | fail "NO KEEP")
    (first | (go_at_call 64; refine (unhide C0 _).mono ?_; rintro e wn ⟨rfl, hb1⟩; have hB : Below W0.heap.size W0 wn := Below.trans (And.left (by assumption)) (hb1.mono (Below.size (And.left (by assumption)))); clear hb1) | fail "NO ARM")
  go_wp2
  refine at_world (fun W => Below w.heap.size w W ∧ BoxF W g (.bool true) (.int .u64 p) (.int .u64 f)) ⟨(unhide BB).trans (Below.mono (And.left (by assumption)) (unhide BB).size), (unhide X0).all (And.left (by assumption))⟩ ?_
  clear HK BB X0 C0
  rintro W0 ⟨b0, x0⟩
  have hK : ∀ w', Below W0.heap.size W0 w' → Below W0.heap.size W0 w' ∧ w'.cell? ⟨g, 0, none⟩ = some (.bool true) ∧ w'.cell? ⟨g, 1, none⟩ = some (.int .u64 p) ∧ w'.cell? ⟨g, 2, none⟩ = some (.int .u64 f) := fun w' h => ⟨h, (x0.all h).c0, (x0.all h).c1, (x0.all h).c2⟩
  have HK := hide hK
  have BB := hide b0; have X0 := hide x0
  clear hK x0 b0
  go_region_held3 (fun w' => Below W0.heap.size W0 w' ∧ w'.cell? ⟨g, 0, none⟩ = some (.bool true) ∧ w'.cell? ⟨g, 1, none⟩ = some (.int .u64 p) ∧ w'.cell? ⟨g, 2, none⟩ = some (.int .u64 f))
    (first | exact unhide HK _ (Below.refl _ _).drew | exact unhide HK _ (by assumption) | fail "NO KEEP")
    (first | (go_at_call 64; refine (unhide C1 _).mono ?_; rintro e wn ⟨rfl, hb1⟩; have hB : Below W0.heap.size W0 wn := Below.trans (And.left (by assumption)) (hb1.mono (Below.size (And.left (by assumption)))); clear hb1) | fail "NO ARM")
  go_wp2
  refine at_world (fun W => Below w.heap.size w W ∧ BoxF W g (.bool true) (.int .u64 p) (.int .u64 f)) ⟨(unhide BB).trans (Below.mono (And.left (by assumption)) (unhide BB).size), (unhide X0).all (And.left (by assumption))⟩ ?_
  clear HK BB X0 C1
  rintro W0 ⟨b0, x0⟩
  have hK : ∀ w', Below W0.heap.size W0 w' → Below W0.heap.size W0 w' ∧ w'.cell? ⟨g, 0, none⟩ = some (.bool true) ∧ w'.cell? ⟨g, 1, none⟩ = some (.int .u64 p) ∧ w'.cell? ⟨g, 2, none⟩ = some (.int .u64 f) := fun w' h => ⟨h, (x0.all h).c0, (x0.all h).c1, (x0.all h).c2⟩
  have HK := hide hK
  have BB := hide b0; have X0 := hide x0
  clear hK x0 b0
  go_region_held3 (fun w' => Below W0.heap.size W0 w' ∧ w'.cell? ⟨g, 0, none⟩ = some (.bool true) ∧ w'.cell? ⟨g, 1, none⟩ = some (.int .u64 p) ∧ w'.cell? ⟨g, 2, none⟩ = some (.int .u64 f))
    (first | exact unhide HK _ (Below.refl _ _).drew | exact unhide HK _ (by assumption) | fail "NO KEEP")
    (first | (go_at_call 64; refine (unhide C2 _).mono ?_; rintro e wn ⟨rfl, hb1⟩; have hB : Below W0.heap.size W0 wn := Below.trans (And.left (by assumption)) (hb1.mono (Below.size (And.left (by assumption)))); clear hb1) | fail "NO ARM")
  go_wp2
  refine at_world (fun W => Below w.heap.size w W ∧ BoxF W g (.bool true) (.int .u64 p) (.int .u64 f)) ⟨(unhide BB).trans (Below.mono (And.left (by assumption)) (unhide BB).size), (unhide X0).all (And.left (by assumption))⟩ ?_
  clear HK BB X0 C2
  rintro W0 ⟨b0, x0⟩
  have hK : ∀ w', Below W0.heap.size W0 w' → Below W0.heap.size W0 w' ∧ w'.cell? ⟨g, 0, none⟩ = some (.bool true) ∧ w'.cell? ⟨g, 1, none⟩ = some (.int .u64 p) ∧ w'.cell? ⟨g, 2, none⟩ = some (.int .u64 f) := fun w' h => ⟨h, (x0.all h).c0, (x0.all h).c1, (x0.all h).c2⟩
  have HK := hide hK
  have BB := hide b0; have X0 := hide x0
  clear hK x0 b0
  go_region_held3 (fun w' => Below W0.heap.size W0 w' ∧ w'.cell? ⟨g, 0, none⟩ = some (.bool true) ∧ w'.cell? ⟨g, 1, none⟩ = some (.int .u64 p) ∧ w'.cell? ⟨g, 2, none⟩ = some (.int .u64 f))
    (first | exact unhide HK _ (Below.refl _ _).drew | exact unhide HK _ (by assumption) | fail "NO KEEP")
    (first | (go_at_call 64; refine (unhide C3 _).mono ?_; rintro e wn ⟨rfl, hb1⟩; have hB : Below W0.heap.size W0 wn := Below.trans (And.left (by assumption)) (hb1.mono (Below.size (And.left (by assumption)))); clear hb1) | fail "NO ARM")
  go_wp2
  go_ret
  exact ⟨rfl, (unhide BB).trans (Below.mono (And.left (by assumption)) (unhide BB).size)⟩

end Go.Proofs.YtpaikdlhkdgkpaaDoor

/- Contracts of soft's Kind, Finite; of the reference's Kind, Finite, Minus. -/
namespace Go.Proofs.YtpaikdlhkdgkpaaDoor
open Go.RowKit

theorem kind_any (b : Nat) (w : World) (h : b < 18446744073709551616) :
    Calls Tryd.prog 35 #[.int .u64 b] w fun e w' => e = .returned (.int .i64 (fK b)) ∧ Below w.heap.size w w' := by
  have C := fun w' => split_any b w' h
  unfold fV at C
  unfold fK
  generalize fF b = f at *
  generalize fP b = p at *
  generalize fS b = s at *
  by_cases h1 : p = 2047
  · subst h1
    rw [if_pos rfl]
    by_cases h2 : f = 0
    · subst h2
      rw [if_pos rfl]
      cases s
      · exact kind_i0 b w C
      · exact kind_i1 b w C
    · rw [if_neg h2]
      have hf : ((f : Int) == 0) = false := by simp; omega
      cases s
      · exact kind_n0 b f w C hf
      · exact kind_n1 b f w C hf
  · rw [if_neg h1]
    by_cases h2 : p = 0
    · subst h2
      rw [if_pos rfl]
      by_cases h3 : f = 0
      · subst h3
        rw [if_pos rfl]
        cases s
        · exact kind_z0 b w C
        · exact kind_z1 b w C
      · rw [if_neg h3]
        have hf : ((f : Int) == 0) = false := by simp; omega
        cases s
        · exact kind_s0 b f w C hf
        · exact kind_s1 b f w C hf
    · rw [if_neg h2]
      have hp : ((p : Int) == 0) = false := by simp; omega
      have hq : ((p : Int) == 2047) = false := by simp; omega
      cases s
      · exact kind_o0 b p f w C hp hq
      · exact kind_o1 b p f w C hp hq

/-- Is it finite? -/
def fFin (b : Nat) : Bool := decide (fP b ≠ 2047)

theorem fK_cases (b : Nat) : (fFin b = false ∧ (fK b = 3 ∨ fK b = 4)) ∨ (fFin b = true ∧ (fK b = 0 ∨ fK b = 1 ∨ fK b = 2)) := by
  unfold fK fFin
  by_cases h1 : fP b = 2047
  · left
    refine ⟨by simp [h1], ?_⟩
    rw [if_pos h1]
    split <;> simp
  · right
    refine ⟨by simp [h1], ?_⟩
    rw [if_neg h1]
    split
    · split <;> simp
    · simp

set_option maxHeartbeats 1000000 in
theorem sfinite_any (b : Nat) (w : World) (h : b < 18446744073709551616) :
    Calls Tryd.prog 89 #[.int .u64 b] w fun e w' => e = .returned (.bool (fFin b)) ∧ Below w.heap.size w w' := by
  have CK := hide (fun w' => kind_any b w' h)
  have hc := fK_cases b
  generalize fFin b = q at *
  generalize fK b = k at *
  rcases hc with ⟨rfl, rfl | rfl⟩ | ⟨rfl, rfl | rfl | rfl⟩
  all_goals
    clear h
    go_enter Tryd.func89, Tryd.ntmps89
    go_wp2_with (go_at_call 35; refine (unhide CK _).mono ?_; rintro e w2 ⟨rfl, hb1⟩)
    go_ret
    exact ⟨rfl, hb1⟩

set_option maxHeartbeats 1000000 in
theorem rfinite_any (b : Nat) (w : World) (h : b < 18446744073709551616) :
    Calls Tryd.prog 32 #[.int .u64 b] w fun e w' => e = .returned (.bool (fFin b)) ∧ w = w' := by
  have CK := hide (fun w' => rpower_any b w' h)
  have hl := fP_lt b
  unfold fFin
  generalize fP b = k at *
  clear h
  by_cases h1 : k = 2047
  · subst h1
    go_enter Tryd.func32, Tryd.ntmps32
    go_wp2_with (go_at_call 34; refine (unhide CK _).mono ?_; rintro e w2 ⟨rfl, rfl⟩)
    go_ret
    exact ⟨rfl, rfl⟩
  · rw [decide_eq_true h1]
    have hk : (k : Int) < 2047 := by omega
    clear h1 hl
    go_enter Tryd.func32, Tryd.ntmps32
    go_wp2_with (go_at_call 34; refine (unhide CK _).mono ?_; rintro e w2 ⟨rfl, rfl⟩)
    go_ret
    exact ⟨rfl, rfl⟩

set_option maxHeartbeats 2000000 in
theorem rkind_any (b : Nat) (w : World) (h : b < 18446744073709551616) :
    Calls Tryd.prog 33 #[.int .u64 b] w fun e w' => e = .returned (.int .i64 (fK b)) ∧ w = w' := by
  have CP := hide (fun w' => rpower_any b w' h)
  have CF := hide (fun w' => rfrac_any b w' h)
  unfold fK
  generalize fF b = f at *
  generalize fP b = p at *
  clear h
  by_cases h1 : p = 2047
  · subst h1
    rw [if_pos rfl]
    by_cases h2 : f = 0
    · subst h2
      rw [if_pos rfl]
      go_enter Tryd.func33, Tryd.ntmps33
      go_wp2_with (first | (go_at_call 34; refine (unhide CP _).mono ?_; rintro e w2 ⟨rfl, rfl⟩) | (go_at_call 63; refine (unhide CF _).mono ?_; rintro e w3 ⟨rfl, rfl⟩))
      go_ret
      exact ⟨rfl, rfl⟩
    · rw [if_neg h2]
      have hf : ((f : Int) == 0) = false := by simp; omega
      clear h2
      go_enter Tryd.func33, Tryd.ntmps33
      go_wp2_with (first | (go_at_call 34; refine (unhide CP _).mono ?_; rintro e w2 ⟨rfl, rfl⟩) | (go_at_call 63; refine (unhide CF _).mono ?_; rintro e w3 ⟨rfl, rfl⟩))
      go_ret
      exact ⟨rfl, rfl⟩
  · rw [if_neg h1]
    have hp1 : ((p : Int) == 2047) = false := by simp; omega
    clear h1
    by_cases h2 : p = 0
    · subst h2
      rw [if_pos rfl]
      by_cases h3 : f = 0
      · subst h3
        rw [if_pos rfl]
        go_enter Tryd.func33, Tryd.ntmps33
        go_wp2_with (first | (go_at_call 34; refine (unhide CP _).mono ?_; rintro e w2 ⟨rfl, rfl⟩) | (go_at_call 63; refine (unhide CF _).mono ?_; rintro e w3 ⟨rfl, rfl⟩))
        go_ret
        exact ⟨rfl, rfl⟩
      · rw [if_neg h3]
        have hf : decide ((0 : Int) < (f : Int)) = true := decide_eq_true (by omega)
        have hf2 : (0 : Int) < (f : Int) := by omega
        clear h3
        go_enter Tryd.func33, Tryd.ntmps33
        go_wp2_with (first | (go_at_call 34; refine (unhide CP _).mono ?_; rintro e w2 ⟨rfl, rfl⟩) | (go_at_call 63; refine (unhide CF _).mono ?_; rintro e w3 ⟨rfl, rfl⟩))
        go_ret
        exact ⟨rfl, rfl⟩
    · rw [if_neg h2]
      have hf : decide ((0 : Int) < (p : Int)) = true := decide_eq_true (by omega)
      have hf2 : (0 : Int) < (p : Int) := by omega
      clear h2
      go_enter Tryd.func33, Tryd.ntmps33
      go_wp2_with (first | (go_at_call 34; refine (unhide CP _).mono ?_; rintro e w2 ⟨rfl, rfl⟩) | (go_at_call 63; refine (unhide CF _).mono ?_; rintro e w3 ⟨rfl, rfl⟩))
      go_ret
      exact ⟨rfl, rfl⟩

set_option maxHeartbeats 1000000 in
theorem rminus4_any (b : Nat) (w : World) (h : b < 18446744073709551616) :
    Calls Tryd.prog 45 #[.int .u64 b] w fun e w' => e = .returned (.int .u64 (fN b)) ∧ w = w' := by
  have CK := hide (fun w' => rneg4_any b w' h)
  by_cases hb : 9223372036854775808 ≤ b
  · have hs : fS b = true := decide_eq_true hb
    rw [hs] at CK
    have hw : ((b : Int) - 9223372036854775808) % 18446744073709551616 = (fN b : Int) := by unfold fN; rw [if_pos hb]; omega
    generalize fN b = q at *
    clear hb h hs
    go_enter Tryd.func45, Tryd.ntmps45
    go_wp2_with (go_at_call 44; refine (unhide CK _).mono ?_; rintro e w2 ⟨rfl, rfl⟩)
    go_ret
    exact ⟨ret_int hw, rfl⟩
  · have hs : fS b = false := decide_eq_false hb
    rw [hs] at CK
    have hw : ((b : Int) + 9223372036854775808) % 18446744073709551616 = (fN b : Int) := by unfold fN; rw [if_neg hb]; omega
    generalize fN b = q at *
    clear hb h hs
    go_enter Tryd.func45, Tryd.ntmps45
    go_wp2_with (go_at_call 44; refine (unhide CK _).mono ?_; rintro e w2 ⟨rfl, rfl⟩)
    go_ret
    exact ⟨ret_int hw, rfl⟩

end Go.Proofs.YtpaikdlhkdgkpaaDoor

/- Contracts of what only reads: trim, Same, compareLimbs, More. -/
namespace Go.Proofs.YtpaikdlhkdgkpaaDoor
open Go.RowKit

theorem quiet_eq {P : Program} {f : FuncId} {args : Array Value} {w : World} {n : Nat} {v : Value}
    (h : Calls P f args (w.drewN n) fun e w' => e = .returned v ∧ w.drewN n = w') : Calls P f args (w.drewN n) fun e w'' => e = .returned v ∧ ∃ m, w'' = w.drewN m :=
  h.mono fun _ _ ⟨he, hm⟩ => ⟨he, n, hm.symm⟩

/-- What trim answers: a beginning of L, with no 0 on top, of the same value. -/
def Trimmed (ao : Option Addr) (cap : Nat) (L : List Nat) (v : Value) : Prop :=
  ∃ ao' cap' L', v = .slice ao' L'.length cap' ∧ Canon L' ∧ val L' = val L ∧ L'.length ≤ L.length ∧ (∀ w, LimbsAt w ao cap L → LimbsAt w ao' cap' L') ∧ (∀ B, NewAt B ao L → NewAt B ao' L')

theorem NewAt.take {B : Nat} {ao : Option Addr} {L : List Nat} (h : NewAt B ao L) (n : Nat) : NewAt B ao (L.take n) := by
  rcases h with h | h
  · left; simp [h]
  · exact .inr h

set_option maxHeartbeats 400000 in
theorem trim_any (ao : Option Addr) (cap : Nat) (L : List Nat) (w : World) (h : LimbsAt w ao cap L) (hl : L.length ≤ 35184372088832) :
    Calls Tryd.prog 84 #[.slice ao L.length cap] w fun e w' => ∃ v, e = .returned v ∧ Trimmed ao cap L v ∧ w = w' := by
  have key : ∀ k, k < L.length → val (L.take (L.length - k)) = val L → L[L.length - k - 1]?.getD 0 ≠ 0 → Trimmed ao cap L (.slice ao (L.length - k) cap) := by
    intro k hk hv hx
    refine ⟨ao, cap, L.take (L.length - k), ?_, ?_, hv, by simp, fun w h => h.take _, fun B h => h.take _⟩
    · rw [List.length_take, Nat.min_eq_left (by omega)]
    · right
      rw [List.length_take, Nat.min_eq_left (by omega), List.getElem?_take, if_pos (by omega)]
      exact hx
  have key0 : val (L.take 0) = val L → Trimmed ao cap L (.slice none 0 0) := by
    intro hv
    exact ⟨none, 0, [], rfl, .inl rfl, by simpa using hv, by simp, fun _ _ => LimbsAt.nil _ _ _, fun _ _ => .inl rfl⟩
  have K := hide key
  have K0 := hide key0
  clear key key0
  rcases h.2.2 with h0 | ⟨b, off, rfl, hb, hc⟩
  · subst h0
    clear K
    go_enter Tryd.func84, Tryd.ntmps84
    go_wp2
    refine wp_loop_rounds 1 ?_
    rw [rounds_succ]
    go_wp2
    go_ret
    exact ⟨_, rfl, unhide K0 rfl, rfl⟩
  · have hcap := h.1
    go_enter Tryd.func84, Tryd.ntmps84
    go_wp2
    go_loop [7] (fun i => ∃ k : Nat, k ≤ L.length ∧ i = .int .i64 k ∧ Hid (val (L.take (L.length - k)) = val L)) (fun i => L.length - (intOf i).toNat)
    case atStart => exact ⟨0, Nat.zero_le _, rfl, by unfold Hid; simp⟩
    case round =>
      obtain ⟨k, hk, rfl, hv⟩ := hrel
      by_cases hlt : k < L.length
      · have hc1 := hc (L.length - k - 1) (by omega)
        clear hc
        by_cases hx0 : L[L.length - k - 1]?.getD 0 = 0
        · have hp := val_take_pred L (L.length - k) hx0
          have hp' : Hid (val (L.take (L.length - (k + 1))) = val L) := by
            unfold Hid; rw [show L.length - (k + 1) = L.length - k - 1 by omega, hp]; exact hv.out
          rw [hx0] at hc1
          clear hx0 hp hv K K0 h
          go_wp2
          go_round
          case rel => exact ⟨k + 1, by omega, by go_num, hp'⟩
          case measure => simp [intOf]; omega
        · have hT := unhide K k hlt hv.out hx0
          have HT := hide hT
          clear hT K K0 h hv
          have hx1 : (((L[L.length - k - 1]?.getD 0 : Nat) : Int) != 0) = true := by rw [bne_iff_ne]; omega
          generalize L[L.length - k - 1]?.getD 0 = x at *
          generalize hn : L.length = n at *
          clear hn
          go_wp2
          go_ret
          exact ⟨_, rfl, unhide HT, rfl⟩
      · have hT := unhide K0 (by rw [← hv.out, show L.length - k = 0 by omega])
        have HT := hide hT
        clear hT K K0 h hv hc
        go_wp2
        go_ret
        exact ⟨_, rfl, unhide HT, rfl⟩

end Go.Proofs.YtpaikdlhkdgkpaaDoor

/- Contracts of what compares: Same, compareLimbs, More. -/
namespace Go.Proofs.YtpaikdlhkdgkpaaDoor
open Go.RowKit

theorem LimbsAt.ne {w : World} {ao : Option Addr} {cap : Nat} {L : List Nat} (h : LimbsAt w ao cap L) (h0 : 0 < L.length) : ∃ b off, ao = some ⟨b, off, none⟩ ∧ b < w.heap.size ∧ ∀ i, i < L.length → w.cell? ⟨b, off + i, none⟩ = some (.int .u32 ((L[i]?.getD 0 : Nat) : Int)) := by
  rcases h.2.2 with e | h
  · subst e; simp at h0
  · exact h

/-- Same says whether signs and limbs are the same. -/
def sameB (na : Bool) (A : List Nat) (nb : Bool) (B : List Nat) : Bool := decide (na = nb ∧ A = B)

theorem sameB_no {na nb : Bool} {A B : List Nat} (k : Nat) (h : A[k]?.getD 0 ≠ B[k]?.getD 0) : sameB na A nb B = false := by
  simp only [sameB, decide_eq_false_iff_not]
  rintro ⟨_, rfl⟩
  exact h rfl

theorem list_ext_getD (A B : List Nat) (hl : A.length = B.length) (h : ∀ j, j < A.length → A[j]?.getD 0 = B[j]?.getD 0) : A = B := by
  refine List.ext_getElem hl fun i h1 h2 => ?_
  have := h i h1
  rw [List.getElem?_eq_getElem h1, List.getElem?_eq_getElem h2] at this
  exact this

set_option maxHeartbeats 400000 in
theorem same_any (na nb : Bool) (ao bo : Option Addr) (ca cb : Nat) (A B : List Nat) (w : World) (hA : LimbsAt w ao ca A) (hB : LimbsAt w bo cb B) (la : A.length ≤ 35184372088832) (lb : B.length ≤ 35184372088832) :
    Calls Tryd.prog 28 #[.agg #[.bool na, .slice ao A.length ca], .agg #[.bool nb, .slice bo B.length cb]] w fun e w' => e = .returned (.bool (sameB na A nb B)) ∧ Below w.heap.size w w' := by
  by_cases hn : na ≠ nb
  · have HE := hide (show sameB na A nb B = false by simp [sameB, hn])
    generalize sameB na A nb B = s at *
    have hne : (na != nb) = true := by rw [bne_iff_ne]; exact hn
    go_enter Tryd.func28, Tryd.ntmps28
    go_wp2
    go_ret
    exact ⟨ret_bool (unhide HE).symm, ((Below.refl _ _).alloc (Nat.le_refl _) _).alloc (by simp) _⟩
  have hn : na = nb := Decidable.byContradiction hn
  by_cases hl : A.length ≠ B.length
  · have HE := hide (show sameB na A nb B = false by simp [sameB]; rintro _ rfl; exact hl rfl)
    generalize sameB na A nb B = s at *
    subst hn
    have hne : ((A.length : Int) != (B.length : Int)) = true := by rw [bne_iff_ne]; omega
    go_enter Tryd.func28, Tryd.ntmps28
    go_wp2
    go_ret
    exact ⟨ret_bool (unhide HE).symm, ((Below.refl _ _).alloc (Nat.le_refl _) _).alloc (by simp) _⟩
  have hl : A.length = B.length := by omega
  subst hn
  by_cases h0 : A.length = 0
  · have eA : A = [] := List.length_eq_zero_iff.1 h0
    have eB : B = [] := List.length_eq_zero_iff.1 (by omega)
    subst eA; subst eB
    go_enter Tryd.func28, Tryd.ntmps28
    go_wp2
    refine wp_loop_rounds 1 ?_
    rw [rounds_succ]
    go_wp2
    go_ret
    exact ⟨ret_bool (by simp [sameB]), ((Below.refl _ _).alloc (Nat.le_refl _) _).alloc (by simp) _⟩
  obtain ⟨b1, o1, rfl, hb1, hc1⟩ := hA.ne (by omega)
  obtain ⟨b2, o2, rfl, hb2, hc2⟩ := hB.ne (by omega)
  have hE : ∀ k, k = A.length → (∀ j, j < k → A[j]?.getD 0 = B[j]?.getD 0) → sameB na A na B = true := by
    rintro k rfl h
    simp [sameB, list_ext_getD A B hl h]
  have HE := hide hE
  have hN : ∀ k, A[k]?.getD 0 ≠ B[k]?.getD 0 → sameB na A na B = false := fun k h => sameB_no k h
  have HN := hide hN
  have hl' := hl.symm
  clear hE hN hA hB
  rw [← hl]
  generalize hb : sameB na A na B = s at *
  clear hb
  generalize hm : A.length = n at *
  have hm' : B.length = n := hl.symm
  clear hl hl'
  go_enter Tryd.func28, Tryd.ntmps28
  go_wp2
  go_loopw [5] (fun i wr => ∃ k : Nat, k ≤ n ∧ i = .int .i64 k ∧ Hid (∀ j, j < k → A[j]?.getD 0 = B[j]?.getD 0) ∧ Below w.heap.size w wr ∧ wr.cell? ⟨w.heap.size, 1, none⟩ = some (.slice (some ⟨b1, o1, none⟩) n ca) ∧ wr.cell? ⟨w.heap.size + 1, 1, none⟩ = some (.slice (some ⟨b2, o2, none⟩) n cb))
    (fun i _ => n - (intOf i).toNat)
  case atStart =>
    refine ⟨0, Nat.zero_le _, rfl, fun j hj => absurd hj (by omega), ((Below.refl _ _).alloc (Nat.le_refl _) _).alloc (by simp) _, ?_, ?_⟩
    · simp [go_sem]
    · simp [go_sem]
  case round =>
    obtain ⟨k, hk, rfl, hq, hbel, f1, f2⟩ := hrel
    by_cases hlt : k < n
    · have c1 : wr.cell? ⟨b1, o1 + k, none⟩ = some (.int .u32 ((A[k]?.getD 0 : Nat) : Int)) := by rw [hbel.cell (p := ⟨b1, o1 + k, none⟩) hb1]; exact hc1 k hlt
      have c2 : wr.cell? ⟨b2, o2 + k, none⟩ = some (.int .u32 ((B[k]?.getD 0 : Nat) : Int)) := by rw [hbel.cell (p := ⟨b2, o2 + k, none⟩) hb2]; exact hc2 k (by omega)
      clear hc1 hc2 HE hm hm'
      have hlt' : (k : Int) < (n : Int) := by omega
      by_cases hx : A[k]?.getD 0 = B[k]?.getD 0
      · have hq' : Hid (∀ j, j < k + 1 → A[j]?.getD 0 = B[j]?.getD 0) := fun j hj => by
          rcases Nat.lt_succ_iff_lt_or_eq.1 hj with h | h
          · exact hq.out j h
          · rw [h]; exact hx
        rw [hx] at c1
        clear hx hq HN
        generalize B[k]?.getD 0 = x at *
        go_wp2
        go_quiet (fail)
        go_wp2
        go_roundw
        case rel => exact ⟨k + 1, by omega, by go_num, hq', below_drewN hbel _, by simpa using f1, by simpa using f2⟩
        case measure => simp [intOf]; omega
      · have HS := hide (unhide HN k hx)
        have hx1 : (((A[k]?.getD 0 : Nat) : Int) != ((B[k]?.getD 0 : Nat) : Int)) = true := by rw [bne_iff_ne]; omega
        clear HN hq hx
        generalize B[k]?.getD 0 = x at *
        generalize A[k]?.getD 0 = y at *
        go_wp2
        go_quiet (fail)
        go_wp2
        go_ret
        exact ⟨ret_bool (unhide HS).symm, below_drewN hbel _⟩
    · have HS := hide (unhide HE k (by omega) hq.out)
      clear HE HN hc1 hc2
      go_wp2
      go_ret
      exact ⟨ret_bool (unhide HS).symm, hbel⟩

end Go.Proofs.YtpaikdlhkdgkpaaDoor

