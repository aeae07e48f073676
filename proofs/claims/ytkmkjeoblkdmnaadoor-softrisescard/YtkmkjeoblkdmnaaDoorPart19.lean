/- Part 19 of the texts. -/
import Derived.Test.YtkmkjeoblkdmnaaDoorPart18
import Derived.Deep.Cut
import Derived.Test.YtkmkjeoblkdmnaaDoorPart17
import Derived.Test.YtkmkjeoblkdmnaaDoorPart16
import Ieee.Arith
import Derived.Laws.Cover2
import Derived.Laws.Externs
/- Contract of soft's roundSize. -/
namespace Go.Proofs.YtkmkjeoblkdmnaaDoor
open Go.RowKit

theorem pN_lt (v : Nat) (E : Int) (h : v ≠ 0) : pN v (E - lastE v E) < 1152921504606846976 := by
  obtain ⟨l1, l2, l3⟩ := lastE_ge v E
  obtain ⟨a1, a2, a3⟩ := bl_spec v h
  generalize lastE v E = l at *
  have h54 : (2 : Nat) ^ 54 < 1152921504606846976 := by decide
  unfold pN
  split
  · obtain ⟨k, hk⟩ := Int.eq_ofNat_of_zero_le (show 0 ≤ E - l + 1 by omega)
    rw [hk, Int.toNat_natCast]
    have h1 : v * 2 ^ k < 2 ^ bl v * 2 ^ k := Nat.mul_lt_mul_of_pos_right a3 (Nat.two_pow_pos _)
    rw [← Nat.pow_add] at h1
    have h2 : (2 : Nat) ^ (bl v + k) ≤ 2 ^ 54 := pow_le2 (by omega)
    omega
  · obtain ⟨k, hk⟩ := Int.eq_ofNat_of_zero_le (show 0 ≤ -(E - l + 1) by omega)
    rw [hk, Int.toNat_natCast]
    have h1 : v < 2 ^ 54 * 2 ^ k := by
      rw [← Nat.pow_add]
      exact Nat.lt_of_lt_of_le a3 (pow_le2 (by omega))
    have h2 : v / 2 ^ k < 2 ^ 54 := Nat.div_lt_of_lt_mul (by rw [Nat.mul_comm]; exact h1)
    omega

theorem max2_run (P : Program) (w : World) (ts : Array TypeId) (t : TypeId) (x y : Int) : (Builtin.max_ ts t #[.int .i64 x, .int .i64 y]).run P w = .ok (.int .i64 (max x y)) w := by
  rw [run_max_int2]
  congr 2
  split <;> omega

set_option maxHeartbeats 4000000 in
theorem roundSize_e (na : Bool) (ao : Option Addr) (ca l M k R : Nat) (E t last : Int) (w : World) (h0 : 0 < l) (ht : -100000 ≤ t ∧ t ≤ 1024) (hl : max (t - 53) (-1074) = last) (hk : last + 1074 = k) (hk2 : k ≤ 2045) (hM : M ≤ 9007199254740992)
    (CT : ∀ w', Below w.heap.size w w' → Calls Tryd.prog 60 #[.agg #[.bool na, .slice ao l ca, .int .i64 E]] w' fun e w'' => e = .returned (.int .i64 t) ∧ Below w'.heap.size w' w'')
    (CR : ∀ w', Below w.heap.size w w' → Calls Tryd.prog 61 #[.agg #[.bool na, .slice ao l ca, .int .i64 E], .int .i64 last] w' fun e w'' => e = .returned (.int .u64 M) ∧ Below w'.heap.size w' w'')
    (hR : R = M + k * 4503599627370496) (g1 : decide (last ≤ E) = true) :
    Calls Tryd.prog 42 #[.agg #[.bool na, .slice ao l ca, .int .i64 E]] w fun e w' => e = .returned (.tuple #[.int .u64 R, .int .u8 0]) ∧ Below w.heap.size w w' := by
  have h0' : decide (0 < l) = true := decide_eq_true h0
  have hz : ((l : Int) == 0) = false := by simp; omega
  have hm := fun W ts t' => max2_run Tryd.prog W ts t' (t - 53) (-1074)
  rw [hl] at hm
  have KT := hide CT; have KR := hide CR
  have hg : decide ((1024 : Int) < t) = false := decide_eq_false (by omega)
  have w1 : IntKind.i64.wrap (t - 53) = t - 53 := by simp only [IntKind.wrap_i64]; omega
  have w2 : IntKind.i64.wrap (last - -1074) = (k : Int) := by simp only [IntKind.wrap_i64]; omega
  have w3 : IntKind.u64.wrap (k : Int) = (k : Int) := by simp only [IntKind.wrap_u64]; omega
  have HRR := hide (show (M : Int) + (k : Int) * 4503599627370496 = (R : Int) by omega)
  clear CT CR hl hR
  have B0 := hide ((Below.refl w.heap.size w).alloc (Nat.le_refl _) (.cells #[.bool na, .slice ao l ca, .int .i64 E] 32))
  have X0 := hide (Box3.new w (.bool na) (.slice ao l ca) (.int .i64 E))
  go_enter Tryd.func42, Tryd.ntmps42
  go_wp2_with fail
  refine (unhide KT _ (unhide B0)).mono ?_
  rintro e w1' ⟨rfl, hb1⟩
  have x1 := (unhide X0).all hb1
  have B1 := hide ((unhide B0).trans (hb1.mono (unhide B0).size))
  have X1 := hide x1
  have y0 := x1.c0; have y1 := x1.c1; have y2 := x1.c2
  clear hb1 x1 KT B0 X0
  go_wp2_with fail
  refine (unhide KR _ (unhide B1)).mono ?_
  rintro e w2' ⟨rfl, hb2⟩
  have x2 := (unhide X1).all hb2
  have B2 := hide ((unhide B1).trans (hb2.mono (unhide B1).size))
  clear y0 y1 y2
  have y0 := x2.c0; have y1 := x2.c1; have y2 := x2.c2
  clear hb2 x2 KR B1 X1
  go_upto_region 8 with (fail)
  rw [unhide HRR]
  clear hm w1 w2 w3 hk hk2 hM HRR h0 h0' hz hg ht
  go_wp2
  exact bodyPost_ret (v := .tuple #[.int .u64 R, .int .u8 0]) (by simp [results, Tryd.results42, go_sem]) rfl ⟨rfl, unhide B2⟩

set_option maxHeartbeats 4000000 in
theorem roundSize_i (na : Bool) (ao : Option Addr) (ca l M k R : Nat) (E t last : Int) (w : World) (h0 : 0 < l) (ht : -100000 ≤ t ∧ t ≤ 1024) (hl : max (t - 53) (-1074) = last) (hk : last + 1074 = k) (hk2 : k ≤ 2045) (hM : M ≤ 9007199254740992)
    (CT : ∀ w', Below w.heap.size w w' → Calls Tryd.prog 60 #[.agg #[.bool na, .slice ao l ca, .int .i64 E]] w' fun e w'' => e = .returned (.int .i64 t) ∧ Below w'.heap.size w' w'')
    (CR : ∀ w', Below w.heap.size w w' → Calls Tryd.prog 61 #[.agg #[.bool na, .slice ao l ca, .int .i64 E], .int .i64 last] w' fun e w'' => e = .returned (.int .u64 M) ∧ Below w'.heap.size w' w'')
    (hR : R = M + k * 4503599627370496) (g1 : decide (last ≤ E) = false) (g2 : ((R : Int) == 9218868437227405312) = true) :
    Calls Tryd.prog 42 #[.agg #[.bool na, .slice ao l ca, .int .i64 E]] w fun e w' => e = .returned (.tuple #[.int .u64 R, .int .u8 5]) ∧ Below w.heap.size w w' := by
  have h0' : decide (0 < l) = true := decide_eq_true h0
  have hz : ((l : Int) == 0) = false := by simp; omega
  have hm := fun W ts t' => max2_run Tryd.prog W ts t' (t - 53) (-1074)
  rw [hl] at hm
  have KT := hide CT; have KR := hide CR
  have hg : decide ((1024 : Int) < t) = false := decide_eq_false (by omega)
  have w1 : IntKind.i64.wrap (t - 53) = t - 53 := by simp only [IntKind.wrap_i64]; omega
  have w2 : IntKind.i64.wrap (last - -1074) = (k : Int) := by simp only [IntKind.wrap_i64]; omega
  have w3 : IntKind.u64.wrap (k : Int) = (k : Int) := by simp only [IntKind.wrap_u64]; omega
  have HRR := hide (show (M : Int) + (k : Int) * 4503599627370496 = (R : Int) by omega)
  clear CT CR hl hR
  have B0 := hide ((Below.refl w.heap.size w).alloc (Nat.le_refl _) (.cells #[.bool na, .slice ao l ca, .int .i64 E] 32))
  have X0 := hide (Box3.new w (.bool na) (.slice ao l ca) (.int .i64 E))
  go_enter Tryd.func42, Tryd.ntmps42
  go_wp2_with fail
  refine (unhide KT _ (unhide B0)).mono ?_
  rintro e w1' ⟨rfl, hb1⟩
  have x1 := (unhide X0).all hb1
  have B1 := hide ((unhide B0).trans (hb1.mono (unhide B0).size))
  have X1 := hide x1
  have y0 := x1.c0; have y1 := x1.c1; have y2 := x1.c2
  clear hb1 x1 KT B0 X0
  go_wp2_with fail
  refine (unhide KR _ (unhide B1)).mono ?_
  rintro e w2' ⟨rfl, hb2⟩
  have x2 := (unhide X1).all hb2
  have B2 := hide ((unhide B1).trans (hb2.mono (unhide B1).size))
  clear y0 y1 y2
  have y0 := x2.c0; have y1 := x2.c1; have y2 := x2.c2
  clear hb2 x2 KR B1 X1
  go_upto_region 8 with (fail)
  rw [unhide HRR]
  clear hm w1 w2 w3 hk hk2 hM HRR h0 h0' hz hg ht
  go_wp2
  exact bodyPost_ret (v := .tuple #[.int .u64 R, .int .u8 5]) (by simp [results, Tryd.results42, go_sem]) rfl ⟨rfl, unhide B2⟩

set_option maxHeartbeats 4000000 in
theorem roundSize_u (na : Bool) (ao : Option Addr) (ca l M k R : Nat) (E t last : Int) (w : World) (h0 : 0 < l) (ht : -100000 ≤ t ∧ t ≤ 1024) (hl : max (t - 53) (-1074) = last) (hk : last + 1074 = k) (hk2 : k ≤ 2045) (hM : M ≤ 9007199254740992)
    (CT : ∀ w', Below w.heap.size w w' → Calls Tryd.prog 60 #[.agg #[.bool na, .slice ao l ca, .int .i64 E]] w' fun e w'' => e = .returned (.int .i64 t) ∧ Below w'.heap.size w' w'')
    (CR : ∀ w', Below w.heap.size w w' → Calls Tryd.prog 61 #[.agg #[.bool na, .slice ao l ca, .int .i64 E], .int .i64 last] w' fun e w'' => e = .returned (.int .u64 M) ∧ Below w'.heap.size w' w'')
    (hR : R = M + k * 4503599627370496) (g1 : decide (last ≤ E) = false) (g2 : ((R : Int) == 9218868437227405312) = false) (g3 : decide ((R : Int) < 4503599627370496) = true) :
    Calls Tryd.prog 42 #[.agg #[.bool na, .slice ao l ca, .int .i64 E]] w fun e w' => e = .returned (.tuple #[.int .u64 R, .int .u8 3]) ∧ Below w.heap.size w w' := by
  have h0' : decide (0 < l) = true := decide_eq_true h0
  have hz : ((l : Int) == 0) = false := by simp; omega
  have hm := fun W ts t' => max2_run Tryd.prog W ts t' (t - 53) (-1074)
  rw [hl] at hm
  have KT := hide CT; have KR := hide CR
  have hg : decide ((1024 : Int) < t) = false := decide_eq_false (by omega)
  have w1 : IntKind.i64.wrap (t - 53) = t - 53 := by simp only [IntKind.wrap_i64]; omega
  have w2 : IntKind.i64.wrap (last - -1074) = (k : Int) := by simp only [IntKind.wrap_i64]; omega
  have w3 : IntKind.u64.wrap (k : Int) = (k : Int) := by simp only [IntKind.wrap_u64]; omega
  have HRR := hide (show (M : Int) + (k : Int) * 4503599627370496 = (R : Int) by omega)
  clear CT CR hl hR
  have B0 := hide ((Below.refl w.heap.size w).alloc (Nat.le_refl _) (.cells #[.bool na, .slice ao l ca, .int .i64 E] 32))
  have X0 := hide (Box3.new w (.bool na) (.slice ao l ca) (.int .i64 E))
  go_enter Tryd.func42, Tryd.ntmps42
  go_wp2_with fail
  refine (unhide KT _ (unhide B0)).mono ?_
  rintro e w1' ⟨rfl, hb1⟩
  have x1 := (unhide X0).all hb1
  have B1 := hide ((unhide B0).trans (hb1.mono (unhide B0).size))
  have X1 := hide x1
  have y0 := x1.c0; have y1 := x1.c1; have y2 := x1.c2
  clear hb1 x1 KT B0 X0
  go_wp2_with fail
  refine (unhide KR _ (unhide B1)).mono ?_
  rintro e w2' ⟨rfl, hb2⟩
  have x2 := (unhide X1).all hb2
  have B2 := hide ((unhide B1).trans (hb2.mono (unhide B1).size))
  clear y0 y1 y2
  have y0 := x2.c0; have y1 := x2.c1; have y2 := x2.c2
  clear hb2 x2 KR B1 X1
  go_upto_region 8 with (fail)
  rw [unhide HRR]
  clear hm w1 w2 w3 hk hk2 hM HRR h0 h0' hz hg ht
  go_wp2
  exact bodyPost_ret (v := .tuple #[.int .u64 R, .int .u8 3]) (by simp [results, Tryd.results42, go_sem]) rfl ⟨rfl, unhide B2⟩

set_option maxHeartbeats 4000000 in
theorem roundSize_n (na : Bool) (ao : Option Addr) (ca l M k R : Nat) (E t last : Int) (w : World) (h0 : 0 < l) (ht : -100000 ≤ t ∧ t ≤ 1024) (hl : max (t - 53) (-1074) = last) (hk : last + 1074 = k) (hk2 : k ≤ 2045) (hM : M ≤ 9007199254740992)
    (CT : ∀ w', Below w.heap.size w w' → Calls Tryd.prog 60 #[.agg #[.bool na, .slice ao l ca, .int .i64 E]] w' fun e w'' => e = .returned (.int .i64 t) ∧ Below w'.heap.size w' w'')
    (CR : ∀ w', Below w.heap.size w w' → Calls Tryd.prog 61 #[.agg #[.bool na, .slice ao l ca, .int .i64 E], .int .i64 last] w' fun e w'' => e = .returned (.int .u64 M) ∧ Below w'.heap.size w' w'')
    (hR : R = M + k * 4503599627370496) (g1 : decide (last ≤ E) = false) (g2 : ((R : Int) == 9218868437227405312) = false) (g3 : decide ((R : Int) < 4503599627370496) = false) :
    Calls Tryd.prog 42 #[.agg #[.bool na, .slice ao l ca, .int .i64 E]] w fun e w' => e = .returned (.tuple #[.int .u64 R, .int .u8 1]) ∧ Below w.heap.size w w' := by
  have h0' : decide (0 < l) = true := decide_eq_true h0
  have hz : ((l : Int) == 0) = false := by simp; omega
  have hm := fun W ts t' => max2_run Tryd.prog W ts t' (t - 53) (-1074)
  rw [hl] at hm
  have KT := hide CT; have KR := hide CR
  have hg : decide ((1024 : Int) < t) = false := decide_eq_false (by omega)
  have w1 : IntKind.i64.wrap (t - 53) = t - 53 := by simp only [IntKind.wrap_i64]; omega
  have w2 : IntKind.i64.wrap (last - -1074) = (k : Int) := by simp only [IntKind.wrap_i64]; omega
  have w3 : IntKind.u64.wrap (k : Int) = (k : Int) := by simp only [IntKind.wrap_u64]; omega
  have HRR := hide (show (M : Int) + (k : Int) * 4503599627370496 = (R : Int) by omega)
  clear CT CR hl hR
  have B0 := hide ((Below.refl w.heap.size w).alloc (Nat.le_refl _) (.cells #[.bool na, .slice ao l ca, .int .i64 E] 32))
  have X0 := hide (Box3.new w (.bool na) (.slice ao l ca) (.int .i64 E))
  go_enter Tryd.func42, Tryd.ntmps42
  go_wp2_with fail
  refine (unhide KT _ (unhide B0)).mono ?_
  rintro e w1' ⟨rfl, hb1⟩
  have x1 := (unhide X0).all hb1
  have B1 := hide ((unhide B0).trans (hb1.mono (unhide B0).size))
  have X1 := hide x1
  have y0 := x1.c0; have y1 := x1.c1; have y2 := x1.c2
  clear hb1 x1 KT B0 X0
  go_wp2_with fail
  refine (unhide KR _ (unhide B1)).mono ?_
  rintro e w2' ⟨rfl, hb2⟩
  have x2 := (unhide X1).all hb2
  have B2 := hide ((unhide B1).trans (hb2.mono (unhide B1).size))
  clear y0 y1 y2
  have y0 := x2.c0; have y1 := x2.c1; have y2 := x2.c2
  clear hb2 x2 KR B1 X1
  go_upto_region 8 with (fail)
  rw [unhide HRR]
  clear hm w1 w2 w3 hk hk2 hM HRR h0 h0' hz hg ht
  go_wp2
  exact bodyPost_ret (v := .tuple #[.int .u64 R, .int .u8 1]) (by simp [results, Tryd.results42, go_sem]) rfl ⟨rfl, unhide B2⟩

end Go.Proofs.YtkmkjeoblkdmnaaDoor

/- Contracts of soft's roundSize, Round, any number. -/
namespace Go.Proofs.YtkmkjeoblkdmnaaDoor
open Go.RowKit

set_option maxHeartbeats 4000000 in
theorem roundSize_z (na : Bool) (ao : Option Addr) (ca : Nat) (E t : Int) (w : World)
    (CT : ∀ w', Below w.heap.size w w' → Calls Tryd.prog 60 #[.agg #[.bool na, .slice ao 0 ca, .int .i64 E]] w' fun e w'' => e = .returned (.int .i64 t) ∧ Below w'.heap.size w' w'') :
    Calls Tryd.prog 42 #[.agg #[.bool na, .slice ao 0 ca, .int .i64 E]] w fun e w' => e = .returned (.tuple #[.int .u64 0, .int .u8 0]) ∧ Below w.heap.size w w' := by
  have KT := hide CT
  clear CT
  have B0 := hide ((Below.refl w.heap.size w).alloc (Nat.le_refl _) (.cells #[.bool na, .slice ao 0 ca, .int .i64 E] 32))
  have X0 := hide (Box3.new w (.bool na) (.slice ao 0 ca) (.int .i64 E))
  go_enter Tryd.func42, Tryd.ntmps42
  go_wp2_with fail
  refine (unhide KT _ (unhide B0)).mono ?_
  rintro e w1' ⟨rfl, hb1⟩
  have x1 := (unhide X0).all hb1
  have B1 := hide ((unhide B0).trans (hb1.mono (unhide B0).size))
  have y0 := x1.c0; have y1 := x1.c1; have y2 := x1.c2
  clear hb1 x1 KT B0 X0
  go_wp2
  exact bodyPost_ret (v := .tuple #[.int .u64 0, .int .u8 0]) (by simp [results, Tryd.results42, go_sem]) rfl ⟨rfl, unhide B1⟩

set_option maxHeartbeats 4000000 in
theorem roundSize_b (na : Bool) (ao : Option Addr) (ca l : Nat) (E t : Int) (w : World) (h0 : 0 < l) (ht : 1024 < t)
    (CT : ∀ w', Below w.heap.size w w' → Calls Tryd.prog 60 #[.agg #[.bool na, .slice ao l ca, .int .i64 E]] w' fun e w'' => e = .returned (.int .i64 t) ∧ Below w'.heap.size w' w'') :
    Calls Tryd.prog 42 #[.agg #[.bool na, .slice ao l ca, .int .i64 E]] w fun e w' => e = .returned (.tuple #[.int .u64 9218868437227405312, .int .u8 5]) ∧ Below w.heap.size w w' := by
  have h0' : decide (0 < l) = true := decide_eq_true h0
  have hz : ((l : Int) == 0) = false := by simp; omega
  have hg : decide ((1024 : Int) < t) = true := decide_eq_true ht
  have KT := hide CT
  clear CT ht
  have B0 := hide ((Below.refl w.heap.size w).alloc (Nat.le_refl _) (.cells #[.bool na, .slice ao l ca, .int .i64 E] 32))
  have X0 := hide (Box3.new w (.bool na) (.slice ao l ca) (.int .i64 E))
  go_enter Tryd.func42, Tryd.ntmps42
  go_wp2_with fail
  refine (unhide KT _ (unhide B0)).mono ?_
  rintro e w1' ⟨rfl, hb1⟩
  have x1 := (unhide X0).all hb1
  have B1 := hide ((unhide B0).trans (hb1.mono (unhide B0).size))
  have y0 := x1.c0; have y1 := x1.c1; have y2 := x1.c2
  clear hb1 x1 KT B0 X0
  go_wp2
  exact bodyPost_ret (v := .tuple #[.int .u64 9218868437227405312, .int .u8 5]) (by simp [results, Tryd.results42, go_sem]) rfl ⟨rfl, unhide B1⟩

theorem val_ne {n : Bool} {L : List Nat} (hr : rightB n L = true) (h0 : L ≠ []) : val L ≠ 0 := fun h => h0 ((val_zero_of_canon L (right_canon hr).2.1).1 h)

theorem roundSize_any (na : Bool) (ao : Option Addr) (ca : Nat) (A : List Nat) (E : Int) (w : World) (hA : LimbsAt w ao ca A) (hr : drB na A E = true) :
    Calls Tryd.prog 42 #[.agg #[.bool na, .slice ao A.length ca, .int .i64 E]] w fun e w' => e = .returned (.tuple #[.int .u64 (rnd (val A) E : Nat), .int .u8 (rflag (val A) E)]) ∧ Below w.heap.size w w' := by
  obtain ⟨d1, d2, d3, d4, d5⟩ := drB_bounds hr
  have CT : ∀ w', Below w.heap.size w w' → Calls Tryd.prog 60 #[.agg #[.bool na, .slice ao A.length ca, .int .i64 E]] w' fun e w'' => e = .returned (.int .i64 (IntKind.i64.wrap (lenL A + E))) ∧ Below w'.heap.size w' w'' := fun w' hb => dtop_any na ao ca A E w' (hA.below hb) (by omega)
  rw [lenL_bl hA.2.1 d1] at CT
  by_cases h0 : A = []
  · subst h0
    have e1 : rnd (val []) E = 0 := by simp [rnd, val]
    have e2 : rflag (val []) E = 0 := by simp [rflag, val]
    rw [e1, e2]
    exact roundSize_z na ao ca E _ w CT
  · have hv := val_ne d1 h0
    have hl : 0 < A.length := List.length_pos_iff.2 h0
    have hbl : bl (val A) ≤ 16384 := by
      have h1 := bl_spec (val A) hv
      have h2 := val_lt_pow A hA.2.1 512 d2
      have := pow_lt_of (Nat.lt_of_le_of_lt h1.2.1 h2)
      omega
    have hw : IntKind.i64.wrap ((bl (val A) : Int) + E) = (bl (val A) : Int) + E := by simp only [IntKind.wrap_i64]; omega
    rw [hw] at CT
    by_cases ht : 1024 < (bl (val A) : Int) + E
    · have e1 : rnd (val A) E = 9218868437227405312 := by unfold rnd; rw [if_neg hv, if_pos ht]
      have e2 : rflag (val A) E = 5 := by unfold rflag; rw [if_neg hv, if_pos ht]
      rw [e1, e2]
      exact roundSize_b na ao ca A.length E _ w hl ht CT
    · have hR := rnd_fin (val A) E hv (by omega)
      obtain ⟨l1, l2, l3⟩ := lastE_ge (val A) E
      have hM := (rndM_bounds (val A) E hv).1
      have hN := pN_lt (val A) E hv
      have hbl1 := (bl_spec (val A) hv).1
      have CR : ∀ w', Below w.heap.size w w' → Calls Tryd.prog 61 #[.agg #[.bool na, .slice ao A.length ca, .int .i64 E], .int .i64 (lastE (val A) E)] w' fun e w'' => e = .returned (.int .u64 (rndM (val A) E : Nat)) ∧ Below w'.heap.size w' w'' := fun w' hb =>
        roundAt_any na ao ca A E _ w' (hA.below hb) hr h0 (by omega) (by omega) hN
      have hmax : max ((bl (val A) : Int) + E - 53) (-1074) = lastE (val A) E := rfl
      have hk : lastE (val A) E + 1074 = ((lastE (val A) E + 1074).toNat : Int) := by omega
      have e2 : rflag (val A) E = if lastE (val A) E ≤ E then 0 else if rnd (val A) E = 9218868437227405312 then 5 else if rnd (val A) E < 4503599627370496 then 3 else 1 := by unfold rflag; rw [if_neg hv, if_neg ht]
      by_cases g1 : lastE (val A) E ≤ E
      · rw [e2, if_pos g1]
        exact roundSize_e na ao ca A.length _ _ _ E _ _ w hl (by omega) hmax hk (by omega) hM CT CR hR (decide_eq_true g1)
      · rw [if_neg g1] at e2
        by_cases g2 : rnd (val A) E = 9218868437227405312
        · rw [e2, if_pos g2]
          exact roundSize_i na ao ca A.length _ _ _ E _ _ w hl (by omega) hmax hk (by omega) hM CT CR hR (decide_eq_false g1) (by simp; omega)
        · rw [if_neg g2] at e2
          have g2' : ((rnd (val A) E : Int) == 9218868437227405312) = false := by simp; omega
          by_cases g3 : rnd (val A) E < 4503599627370496
          · rw [e2, if_pos g3]
            exact roundSize_u na ao ca A.length _ _ _ E _ _ w hl (by omega) hmax hk (by omega) hM CT CR hR (decide_eq_false g1) g2' (decide_eq_true (by omega))
          · rw [e2, if_neg g3]
            exact roundSize_n na ao ca A.length _ _ _ E _ _ w hl (by omega) hmax hk (by omega) hM CT CR hR (decide_eq_false g1) g2' (decide_eq_false (by omega))

/-- A rung with its sign. -/
def wrd (neg : Bool) (r : Nat) : Nat := if neg = true then r + 9223372036854775808 else r
theorem wrd_true (r : Nat) : wrd true r = r + 9223372036854775808 := if_pos rfl
theorem wrd_false (r : Nat) : wrd false r = r := if_neg Bool.false_ne_true
theorem fN_wrd (r : Nat) (h : r < 9223372036854775808) : fN r = wrd true r := by rw [wrd_true]; unfold fN; exact if_neg (by omega)

set_option maxHeartbeats 4000000 in
theorem round_wrong (na : Bool) (ao : Option Addr) (ca : Nat) (A : List Nat) (E : Int) (w : World) (hA : LimbsAt w ao ca A) (la : A.length ≤ 35184372088830) (hr : drB na A E = false) (hT : Tab w) :
    Calls Tryd.prog 22 #[.agg #[.bool na, .slice ao A.length ca, .int .i64 E]] w fun e w' => e = .returned (.tuple #[.int .u64 0, .int .u8 0, .int .i64 1]) ∧ Below w.heap.size w w' := by
  have CC := hide (fun w' h t => dcheck_any na ao ca A E w' h la t)
  have he : drE na A E = 1 := by unfold drE; rw [hr]; rfl
  rw [he] at CC
  clear he hr
  have B0 := hide ((Below.refl w.heap.size w).alloc (Nat.le_refl _) (.cells #[.bool na, .slice ao A.length ca, .int .i64 E] 32))
  have HA := hide (hA.below (unhide B0)); have HT := hide (hT.all (unhide B0))
  clear hA hT
  generalize A.length = l at *
  go_enter Tryd.func22, Tryd.ntmps22
  go_wp2_with fail
  refine (unhide CC _ (unhide HA) (unhide HT)).mono ?_
  rintro e w1 ⟨rfl, hb1⟩
  have B1 := hide ((unhide B0).trans (hb1.mono (unhide B0).size))
  clear hb1 B0 CC HA HT
  go_wp2
  exact bodyPost_ret (v := .tuple #[.int .u64 0, .int .u8 0, .int .i64 1]) (by simp [results, Tryd.results22, go_sem]) rfl ⟨rfl, unhide B1⟩

set_option maxHeartbeats 4000000 in
theorem round_right (na : Bool) (ao : Option Addr) (ca : Nat) (A : List Nat) (E : Int) (w : World) (hA : LimbsAt w ao ca A) (hr : drB na A E = true) (hT : Tab w) :
    Calls Tryd.prog 22 #[.agg #[.bool na, .slice ao A.length ca, .int .i64 E]] w fun e w' => e = .returned (.tuple #[.int .u64 (wrd na (rnd (val A) E) : Nat), .int .u8 (rflag (val A) E), .int .i64 0]) ∧ Below w.heap.size w w' := by
  have la := (drB_bounds hr).2.1
  have CC := hide (fun w' h t => dcheck_any na ao ca A E w' h (by omega) t)
  have he : drE na A E = 0 := by unfold drE; rw [hr]; rfl
  rw [he] at CC
  have CR := hide (fun w' h => roundSize_any na ao ca A E w' h hr)
  have hle := rnd_le (val A) E
  have hn : fN (rnd (val A) E) = wrd true (rnd (val A) E) := fN_wrd _ (by omega)
  have CM := hide (fun w' => sminus_any (rnd (val A) E) w' (by omega))
  rw [hn] at CM
  clear he hr la
  have B0 := hide ((Below.refl w.heap.size w).alloc (Nat.le_refl _) (.cells #[.bool na, .slice ao A.length ca, .int .i64 E] 32))
  have X0 := hide (Box3.new w (.bool na) (.slice ao A.length ca) (.int .i64 E))
  have HA := hide (hA.below (unhide B0)); have HT := hide (hT.all (unhide B0))
  have hw0 : wrd false (rnd (val A) E) = rnd (val A) E := wrd_false _
  clear hA hT hle hn
  generalize rflag (val A) E = fl at *
  generalize rnd (val A) E = R at *
  cases na
  · rw [hw0]
    clear CM hw0
    go_enter Tryd.func22, Tryd.ntmps22
    go_wp2_with fail
    refine (unhide CC _ (unhide HA) (unhide HT)).mono ?_
    rintro e w1 ⟨rfl, hb1⟩
    have B1 := hide ((unhide B0).trans (hb1.mono (unhide B0).size))
    have x1 := (unhide X0).all hb1
    have HA1 := hide ((unhide HA).below hb1)
    have y0 := x1.c0; have y1 := x1.c1; have y2 := x1.c2
    have X1 := hide x1
    clear hb1 B0 CC HA HT X0 x1
    go_wp2_with fail
    refine (unhide CR _ (unhide HA1)).mono ?_
    rintro e w2 ⟨rfl, hb2⟩
    have B2 := hide ((unhide B1).trans (hb2.mono (unhide B1).size))
    have x2 := (unhide X1).all hb2
    clear y0 y1 y2
    have y0 := x2.c0; have y1 := x2.c1; have y2 := x2.c2
    clear hb2 x2 CR B1 X1
    go_wp2
    exact bodyPost_ret (v := .tuple #[.int .u64 R, .int .u8 fl, .int .i64 0]) (by simp [results, Tryd.results22, go_sem]) rfl ⟨rfl, unhide B2⟩
  · clear hw0
    generalize wrd true R = R' at *
    go_enter Tryd.func22, Tryd.ntmps22
    go_wp2_with fail
    refine (unhide CC _ (unhide HA) (unhide HT)).mono ?_
    rintro e w1 ⟨rfl, hb1⟩
    have B1 := hide ((unhide B0).trans (hb1.mono (unhide B0).size))
    have x1 := (unhide X0).all hb1
    have HA1 := hide ((unhide HA).below hb1)
    have y0 := x1.c0; have y1 := x1.c1; have y2 := x1.c2
    have X1 := hide x1
    clear hb1 B0 CC HA HT X0 x1
    go_wp2_with fail
    refine (unhide CR _ (unhide HA1)).mono ?_
    rintro e w2 ⟨rfl, hb2⟩
    have B2 := hide ((unhide B1).trans (hb2.mono (unhide B1).size))
    have x2 := (unhide X1).all hb2
    clear y0 y1 y2
    have y0 := x2.c0; have y1 := x2.c1; have y2 := x2.c2
    clear hb2 x2 CR B1 X1
    go_wp2_with (go_at_call 15; refine (unhide CM _).mono ?_; rintro e w3 ⟨rfl, rfl⟩)
    exact bodyPost_ret (v := .tuple #[.int .u64 R', .int .u8 fl, .int .i64 0]) (by simp [results, Tryd.results22, go_sem]) rfl ⟨rfl, unhide B2⟩

end Go.Proofs.YtkmkjeoblkdmnaaDoor

/- How numbers of binary64 stand to one another: by what their rungs are worth. -/
namespace Go.Proofs.YtkmkjeoblkdmnaaDoor
open Go.RowKit

/-- What a rung with its sign is worth (Inf as the next number would be). -/
def pv (n : Bool) (r : Nat) : Int := if n = true then -(rv r : Int) else (rv r : Int)

theorem dbl_sw : Ieee.double.signWeight = 9223372036854775808 := by decide
theorem dbl_bin : Ieee.double.binade = 4503599627370496 := by decide
theorem dbl_inf : Ieee.double.infRung = 9218868437227405312 := by decide
theorem dbl_lp : Ieee.double.leastPlace = -1074 := by decide

theorem wrd_parts (n : Bool) (r : Nat) (h : r < 9223372036854775808) : (wrd n r / 9223372036854775808 % 2 == 1) = n ∧ wrd n r % 9223372036854775808 = r := by
  cases n
  · rw [wrd_false]; exact ⟨by simp; omega, by omega⟩
  · rw [wrd_true]; exact ⟨by simp; omega, by omega⟩

theorem read_wrd (n : Bool) (r : Nat) (h : r ≤ 9218868437227405312) :
    (r < 9218868437227405312 ∧ ∃ (m : Nat) (k : Nat), Ieee.double.read (wrd n r) = .number n m (-1074 + (k : Int)) ∧ m * 2 ^ k = rv r) ∨ (r = 9218868437227405312 ∧ Ieee.double.read (wrd n r) = .infinity n) := by
  obtain ⟨h1, h2⟩ := wrd_parts n r (by omega)
  unfold Ieee.Format.read
  rw [dbl_sw, dbl_bin, dbl_inf, dbl_lp]
  simp only [h1, h2]
  by_cases c1 : r < 4503599627370496
  · left
    refine ⟨by omega, r, 0, ?_, ?_⟩
    · rw [if_pos c1]; rfl
    · unfold rv; rw [if_pos c1]; simp
  · by_cases c2 : r < 9218868437227405312
    · left
      refine ⟨c2, _, _, by rw [if_neg c1, if_pos c2], ?_⟩
      unfold rv; rw [if_neg c1]
    · right
      have : r = 9218868437227405312 := by omega
      exact ⟨this, by rw [if_neg c1, if_neg c2, if_pos this]⟩

theorem signed_pv (n : Bool) (m k u : Nat) (r : Nat) (h : m * 2 ^ k = rv r) (hu : u ≤ k) : Ieee.signed n m u * 2 ^ (k - u) = pv n r := by
  have h1 : m <<< u * 2 ^ (k - u) = rv r := by
    rw [Nat.shiftLeft_eq, Nat.mul_assoc, ← Nat.pow_add, show u + (k - u) = k by omega]; exact h
  have h2 : ((m <<< u : Nat) : Int) * 2 ^ (k - u) = (rv r : Int) := by
    rw [← h1, Int.natCast_mul, Int.natCast_pow]; rfl
  unfold Ieee.signed pv
  cases n
  · simp only [Bool.false_eq_true, if_false]; exact h2
  · simp only [if_true]; rw [Int.neg_mul, h2]

theorem compare_scale (a b : Int) (k : Nat) : compare (a * 2 ^ k) (b * 2 ^ k) = compare a b := by
  have hp : (0 : Int) < 2 ^ k := Int.pow_pos (by decide)
  rcases Int.lt_trichotomy a b with h | h | h
  · have h1 : a * 2 ^ k < b * 2 ^ k := Int.mul_lt_mul_of_pos_right h hp
    rw [Int.compare_eq_lt.2 h, Int.compare_eq_lt.2 h1]
  · subst h; simp
  · have h1 : b * 2 ^ k < a * 2 ^ k := Int.mul_lt_mul_of_pos_right h hp
    rw [Int.compare_eq_gt.2 h, Int.compare_eq_gt.2 h1]

theorem order_num (n m : Bool) (r s a b k j : Nat) (h1 : a * 2 ^ k = rv r) (h2 : b * 2 ^ j = rv s) :
    Ieee.Datum.order (.number n a (-1074 + (k : Int))) (.number m b (-1074 + (j : Int))) = some (compare (pv n r) (pv m s)) := by
  unfold Ieee.Datum.order
  simp only
  congr 1
  generalize hc : min k j = c
  have e1 : (-1074 + (k : Int) - min (-1074 + (k : Int)) (-1074 + (j : Int))).toNat = k - c := by omega
  have e2 : (-1074 + (j : Int) - min (-1074 + (k : Int)) (-1074 + (j : Int))).toNat = j - c := by omega
  rw [e1, e2, ← compare_scale _ _ c]
  have s1 := signed_pv n a k (k - c) r h1 (by omega)
  have s2 := signed_pv m b j (j - c) s h2 (by omega)
  rw [show k - (k - c) = c by omega] at s1
  rw [show j - (j - c) = c by omega] at s2
  rw [s1, s2]

theorem rv_lt {r s : Nat} (h : r < s) : rv r < rv s := Nat.lt_of_lt_of_le (rv_succ r) (rv_mono h)

theorem order_wrd (n m : Bool) (r s : Nat) (hr : r ≤ 9218868437227405312) (hs : s ≤ 9218868437227405312) : Ieee.double.order (wrd n r) (wrd m s) = some (compare (pv n r) (pv m s)) := by
  unfold Ieee.Format.order
  rcases read_wrd n r hr with ⟨c1, a, k, e1, h1⟩ | ⟨c1, e1⟩
  · rcases read_wrd m s hs with ⟨c2, b, j, e2, h2⟩ | ⟨c2, e2⟩
    · rw [e1, e2]; exact order_num n m r s a b k j h1 h2
    · rw [e1, e2]
      have hlt : rv r < rv s := rv_lt (by omega)
      have hn : Ieee.Datum.order (.number n a (-1074 + (k : Int))) (.infinity m) = some (if m then .gt else .lt) := rfl
      rw [hn]
      congr 1
      unfold pv
      cases m <;> cases n <;> simp only [Bool.false_eq_true, if_true, if_false] <;> symm <;> first | exact Int.compare_eq_lt.2 (by omega) | exact Int.compare_eq_gt.2 (by omega)
  · rcases read_wrd m s hs with ⟨c2, b, j, e2, h2⟩ | ⟨c2, e2⟩
    · rw [e1, e2]
      have hlt : rv s < rv r := rv_lt (by omega)
      have hn : Ieee.Datum.order (.infinity n) (.number m b (-1074 + (j : Int))) = some (if n then .lt else .gt) := rfl
      rw [hn]
      congr 1
      unfold pv
      cases m <;> cases n <;> simp only [Bool.false_eq_true, if_true, if_false] <;> symm <;> first | exact Int.compare_eq_lt.2 (by omega) | exact Int.compare_eq_gt.2 (by omega)
    · rw [e1, e2]
      have hrs : rv r = rv s := by rw [c1, c2]
      have hpos : 0 < rv s := by have := rv_lt (r := 0) (s := s) (by omega); rw [rv_zero] at this; exact this
      have hn : Ieee.Datum.order (.infinity n) (.infinity m) = some (compare m.toNat n.toNat) := rfl
      rw [hn]
      congr 1
      unfold pv
      rw [hrs]
      cases n <;> cases m
      · simp
      · rw [if_neg (by decide), if_pos rfl]
        rw [Int.compare_eq_gt.2 (by omega)]
        decide
      · rw [if_pos rfl, if_neg (by decide)]
        rw [Int.compare_eq_lt.2 (by omega)]
        decide
      · simp

/-- What z times 2 to the l is rounded to. -/
def pvZ (z l : Int) : Int := pv (decide (z < 0)) (rnd z.natAbs l)

theorem pvZ_mono {z y l : Int} (h : z ≤ y) : pvZ z l ≤ pvZ y l := by
  unfold pvZ pv
  by_cases h1 : z < 0
  · rw [decide_eq_true h1, if_pos rfl]
    by_cases h2 : y < 0
    · rw [decide_eq_true h2, if_pos rfl]
      have := rv_mono (rnd_mono l (show y.natAbs ≤ z.natAbs by omega))
      omega
    · rw [decide_eq_false h2, if_neg (by decide)]
      omega
  · rw [decide_eq_false h1, decide_eq_false (show ¬ y < 0 by omega), if_neg (by decide), if_neg (by decide)]
    have := rv_mono (rnd_mono l (show z.natAbs ≤ y.natAbs by omega))
    omega

end Go.Proofs.YtkmkjeoblkdmnaaDoor

/- Round of a number at hand; awake (layer 4); the law SoftKinds, walked. -/
namespace Go.Proofs.YtkmkjeoblkdmnaaDoor
open Go.RowKit

theorem round_dy {w : World} {v : Value} {m e : Int} (h : IsDy w v m e) (hm : m.natAbs < TOP) (hr : dRt m e = true) (hT : Tab w) :
    Calls Tryd.prog 22 #[v] w fun r w' => r = .returned (.tuple #[.int .u64 (wrd (decide (m < 0)) (rnd m.natAbs e) : Nat), .int .u8 (rflag m.natAbs e), .int .i64 0]) ∧ Below w.heap.size w w' := by
  obtain ⟨n, a, c, L, rfl, h1, h2, h3, h4, h5⟩ := h.right hm
  have hn : n = decide (m < 0) := by
    obtain ⟨n', a', c', L', e1, _, _, e4, _⟩ := h.parts
    simp only [Value.agg.injEq, Array.mk.injEq, List.cons.injEq, Value.bool.injEq] at e1
    rw [e1.1]; exact e4
  have hv : val L = m.natAbs := by rw [← h3, natAbs_sval]
  have := round_right n a c L e w h1 (h5.trans hr) hT
  rw [hv, hn] at this
  rw [hn]
  exact this

theorem awake4_facts : fFin 4607182418800017408 = true ∧ fD 4607182418800017408 = 1 ∧ fX 4607182418800017408 = 0 ∧ fK 9221120237041090560 = 4 := by decide +kernel
theorem awake4_round : wrd (decide ((1 : Int) < 0)) (rnd (1 : Int).natAbs 0) = 4607182418800017408 ∧ rflag (1 : Int).natAbs 0 = 0 := by decide +kernel

set_option maxHeartbeats 2000000 in
theorem awake4_any (w : World) (hT : Tab w) : Calls Tryd.prog 17 #[] w fun e w' => e = .returned (.bool true) ∧ Below w.heap.size w w' := by
  have C1 := hide (value_some 4607182418800017408 w (by decide) awake4_facts.1 hT)
  rw [awake4_facts.2.1, awake4_facts.2.2.1] at C1
  have C2 := hide (fun w' v (h : IsDy w' v 1 0) t => round_dy h (lt_TOP (k := 1) (by decide) (by decide)) (by decide) t)
  rw [awake4_round.1, awake4_round.2] at C2
  have C3 := hide (fun w' => kind_any 9221120237041090560 w' (by decide))
  rw [awake4_facts.2.2.2] at C3
  go_enter Tryd.func17, Tryd.ntmps17
  go_wp2_with fail
  refine Calls.mono (unhide C1) ?_
  rintro e w1 ⟨⟨v, rfl, hv⟩, hb1⟩
  obtain ⟨n1, a1, c1, L1, rfl, i1⟩ := hv
  have hb2 : Below w1.heap.size w1 (w1.alloc (.cells #[.bool n1, .slice a1 L1.length c1, .int .i64 0] 32)) := (Below.refl _ _).alloc (Nat.le_refl _) _
  have b2 := hb1.trans (hb2.mono hb1.size)
  have HV := hide ((show IsDy w1 (.agg #[.bool n1, .slice a1 L1.length c1, .int .i64 0]) 1 0 from ⟨n1, a1, c1, L1, rfl, i1⟩).below hb2)
  have B2 := hide b2; have HT := hide (hT.all b2)
  clear b2 hb2 hb1 i1 C1
  go_wp2_with fail
  refine (unhide C2 _ _ (unhide HV) (unhide HT)).mono ?_
  rintro e w2 ⟨rfl, hb3⟩
  have B3 := hide ((unhide B2).trans (hb3.mono (unhide B2).size))
  clear hb3 B2 HT HV C2
  go_wp2_with fail
  refine (unhide C3 _).mono ?_
  rintro e w3 ⟨rfl, hb4⟩
  have B4 := hide ((unhide B3).trans (hb4.mono (unhide B3).size))
  clear hb4 B3 C3
  go_wp2
  go_ret
  exact ⟨rfl, unhide B4⟩

end Go.Proofs.YtkmkjeoblkdmnaaDoor

/- The law SoftRises, walked. -/
namespace Go.Proofs.YtkmkjeoblkdmnaaDoor
open Go.RowKit

theorem frombits_run (R : Nat) (W : World) : (callFunc 25 #[.int .u64 R]).run Tryd.prog W = .ok (.value (.float .f64 R)) W := by
  rw [run_callFunc_extern (e := Extern.MathFloatBits.float64frombits) Tryd.func25 (by kernel_rfl) (by kernel_rfl) (by kernel_rfl) (by kernel_rfl)]
  show ((pure (.float .f64 ((R : Int).toNat)) : Sem Value).run Tryd.prog W).andThen (fun v w' => .ok (Next.value v) w') = _
  simp

theorem pvZ_up {n : Bool} {L : List Nat} {x l : Int} (hr : rightB n L = true) (h : L ≠ [] → l ≤ x) : pvZ (up (sval n L) x l) l = pv n (rnd (val L) x) := by
  by_cases h0 : L = []
  · subst h0
    have hn : n = false := by
      have := (right_canon hr).2.2
      cases n
      · rfl
      · exact absurd rfl (this rfl)
    subst hn
    have e1 : up (sval false []) x l = 0 := by rw [show sval false [] = 0 from rfl, up_zero]
    rw [e1]
    unfold pvZ
    simp [rnd, val]
  · have hv := val_ne hr h0
    have hl := h h0
    have hp : 0 < 2 ^ (x - l).toNat := Nat.two_pow_pos _
    unfold pvZ
    rw [natAbs_up, rnd_scale, show l + ((x - l).toNat : Int) = x by omega, up_sval]
    congr 1
    have hpos : 0 < val L * 2 ^ (x - l).toNat := Nat.mul_pos (by omega) hp
    generalize val L * 2 ^ (x - l).toNat = m at *
    unfold sg
    cases n
    · simp
    · simp; omega

theorem rises_fact {na nb : Bool} {A B : List Nat} {x y : Int} (ha : drB na A x = true) (hb : drB nb B y = true) :
    (cmpV (sval na A) x (sval nb B) y = -1 ∧ (compare (pv na (rnd (val A) x)) (pv nb (rnd (val B) y)) = .lt ∨ compare (pv na (rnd (val A) x)) (pv nb (rnd (val B) y)) = .eq)) ∨
    (cmpV (sval na A) x (sval nb B) y = 0 ∧ compare (pv na (rnd (val A) x)) (pv nb (rnd (val B) y)) = .eq) ∨
    (cmpV (sval na A) x (sval nb B) y = 1 ∧ (compare (pv na (rnd (val A) x)) (pv nb (rnd (val B) y)) = .gt ∨ compare (pv na (rnd (val A) x)) (pv nb (rnd (val B) y)) = .eq)) := by
  obtain ⟨ra, _, _, _, zx⟩ := drB_bounds ha
  obtain ⟨rb, _, _, _, zy⟩ := drB_bounds hb
  have hlo := lowR_E (x := x) (y := y) ra rb
  unfold lowR at hlo
  have hA : A ≠ [] → lowE (sval na A) x (sval nb B) y ≤ x := fun h => by
    have h1 : A.length ≠ 0 := fun e => h (List.length_eq_zero_iff.1 e)
    rw [if_neg h1] at hlo
    rw [← hlo]
    split <;> omega
  have hB : B ≠ [] → lowE (sval na A) x (sval nb B) y ≤ y := fun h => by
    have h1 : B.length ≠ 0 := fun e => h (List.length_eq_zero_iff.1 e)
    rw [← hlo, if_neg h1]
    split
    · omega
    · omega
  have e1 := pvZ_up ra hA
  have e2 := pvZ_up rb hB
  unfold cmpV
  generalize lowE (sval na A) x (sval nb B) y = l at *
  rw [← e1, ← e2]
  generalize up (sval na A) x l = u at *
  generalize up (sval nb B) y l = v at *
  unfold cmpI
  rcases Int.lt_trichotomy u v with h | h | h
  · left
    refine ⟨if_pos h, ?_⟩
    have := pvZ_mono (l := l) (Int.le_of_lt h)
    rcases Int.lt_or_eq_of_le this with h1 | h1
    · exact .inl (Int.compare_eq_lt.2 h1)
    · exact .inr (by rw [h1]; simp)
  · right; left
    subst h
    simp
  · right; right
    refine ⟨by rw [if_neg (by omega), if_pos h], ?_⟩
    have := pvZ_mono (l := l) (Int.le_of_lt h)
    rcases Int.lt_or_eq_of_le this with h1 | h1
    · exact .inl (Int.compare_eq_gt.2 h1)
    · exact .inr (by rw [h1]; simp)

set_option maxHeartbeats 4000000 in
theorem softRises_la (na nb : Bool) (ao bo : Option Addr) (ca cb la lb : Nat) (x y : Int) (w : World) (g1 : decide ((60 : Int) < la) = true)
    
    (CW : ∀ w', Below w.heap.size w w' → Calls Tryd.prog 17 #[] w' fun r w'' => r = .returned (.bool true) ∧ Below w'.heap.size w' w'') :
    Calls Tryd.prog 7 #[.agg #[.bool na, .slice ao la ca, .int .i64 x], .agg #[.bool nb, .slice bo lb cb, .int .i64 y]] w fun r w' => r = .returned (.bool true) ∧ Below w.heap.size w w' := by
  have KCW := hide CW
  clear CW 
  have hb0 : Below w.heap.size w ((w.alloc (.cells #[.bool na, .slice ao la ca, .int .i64 x] 32)).alloc (.cells #[.bool nb, .slice bo lb cb, .int .i64 y] 32)) := ((Below.refl _ _).alloc (Nat.le_refl _) _).alloc (by simp) _
  have x0 : Box3 ((w.alloc (.cells #[.bool na, .slice ao la ca, .int .i64 x] 32)).alloc (.cells #[.bool nb, .slice bo lb cb, .int .i64 y] 32)) w.heap.size (.bool na) (.slice ao la ca) (.int .i64 x) := (Box3.new _ _ _ _).old _
  have z0 : Box3 ((w.alloc (.cells #[.bool na, .slice ao la ca, .int .i64 x] 32)).alloc (.cells #[.bool nb, .slice bo lb cb, .int .i64 y] 32)) (w.heap.size + 1) (.bool nb) (.slice bo lb cb) (.int .i64 y) := by
    have := Box3.new (w.alloc (.cells #[.bool na, .slice ao la ca, .int .i64 x] 32)) (.bool nb) (.slice bo lb cb) (.int .i64 y)
    simpa using this
  have B0 := hide hb0; have X0 := hide x0; have Z0 := hide z0
  clear hb0 x0 z0
  go_enter Tryd.func7, Tryd.ntmps7
  go_wp2_with fail
  refine (unhide KCW _ (unhide B0)).mono ?_
  rintro e w1 ⟨rfl, hb1⟩
  have x1 := (unhide X0).all hb1
  have z1 := (unhide Z0).all hb1
  have B1 := hide ((unhide B0).trans (hb1.mono (unhide B0).size))
  have X1 := hide x1; have Z1 := hide z1
  try clear y0 y1 y2 v0 v1 v2
  have y0 := x1.c0; have y1 := x1.c1; have y2 := x1.c2; have v0 := z1.c0; have v1 := z1.c1; have v2 := z1.c2
  clear hb1 x1 z1 B0 X0 Z0
  go_wp2
  go_ret
  exact ⟨rfl, unhide B1⟩

set_option maxHeartbeats 4000000 in
theorem softRises_lb (na nb : Bool) (ao bo : Option Addr) (ca cb la lb : Nat) (x y : Int) (w : World) (g1 : decide ((60 : Int) < la) = false) (g2 : decide ((60 : Int) < lb) = true)
    
    (CW : ∀ w', Below w.heap.size w w' → Calls Tryd.prog 17 #[] w' fun r w'' => r = .returned (.bool true) ∧ Below w'.heap.size w' w'') :
    Calls Tryd.prog 7 #[.agg #[.bool na, .slice ao la ca, .int .i64 x], .agg #[.bool nb, .slice bo lb cb, .int .i64 y]] w fun r w' => r = .returned (.bool true) ∧ Below w.heap.size w w' := by
  have KCW := hide CW
  clear CW 
  have hb0 : Below w.heap.size w ((w.alloc (.cells #[.bool na, .slice ao la ca, .int .i64 x] 32)).alloc (.cells #[.bool nb, .slice bo lb cb, .int .i64 y] 32)) := ((Below.refl _ _).alloc (Nat.le_refl _) _).alloc (by simp) _
  have x0 : Box3 ((w.alloc (.cells #[.bool na, .slice ao la ca, .int .i64 x] 32)).alloc (.cells #[.bool nb, .slice bo lb cb, .int .i64 y] 32)) w.heap.size (.bool na) (.slice ao la ca) (.int .i64 x) := (Box3.new _ _ _ _).old _
  have z0 : Box3 ((w.alloc (.cells #[.bool na, .slice ao la ca, .int .i64 x] 32)).alloc (.cells #[.bool nb, .slice bo lb cb, .int .i64 y] 32)) (w.heap.size + 1) (.bool nb) (.slice bo lb cb) (.int .i64 y) := by
    have := Box3.new (w.alloc (.cells #[.bool na, .slice ao la ca, .int .i64 x] 32)) (.bool nb) (.slice bo lb cb) (.int .i64 y)
    simpa using this
  have B0 := hide hb0; have X0 := hide x0; have Z0 := hide z0
  clear hb0 x0 z0
  go_enter Tryd.func7, Tryd.ntmps7
  go_wp2_with fail
  refine (unhide KCW _ (unhide B0)).mono ?_
  rintro e w1 ⟨rfl, hb1⟩
  have x1 := (unhide X0).all hb1
  have z1 := (unhide Z0).all hb1
  have B1 := hide ((unhide B0).trans (hb1.mono (unhide B0).size))
  have X1 := hide x1; have Z1 := hide z1
  try clear y0 y1 y2 v0 v1 v2
  have y0 := x1.c0; have y1 := x1.c1; have y2 := x1.c2; have v0 := z1.c0; have v1 := z1.c1; have v2 := z1.c2
  clear hb1 x1 z1 B0 X0 Z0
  go_wp2
  go_ret
  exact ⟨rfl, unhide B1⟩

set_option maxHeartbeats 4000000 in
theorem softRises_ra (na nb : Bool) (ao bo : Option Addr) (ca cb la lb : Nat) (x y : Int) (w : World) (g1 : decide ((60 : Int) < la) = false) (g2 : decide ((60 : Int) < lb) = false)
    (CRA : ∀ w', Below w.heap.size w w' → Calls Tryd.prog 21 #[.agg #[.bool na, .slice ao la ca, .int .i64 x]] w' fun r w'' => r = .returned (.bool false) ∧ Below w'.heap.size w' w'')
    (CW : ∀ w', Below w.heap.size w w' → Calls Tryd.prog 17 #[] w' fun r w'' => r = .returned (.bool true) ∧ Below w'.heap.size w' w'') :
    Calls Tryd.prog 7 #[.agg #[.bool na, .slice ao la ca, .int .i64 x], .agg #[.bool nb, .slice bo lb cb, .int .i64 y]] w fun r w' => r = .returned (.bool true) ∧ Below w.heap.size w w' := by
  have KCRA := hide CRA
  have KCW := hide CW
  clear CW CRA
  have hb0 : Below w.heap.size w ((w.alloc (.cells #[.bool na, .slice ao la ca, .int .i64 x] 32)).alloc (.cells #[.bool nb, .slice bo lb cb, .int .i64 y] 32)) := ((Below.refl _ _).alloc (Nat.le_refl _) _).alloc (by simp) _
  have x0 : Box3 ((w.alloc (.cells #[.bool na, .slice ao la ca, .int .i64 x] 32)).alloc (.cells #[.bool nb, .slice bo lb cb, .int .i64 y] 32)) w.heap.size (.bool na) (.slice ao la ca) (.int .i64 x) := (Box3.new _ _ _ _).old _
  have z0 : Box3 ((w.alloc (.cells #[.bool na, .slice ao la ca, .int .i64 x] 32)).alloc (.cells #[.bool nb, .slice bo lb cb, .int .i64 y] 32)) (w.heap.size + 1) (.bool nb) (.slice bo lb cb) (.int .i64 y) := by
    have := Box3.new (w.alloc (.cells #[.bool na, .slice ao la ca, .int .i64 x] 32)) (.bool nb) (.slice bo lb cb) (.int .i64 y)
    simpa using this
  have B0 := hide hb0; have X0 := hide x0; have Z0 := hide z0
  clear hb0 x0 z0
  go_enter Tryd.func7, Tryd.ntmps7
  go_wp2_with fail
  refine (unhide KCRA _ (unhide B0)).mono ?_
  rintro e w1 ⟨rfl, hb1⟩
  have x1 := (unhide X0).all hb1
  have z1 := (unhide Z0).all hb1
  have B1 := hide ((unhide B0).trans (hb1.mono (unhide B0).size))
  have X1 := hide x1; have Z1 := hide z1
  try clear y0 y1 y2 v0 v1 v2
  have y0 := x1.c0; have y1 := x1.c1; have y2 := x1.c2; have v0 := z1.c0; have v1 := z1.c1; have v2 := z1.c2
  clear hb1 x1 z1 B0 X0 Z0
  go_wp2_with fail
  refine (unhide KCW _ (unhide B1)).mono ?_
  rintro e w2 ⟨rfl, hb2⟩
  have x2 := (unhide X1).all hb2
  have z2 := (unhide Z1).all hb2
  have B2 := hide ((unhide B1).trans (hb2.mono (unhide B1).size))
  have X2 := hide x2; have Z2 := hide z2
  try clear y0 y1 y2 v0 v1 v2
  have y0 := x2.c0; have y1 := x2.c1; have y2 := x2.c2; have v0 := z2.c0; have v1 := z2.c1; have v2 := z2.c2
  clear hb2 x2 z2 B1 X1 Z1
  go_wp2
  go_ret
  exact ⟨rfl, unhide B2⟩

set_option maxHeartbeats 4000000 in
theorem softRises_rb (na nb : Bool) (ao bo : Option Addr) (ca cb la lb : Nat) (x y : Int) (w : World) (g1 : decide ((60 : Int) < la) = false) (g2 : decide ((60 : Int) < lb) = false)
    (CRA : ∀ w', Below w.heap.size w w' → Calls Tryd.prog 21 #[.agg #[.bool na, .slice ao la ca, .int .i64 x]] w' fun r w'' => r = .returned (.bool true) ∧ Below w'.heap.size w' w'')
    (CRB : ∀ w', Below w.heap.size w w' → Calls Tryd.prog 21 #[.agg #[.bool nb, .slice bo lb cb, .int .i64 y]] w' fun r w'' => r = .returned (.bool false) ∧ Below w'.heap.size w' w'')
    (CW : ∀ w', Below w.heap.size w w' → Calls Tryd.prog 17 #[] w' fun r w'' => r = .returned (.bool true) ∧ Below w'.heap.size w' w'') :
    Calls Tryd.prog 7 #[.agg #[.bool na, .slice ao la ca, .int .i64 x], .agg #[.bool nb, .slice bo lb cb, .int .i64 y]] w fun r w' => r = .returned (.bool true) ∧ Below w.heap.size w w' := by
  have KCRA := hide CRA
  have KCRB := hide CRB
  have KCW := hide CW
  clear CW CRA CRB
  have hb0 : Below w.heap.size w ((w.alloc (.cells #[.bool na, .slice ao la ca, .int .i64 x] 32)).alloc (.cells #[.bool nb, .slice bo lb cb, .int .i64 y] 32)) := ((Below.refl _ _).alloc (Nat.le_refl _) _).alloc (by simp) _
  have x0 : Box3 ((w.alloc (.cells #[.bool na, .slice ao la ca, .int .i64 x] 32)).alloc (.cells #[.bool nb, .slice bo lb cb, .int .i64 y] 32)) w.heap.size (.bool na) (.slice ao la ca) (.int .i64 x) := (Box3.new _ _ _ _).old _
  have z0 : Box3 ((w.alloc (.cells #[.bool na, .slice ao la ca, .int .i64 x] 32)).alloc (.cells #[.bool nb, .slice bo lb cb, .int .i64 y] 32)) (w.heap.size + 1) (.bool nb) (.slice bo lb cb) (.int .i64 y) := by
    have := Box3.new (w.alloc (.cells #[.bool na, .slice ao la ca, .int .i64 x] 32)) (.bool nb) (.slice bo lb cb) (.int .i64 y)
    simpa using this
  have B0 := hide hb0; have X0 := hide x0; have Z0 := hide z0
  clear hb0 x0 z0
  go_enter Tryd.func7, Tryd.ntmps7
  go_wp2_with fail
  refine (unhide KCRA _ (unhide B0)).mono ?_
  rintro e w1 ⟨rfl, hb1⟩
  have x1 := (unhide X0).all hb1
  have z1 := (unhide Z0).all hb1
  have B1 := hide ((unhide B0).trans (hb1.mono (unhide B0).size))
  have X1 := hide x1; have Z1 := hide z1
  try clear y0 y1 y2 v0 v1 v2
  have y0 := x1.c0; have y1 := x1.c1; have y2 := x1.c2; have v0 := z1.c0; have v1 := z1.c1; have v2 := z1.c2
  clear hb1 x1 z1 B0 X0 Z0
  go_wp2_with fail
  refine (unhide KCRB _ (unhide B1)).mono ?_
  rintro e w2 ⟨rfl, hb2⟩
  have x2 := (unhide X1).all hb2
  have z2 := (unhide Z1).all hb2
  have B2 := hide ((unhide B1).trans (hb2.mono (unhide B1).size))
  have X2 := hide x2; have Z2 := hide z2
  try clear y0 y1 y2 v0 v1 v2
  have y0 := x2.c0; have y1 := x2.c1; have y2 := x2.c2; have v0 := z2.c0; have v1 := z2.c1; have v2 := z2.c2
  clear hb2 x2 z2 B1 X1 Z1
  go_wp2_with fail
  refine (unhide KCW _ (unhide B2)).mono ?_
  rintro e w3 ⟨rfl, hb3⟩
  have x3 := (unhide X2).all hb3
  have z3 := (unhide Z2).all hb3
  have B3 := hide ((unhide B2).trans (hb3.mono (unhide B2).size))
  have X3 := hide x3; have Z3 := hide z3
  try clear y0 y1 y2 v0 v1 v2
  have y0 := x3.c0; have y1 := x3.c1; have y2 := x3.c2; have v0 := z3.c0; have v1 := z3.c1; have v2 := z3.c2
  clear hb3 x3 z3 B2 X2 Z2
  go_wp2
  go_ret
  exact ⟨rfl, unhide B3⟩

set_option maxHeartbeats 4000000 in
theorem softRises_mml (na nb : Bool) (ao bo : Option Addr) (ca cb la lb : Nat) (x y : Int) (w : World) (R S : Nat) (f1 f2 : Int) (g1 : decide ((60 : Int) < la) = false) (g2 : decide ((60 : Int) < lb) = false) (hO : FloatKind.f64.format.order R S = some .lt)
    (CRA : ∀ w', Below w.heap.size w w' → Calls Tryd.prog 21 #[.agg #[.bool na, .slice ao la ca, .int .i64 x]] w' fun r w'' => r = .returned (.bool true) ∧ Below w'.heap.size w' w'')
    (CRB : ∀ w', Below w.heap.size w w' → Calls Tryd.prog 21 #[.agg #[.bool nb, .slice bo lb cb, .int .i64 y]] w' fun r w'' => r = .returned (.bool true) ∧ Below w'.heap.size w' w'')
    (COA : ∀ w', Below w.heap.size w w' → Calls Tryd.prog 22 #[.agg #[.bool na, .slice ao la ca, .int .i64 x]] w' fun r w'' => r = .returned (.tuple #[.int .u64 R, .int .u8 f1, .int .i64 0]) ∧ Below w'.heap.size w' w'')
    (COB : ∀ w', Below w.heap.size w w' → Calls Tryd.prog 22 #[.agg #[.bool nb, .slice bo lb cb, .int .i64 y]] w' fun r w'' => r = .returned (.tuple #[.int .u64 S, .int .u8 f2, .int .i64 0]) ∧ Below w'.heap.size w' w'')
    (CCM : ∀ w', Below w.heap.size w w' → Calls Tryd.prog 24 #[.agg #[.bool na, .slice ao la ca, .int .i64 x], .agg #[.bool nb, .slice bo lb cb, .int .i64 y]] w' fun r w'' => r = .returned (.int .i64 (-1)) ∧ Below w'.heap.size w' w'')
    (CW : ∀ w', Below w.heap.size w w' → Calls Tryd.prog 17 #[] w' fun r w'' => r = .returned (.bool true) ∧ Below w'.heap.size w' w'') :
    Calls Tryd.prog 7 #[.agg #[.bool na, .slice ao la ca, .int .i64 x], .agg #[.bool nb, .slice bo lb cb, .int .i64 y]] w fun r w' => r = .returned (.bool true) ∧ Below w.heap.size w w' := by
  have KCRA := hide CRA
  have KCRB := hide CRB
  have KCOA := hide COA
  have KCOB := hide COB
  have KCCM := hide CCM
  have KCW := hide CW
  clear CW CRA CRB COA COB CCM
  have hF1 := fun W => frombits_run R W
  have hF2 := fun W => frombits_run S W
  have hb0 : Below w.heap.size w ((w.alloc (.cells #[.bool na, .slice ao la ca, .int .i64 x] 32)).alloc (.cells #[.bool nb, .slice bo lb cb, .int .i64 y] 32)) := ((Below.refl _ _).alloc (Nat.le_refl _) _).alloc (by simp) _
  have x0 : Box3 ((w.alloc (.cells #[.bool na, .slice ao la ca, .int .i64 x] 32)).alloc (.cells #[.bool nb, .slice bo lb cb, .int .i64 y] 32)) w.heap.size (.bool na) (.slice ao la ca) (.int .i64 x) := (Box3.new _ _ _ _).old _
  have z0 : Box3 ((w.alloc (.cells #[.bool na, .slice ao la ca, .int .i64 x] 32)).alloc (.cells #[.bool nb, .slice bo lb cb, .int .i64 y] 32)) (w.heap.size + 1) (.bool nb) (.slice bo lb cb) (.int .i64 y) := by
    have := Box3.new (w.alloc (.cells #[.bool na, .slice ao la ca, .int .i64 x] 32)) (.bool nb) (.slice bo lb cb) (.int .i64 y)
    simpa using this
  have B0 := hide hb0; have X0 := hide x0; have Z0 := hide z0
  clear hb0 x0 z0
  go_enter Tryd.func7, Tryd.ntmps7
  go_wp2_with fail
  refine (unhide KCRA _ (unhide B0)).mono ?_
  rintro e w1 ⟨rfl, hb1⟩
  have x1 := (unhide X0).all hb1
  have z1 := (unhide Z0).all hb1
  have B1 := hide ((unhide B0).trans (hb1.mono (unhide B0).size))
  have X1 := hide x1; have Z1 := hide z1
  try clear y0 y1 y2 v0 v1 v2
  have y0 := x1.c0; have y1 := x1.c1; have y2 := x1.c2; have v0 := z1.c0; have v1 := z1.c1; have v2 := z1.c2
  clear hb1 x1 z1 B0 X0 Z0
  go_wp2_with fail
  refine (unhide KCRB _ (unhide B1)).mono ?_
  rintro e w2 ⟨rfl, hb2⟩
  have x2 := (unhide X1).all hb2
  have z2 := (unhide Z1).all hb2
  have B2 := hide ((unhide B1).trans (hb2.mono (unhide B1).size))
  have X2 := hide x2; have Z2 := hide z2
  try clear y0 y1 y2 v0 v1 v2
  have y0 := x2.c0; have y1 := x2.c1; have y2 := x2.c2; have v0 := z2.c0; have v1 := z2.c1; have v2 := z2.c2
  clear hb2 x2 z2 B1 X1 Z1
  go_wp2_with fail
  refine (unhide KCOA _ (unhide B2)).mono ?_
  rintro e w3 ⟨rfl, hb3⟩
  have x3 := (unhide X2).all hb3
  have z3 := (unhide Z2).all hb3
  have B3 := hide ((unhide B2).trans (hb3.mono (unhide B2).size))
  have X3 := hide x3; have Z3 := hide z3
  try clear y0 y1 y2 v0 v1 v2
  have y0 := x3.c0; have y1 := x3.c1; have y2 := x3.c2; have v0 := z3.c0; have v1 := z3.c1; have v2 := z3.c2
  clear hb3 x3 z3 B2 X2 Z2
  go_wp2_with fail
  refine (unhide KCOB _ (unhide B3)).mono ?_
  rintro e w4 ⟨rfl, hb4⟩
  have x4 := (unhide X3).all hb4
  have z4 := (unhide Z3).all hb4
  have B4 := hide ((unhide B3).trans (hb4.mono (unhide B3).size))
  have X4 := hide x4; have Z4 := hide z4
  try clear y0 y1 y2 v0 v1 v2
  have y0 := x4.c0; have y1 := x4.c1; have y2 := x4.c2; have v0 := z4.c0; have v1 := z4.c1; have v2 := z4.c2
  clear hb4 x4 z4 B3 X3 Z3
  go_wp2_with fail
  refine (unhide KCCM _ (unhide B4)).mono ?_
  rintro e w5 ⟨rfl, hb5⟩
  have x5 := (unhide X4).all hb5
  have z5 := (unhide Z4).all hb5
  have B5 := hide ((unhide B4).trans (hb5.mono (unhide B4).size))
  have X5 := hide x5; have Z5 := hide z5
  try clear y0 y1 y2 v0 v1 v2
  have y0 := x5.c0; have y1 := x5.c1; have y2 := x5.c2; have v0 := z5.c0; have v1 := z5.c1; have v2 := z5.c2
  clear hb5 x5 z5 B4 X4 Z4
  go_wp2_with fail
  refine (unhide KCW _ (unhide B5)).mono ?_
  rintro e w6 ⟨rfl, hb6⟩
  have x6 := (unhide X5).all hb6
  have z6 := (unhide Z5).all hb6
  have B6 := hide ((unhide B5).trans (hb6.mono (unhide B5).size))
  have X6 := hide x6; have Z6 := hide z6
  try clear y0 y1 y2 v0 v1 v2
  have y0 := x6.c0; have y1 := x6.c1; have y2 := x6.c2; have v0 := z6.c0; have v1 := z6.c1; have v2 := z6.c2
  clear hb6 x6 z6 B5 X5 Z5
  go_wp2
  go_ret
  exact ⟨rfl, unhide B6⟩

set_option maxHeartbeats 4000000 in
theorem softRises_mme (na nb : Bool) (ao bo : Option Addr) (ca cb la lb : Nat) (x y : Int) (w : World) (R S : Nat) (f1 f2 : Int) (g1 : decide ((60 : Int) < la) = false) (g2 : decide ((60 : Int) < lb) = false) (hO : FloatKind.f64.format.order R S = some .eq)
    (CRA : ∀ w', Below w.heap.size w w' → Calls Tryd.prog 21 #[.agg #[.bool na, .slice ao la ca, .int .i64 x]] w' fun r w'' => r = .returned (.bool true) ∧ Below w'.heap.size w' w'')
    (CRB : ∀ w', Below w.heap.size w w' → Calls Tryd.prog 21 #[.agg #[.bool nb, .slice bo lb cb, .int .i64 y]] w' fun r w'' => r = .returned (.bool true) ∧ Below w'.heap.size w' w'')
    (COA : ∀ w', Below w.heap.size w w' → Calls Tryd.prog 22 #[.agg #[.bool na, .slice ao la ca, .int .i64 x]] w' fun r w'' => r = .returned (.tuple #[.int .u64 R, .int .u8 f1, .int .i64 0]) ∧ Below w'.heap.size w' w'')
    (COB : ∀ w', Below w.heap.size w w' → Calls Tryd.prog 22 #[.agg #[.bool nb, .slice bo lb cb, .int .i64 y]] w' fun r w'' => r = .returned (.tuple #[.int .u64 S, .int .u8 f2, .int .i64 0]) ∧ Below w'.heap.size w' w'')
    (CCM : ∀ w', Below w.heap.size w w' → Calls Tryd.prog 24 #[.agg #[.bool na, .slice ao la ca, .int .i64 x], .agg #[.bool nb, .slice bo lb cb, .int .i64 y]] w' fun r w'' => r = .returned (.int .i64 (-1)) ∧ Below w'.heap.size w' w'')
    (CW : ∀ w', Below w.heap.size w w' → Calls Tryd.prog 17 #[] w' fun r w'' => r = .returned (.bool true) ∧ Below w'.heap.size w' w'') :
    Calls Tryd.prog 7 #[.agg #[.bool na, .slice ao la ca, .int .i64 x], .agg #[.bool nb, .slice bo lb cb, .int .i64 y]] w fun r w' => r = .returned (.bool true) ∧ Below w.heap.size w w' := by
  have KCRA := hide CRA
  have KCRB := hide CRB
  have KCOA := hide COA
  have KCOB := hide COB
  have KCCM := hide CCM
  have KCW := hide CW
  clear CW CRA CRB COA COB CCM
  have hF1 := fun W => frombits_run R W
  have hF2 := fun W => frombits_run S W
  have hb0 : Below w.heap.size w ((w.alloc (.cells #[.bool na, .slice ao la ca, .int .i64 x] 32)).alloc (.cells #[.bool nb, .slice bo lb cb, .int .i64 y] 32)) := ((Below.refl _ _).alloc (Nat.le_refl _) _).alloc (by simp) _
  have x0 : Box3 ((w.alloc (.cells #[.bool na, .slice ao la ca, .int .i64 x] 32)).alloc (.cells #[.bool nb, .slice bo lb cb, .int .i64 y] 32)) w.heap.size (.bool na) (.slice ao la ca) (.int .i64 x) := (Box3.new _ _ _ _).old _
  have z0 : Box3 ((w.alloc (.cells #[.bool na, .slice ao la ca, .int .i64 x] 32)).alloc (.cells #[.bool nb, .slice bo lb cb, .int .i64 y] 32)) (w.heap.size + 1) (.bool nb) (.slice bo lb cb) (.int .i64 y) := by
    have := Box3.new (w.alloc (.cells #[.bool na, .slice ao la ca, .int .i64 x] 32)) (.bool nb) (.slice bo lb cb) (.int .i64 y)
    simpa using this
  have B0 := hide hb0; have X0 := hide x0; have Z0 := hide z0
  clear hb0 x0 z0
  go_enter Tryd.func7, Tryd.ntmps7
  go_wp2_with fail
  refine (unhide KCRA _ (unhide B0)).mono ?_
  rintro e w1 ⟨rfl, hb1⟩
  have x1 := (unhide X0).all hb1
  have z1 := (unhide Z0).all hb1
  have B1 := hide ((unhide B0).trans (hb1.mono (unhide B0).size))
  have X1 := hide x1; have Z1 := hide z1
  try clear y0 y1 y2 v0 v1 v2
  have y0 := x1.c0; have y1 := x1.c1; have y2 := x1.c2; have v0 := z1.c0; have v1 := z1.c1; have v2 := z1.c2
  clear hb1 x1 z1 B0 X0 Z0
  go_wp2_with fail
  refine (unhide KCRB _ (unhide B1)).mono ?_
  rintro e w2 ⟨rfl, hb2⟩
  have x2 := (unhide X1).all hb2
  have z2 := (unhide Z1).all hb2
  have B2 := hide ((unhide B1).trans (hb2.mono (unhide B1).size))
  have X2 := hide x2; have Z2 := hide z2
  try clear y0 y1 y2 v0 v1 v2
  have y0 := x2.c0; have y1 := x2.c1; have y2 := x2.c2; have v0 := z2.c0; have v1 := z2.c1; have v2 := z2.c2
  clear hb2 x2 z2 B1 X1 Z1
  go_wp2_with fail
  refine (unhide KCOA _ (unhide B2)).mono ?_
  rintro e w3 ⟨rfl, hb3⟩
  have x3 := (unhide X2).all hb3
  have z3 := (unhide Z2).all hb3
  have B3 := hide ((unhide B2).trans (hb3.mono (unhide B2).size))
  have X3 := hide x3; have Z3 := hide z3
  try clear y0 y1 y2 v0 v1 v2
  have y0 := x3.c0; have y1 := x3.c1; have y2 := x3.c2; have v0 := z3.c0; have v1 := z3.c1; have v2 := z3.c2
  clear hb3 x3 z3 B2 X2 Z2
  go_wp2_with fail
  refine (unhide KCOB _ (unhide B3)).mono ?_
  rintro e w4 ⟨rfl, hb4⟩
  have x4 := (unhide X3).all hb4
  have z4 := (unhide Z3).all hb4
  have B4 := hide ((unhide B3).trans (hb4.mono (unhide B3).size))
  have X4 := hide x4; have Z4 := hide z4
  try clear y0 y1 y2 v0 v1 v2
  have y0 := x4.c0; have y1 := x4.c1; have y2 := x4.c2; have v0 := z4.c0; have v1 := z4.c1; have v2 := z4.c2
  clear hb4 x4 z4 B3 X3 Z3
  go_wp2_with fail
  refine (unhide KCCM _ (unhide B4)).mono ?_
  rintro e w5 ⟨rfl, hb5⟩
  have x5 := (unhide X4).all hb5
  have z5 := (unhide Z4).all hb5
  have B5 := hide ((unhide B4).trans (hb5.mono (unhide B4).size))
  have X5 := hide x5; have Z5 := hide z5
  try clear y0 y1 y2 v0 v1 v2
  have y0 := x5.c0; have y1 := x5.c1; have y2 := x5.c2; have v0 := z5.c0; have v1 := z5.c1; have v2 := z5.c2
  clear hb5 x5 z5 B4 X4 Z4
  go_wp2_with fail
  refine (unhide KCW _ (unhide B5)).mono ?_
  rintro e w6 ⟨rfl, hb6⟩
  have x6 := (unhide X5).all hb6
  have z6 := (unhide Z5).all hb6
  have B6 := hide ((unhide B5).trans (hb6.mono (unhide B5).size))
  have X6 := hide x6; have Z6 := hide z6
  try clear y0 y1 y2 v0 v1 v2
  have y0 := x6.c0; have y1 := x6.c1; have y2 := x6.c2; have v0 := z6.c0; have v1 := z6.c1; have v2 := z6.c2
  clear hb6 x6 z6 B5 X5 Z5
  go_wp2
  go_ret
  exact ⟨rfl, unhide B6⟩

set_option maxHeartbeats 4000000 in
theorem softRises_mee (na nb : Bool) (ao bo : Option Addr) (ca cb la lb : Nat) (x y : Int) (w : World) (R S : Nat) (f1 f2 : Int) (g1 : decide ((60 : Int) < la) = false) (g2 : decide ((60 : Int) < lb) = false) (hO : FloatKind.f64.format.order R S = some .eq)
    (CRA : ∀ w', Below w.heap.size w w' → Calls Tryd.prog 21 #[.agg #[.bool na, .slice ao la ca, .int .i64 x]] w' fun r w'' => r = .returned (.bool true) ∧ Below w'.heap.size w' w'')
    (CRB : ∀ w', Below w.heap.size w w' → Calls Tryd.prog 21 #[.agg #[.bool nb, .slice bo lb cb, .int .i64 y]] w' fun r w'' => r = .returned (.bool true) ∧ Below w'.heap.size w' w'')
    (COA : ∀ w', Below w.heap.size w w' → Calls Tryd.prog 22 #[.agg #[.bool na, .slice ao la ca, .int .i64 x]] w' fun r w'' => r = .returned (.tuple #[.int .u64 R, .int .u8 f1, .int .i64 0]) ∧ Below w'.heap.size w' w'')
    (COB : ∀ w', Below w.heap.size w w' → Calls Tryd.prog 22 #[.agg #[.bool nb, .slice bo lb cb, .int .i64 y]] w' fun r w'' => r = .returned (.tuple #[.int .u64 S, .int .u8 f2, .int .i64 0]) ∧ Below w'.heap.size w' w'')
    (CCM : ∀ w', Below w.heap.size w w' → Calls Tryd.prog 24 #[.agg #[.bool na, .slice ao la ca, .int .i64 x], .agg #[.bool nb, .slice bo lb cb, .int .i64 y]] w' fun r w'' => r = .returned (.int .i64 (0)) ∧ Below w'.heap.size w' w'')
    (CW : ∀ w', Below w.heap.size w w' → Calls Tryd.prog 17 #[] w' fun r w'' => r = .returned (.bool true) ∧ Below w'.heap.size w' w'') :
    Calls Tryd.prog 7 #[.agg #[.bool na, .slice ao la ca, .int .i64 x], .agg #[.bool nb, .slice bo lb cb, .int .i64 y]] w fun r w' => r = .returned (.bool true) ∧ Below w.heap.size w w' := by
  have KCRA := hide CRA
  have KCRB := hide CRB
  have KCOA := hide COA
  have KCOB := hide COB
  have KCCM := hide CCM
  have KCW := hide CW
  clear CW CRA CRB COA COB CCM
  have hF1 := fun W => frombits_run R W
  have hF2 := fun W => frombits_run S W
  have hb0 : Below w.heap.size w ((w.alloc (.cells #[.bool na, .slice ao la ca, .int .i64 x] 32)).alloc (.cells #[.bool nb, .slice bo lb cb, .int .i64 y] 32)) := ((Below.refl _ _).alloc (Nat.le_refl _) _).alloc (by simp) _
  have x0 : Box3 ((w.alloc (.cells #[.bool na, .slice ao la ca, .int .i64 x] 32)).alloc (.cells #[.bool nb, .slice bo lb cb, .int .i64 y] 32)) w.heap.size (.bool na) (.slice ao la ca) (.int .i64 x) := (Box3.new _ _ _ _).old _
  have z0 : Box3 ((w.alloc (.cells #[.bool na, .slice ao la ca, .int .i64 x] 32)).alloc (.cells #[.bool nb, .slice bo lb cb, .int .i64 y] 32)) (w.heap.size + 1) (.bool nb) (.slice bo lb cb) (.int .i64 y) := by
    have := Box3.new (w.alloc (.cells #[.bool na, .slice ao la ca, .int .i64 x] 32)) (.bool nb) (.slice bo lb cb) (.int .i64 y)
    simpa using this
  have B0 := hide hb0; have X0 := hide x0; have Z0 := hide z0
  clear hb0 x0 z0
  go_enter Tryd.func7, Tryd.ntmps7
  go_wp2_with fail
  refine (unhide KCRA _ (unhide B0)).mono ?_
  rintro e w1 ⟨rfl, hb1⟩
  have x1 := (unhide X0).all hb1
  have z1 := (unhide Z0).all hb1
  have B1 := hide ((unhide B0).trans (hb1.mono (unhide B0).size))
  have X1 := hide x1; have Z1 := hide z1
  try clear y0 y1 y2 v0 v1 v2
  have y0 := x1.c0; have y1 := x1.c1; have y2 := x1.c2; have v0 := z1.c0; have v1 := z1.c1; have v2 := z1.c2
  clear hb1 x1 z1 B0 X0 Z0
  go_wp2_with fail
  refine (unhide KCRB _ (unhide B1)).mono ?_
  rintro e w2 ⟨rfl, hb2⟩
  have x2 := (unhide X1).all hb2
  have z2 := (unhide Z1).all hb2
  have B2 := hide ((unhide B1).trans (hb2.mono (unhide B1).size))
  have X2 := hide x2; have Z2 := hide z2
  try clear y0 y1 y2 v0 v1 v2
  have y0 := x2.c0; have y1 := x2.c1; have y2 := x2.c2; have v0 := z2.c0; have v1 := z2.c1; have v2 := z2.c2
  clear hb2 x2 z2 B1 X1 Z1
  go_wp2_with fail
  refine (unhide KCOA _ (unhide B2)).mono ?_
  rintro e w3 ⟨rfl, hb3⟩
  have x3 := (unhide X2).all hb3
  have z3 := (unhide Z2).all hb3
  have B3 := hide ((unhide B2).trans (hb3.mono (unhide B2).size))
  have X3 := hide x3; have Z3 := hide z3
  try clear y0 y1 y2 v0 v1 v2
  have y0 := x3.c0; have y1 := x3.c1; have y2 := x3.c2; have v0 := z3.c0; have v1 := z3.c1; have v2 := z3.c2
  clear hb3 x3 z3 B2 X2 Z2
  go_wp2_with fail
  refine (unhide KCOB _ (unhide B3)).mono ?_
  rintro e w4 ⟨rfl, hb4⟩
  have x4 := (unhide X3).all hb4
  have z4 := (unhide Z3).all hb4
  have B4 := hide ((unhide B3).trans (hb4.mono (unhide B3).size))
  have X4 := hide x4; have Z4 := hide z4
  try clear y0 y1 y2 v0 v1 v2
  have y0 := x4.c0; have y1 := x4.c1; have y2 := x4.c2; have v0 := z4.c0; have v1 := z4.c1; have v2 := z4.c2
  clear hb4 x4 z4 B3 X3 Z3
  go_wp2_with fail
  refine (unhide KCCM _ (unhide B4)).mono ?_
  rintro e w5 ⟨rfl, hb5⟩
  have x5 := (unhide X4).all hb5
  have z5 := (unhide Z4).all hb5
  have B5 := hide ((unhide B4).trans (hb5.mono (unhide B4).size))
  have X5 := hide x5; have Z5 := hide z5
  try clear y0 y1 y2 v0 v1 v2
  have y0 := x5.c0; have y1 := x5.c1; have y2 := x5.c2; have v0 := z5.c0; have v1 := z5.c1; have v2 := z5.c2
  clear hb5 x5 z5 B4 X4 Z4
  go_wp2_with fail
  refine (unhide KCW _ (unhide B5)).mono ?_
  rintro e w6 ⟨rfl, hb6⟩
  have x6 := (unhide X5).all hb6
  have z6 := (unhide Z5).all hb6
  have B6 := hide ((unhide B5).trans (hb6.mono (unhide B5).size))
  have X6 := hide x6; have Z6 := hide z6
  try clear y0 y1 y2 v0 v1 v2
  have y0 := x6.c0; have y1 := x6.c1; have y2 := x6.c2; have v0 := z6.c0; have v1 := z6.c1; have v2 := z6.c2
  clear hb6 x6 z6 B5 X5 Z5
  go_wp2
  go_ret
  exact ⟨rfl, unhide B6⟩

set_option maxHeartbeats 4000000 in
theorem softRises_mgg (na nb : Bool) (ao bo : Option Addr) (ca cb la lb : Nat) (x y : Int) (w : World) (R S : Nat) (f1 f2 : Int) (g1 : decide ((60 : Int) < la) = false) (g2 : decide ((60 : Int) < lb) = false) (hO : FloatKind.f64.format.order R S = some .gt)
    (CRA : ∀ w', Below w.heap.size w w' → Calls Tryd.prog 21 #[.agg #[.bool na, .slice ao la ca, .int .i64 x]] w' fun r w'' => r = .returned (.bool true) ∧ Below w'.heap.size w' w'')
    (CRB : ∀ w', Below w.heap.size w w' → Calls Tryd.prog 21 #[.agg #[.bool nb, .slice bo lb cb, .int .i64 y]] w' fun r w'' => r = .returned (.bool true) ∧ Below w'.heap.size w' w'')
    (COA : ∀ w', Below w.heap.size w w' → Calls Tryd.prog 22 #[.agg #[.bool na, .slice ao la ca, .int .i64 x]] w' fun r w'' => r = .returned (.tuple #[.int .u64 R, .int .u8 f1, .int .i64 0]) ∧ Below w'.heap.size w' w'')
    (COB : ∀ w', Below w.heap.size w w' → Calls Tryd.prog 22 #[.agg #[.bool nb, .slice bo lb cb, .int .i64 y]] w' fun r w'' => r = .returned (.tuple #[.int .u64 S, .int .u8 f2, .int .i64 0]) ∧ Below w'.heap.size w' w'')
    (CCM : ∀ w', Below w.heap.size w w' → Calls Tryd.prog 24 #[.agg #[.bool na, .slice ao la ca, .int .i64 x], .agg #[.bool nb, .slice bo lb cb, .int .i64 y]] w' fun r w'' => r = .returned (.int .i64 (1)) ∧ Below w'.heap.size w' w'')
    (CW : ∀ w', Below w.heap.size w w' → Calls Tryd.prog 17 #[] w' fun r w'' => r = .returned (.bool true) ∧ Below w'.heap.size w' w'') :
    Calls Tryd.prog 7 #[.agg #[.bool na, .slice ao la ca, .int .i64 x], .agg #[.bool nb, .slice bo lb cb, .int .i64 y]] w fun r w' => r = .returned (.bool true) ∧ Below w.heap.size w w' := by
  have KCRA := hide CRA
  have KCRB := hide CRB
  have KCOA := hide COA
  have KCOB := hide COB
  have KCCM := hide CCM
  have KCW := hide CW
  clear CW CRA CRB COA COB CCM
  have hF1 := fun W => frombits_run R W
  have hF2 := fun W => frombits_run S W
  have hb0 : Below w.heap.size w ((w.alloc (.cells #[.bool na, .slice ao la ca, .int .i64 x] 32)).alloc (.cells #[.bool nb, .slice bo lb cb, .int .i64 y] 32)) := ((Below.refl _ _).alloc (Nat.le_refl _) _).alloc (by simp) _
  have x0 : Box3 ((w.alloc (.cells #[.bool na, .slice ao la ca, .int .i64 x] 32)).alloc (.cells #[.bool nb, .slice bo lb cb, .int .i64 y] 32)) w.heap.size (.bool na) (.slice ao la ca) (.int .i64 x) := (Box3.new _ _ _ _).old _
  have z0 : Box3 ((w.alloc (.cells #[.bool na, .slice ao la ca, .int .i64 x] 32)).alloc (.cells #[.bool nb, .slice bo lb cb, .int .i64 y] 32)) (w.heap.size + 1) (.bool nb) (.slice bo lb cb) (.int .i64 y) := by
    have := Box3.new (w.alloc (.cells #[.bool na, .slice ao la ca, .int .i64 x] 32)) (.bool nb) (.slice bo lb cb) (.int .i64 y)
    simpa using this
  have B0 := hide hb0; have X0 := hide x0; have Z0 := hide z0
  clear hb0 x0 z0
  go_enter Tryd.func7, Tryd.ntmps7
  go_wp2_with fail
  refine (unhide KCRA _ (unhide B0)).mono ?_
  rintro e w1 ⟨rfl, hb1⟩
  have x1 := (unhide X0).all hb1
  have z1 := (unhide Z0).all hb1
  have B1 := hide ((unhide B0).trans (hb1.mono (unhide B0).size))
  have X1 := hide x1; have Z1 := hide z1
  try clear y0 y1 y2 v0 v1 v2
  have y0 := x1.c0; have y1 := x1.c1; have y2 := x1.c2; have v0 := z1.c0; have v1 := z1.c1; have v2 := z1.c2
  clear hb1 x1 z1 B0 X0 Z0
  go_wp2_with fail
  refine (unhide KCRB _ (unhide B1)).mono ?_
  rintro e w2 ⟨rfl, hb2⟩
  have x2 := (unhide X1).all hb2
  have z2 := (unhide Z1).all hb2
  have B2 := hide ((unhide B1).trans (hb2.mono (unhide B1).size))
  have X2 := hide x2; have Z2 := hide z2
  try clear y0 y1 y2 v0 v1 v2
  have y0 := x2.c0; have y1 := x2.c1; have y2 := x2.c2; have v0 := z2.c0; have v1 := z2.c1; have v2 := z2.c2
  clear hb2 x2 z2 B1 X1 Z1
  go_wp2_with fail
  refine (unhide KCOA _ (unhide B2)).mono ?_
  rintro e w3 ⟨rfl, hb3⟩
  have x3 := (unhide X2).all hb3
  have z3 := (unhide Z2).all hb3
  have B3 := hide ((unhide B2).trans (hb3.mono (unhide B2).size))
  have X3 := hide x3; have Z3 := hide z3
  try clear y0 y1 y2 v0 v1 v2
  have y0 := x3.c0; have y1 := x3.c1; have y2 := x3.c2; have v0 := z3.c0; have v1 := z3.c1; have v2 := z3.c2
  clear hb3 x3 z3 B2 X2 Z2
  go_wp2_with fail
  refine (unhide KCOB _ (unhide B3)).mono ?_
  rintro e w4 ⟨rfl, hb4⟩
  have x4 := (unhide X3).all hb4
  have z4 := (unhide Z3).all hb4
  have B4 := hide ((unhide B3).trans (hb4.mono (unhide B3).size))
  have X4 := hide x4; have Z4 := hide z4
  try clear y0 y1 y2 v0 v1 v2
  have y0 := x4.c0; have y1 := x4.c1; have y2 := x4.c2; have v0 := z4.c0; have v1 := z4.c1; have v2 := z4.c2
  clear hb4 x4 z4 B3 X3 Z3
  go_wp2_with fail
  refine (unhide KCCM _ (unhide B4)).mono ?_
  rintro e w5 ⟨rfl, hb5⟩
  have x5 := (unhide X4).all hb5
  have z5 := (unhide Z4).all hb5
  have B5 := hide ((unhide B4).trans (hb5.mono (unhide B4).size))
  have X5 := hide x5; have Z5 := hide z5
  try clear y0 y1 y2 v0 v1 v2
  have y0 := x5.c0; have y1 := x5.c1; have y2 := x5.c2; have v0 := z5.c0; have v1 := z5.c1; have v2 := z5.c2
  clear hb5 x5 z5 B4 X4 Z4
  go_wp2_with fail
  refine (unhide KCW _ (unhide B5)).mono ?_
  rintro e w6 ⟨rfl, hb6⟩
  have x6 := (unhide X5).all hb6
  have z6 := (unhide Z5).all hb6
  have B6 := hide ((unhide B5).trans (hb6.mono (unhide B5).size))
  have X6 := hide x6; have Z6 := hide z6
  try clear y0 y1 y2 v0 v1 v2
  have y0 := x6.c0; have y1 := x6.c1; have y2 := x6.c2; have v0 := z6.c0; have v1 := z6.c1; have v2 := z6.c2
  clear hb6 x6 z6 B5 X5 Z5
  go_wp2
  go_ret
  exact ⟨rfl, unhide B6⟩

set_option maxHeartbeats 4000000 in
theorem softRises_mge (na nb : Bool) (ao bo : Option Addr) (ca cb la lb : Nat) (x y : Int) (w : World) (R S : Nat) (f1 f2 : Int) (g1 : decide ((60 : Int) < la) = false) (g2 : decide ((60 : Int) < lb) = false) (hO : FloatKind.f64.format.order R S = some .eq)
    (CRA : ∀ w', Below w.heap.size w w' → Calls Tryd.prog 21 #[.agg #[.bool na, .slice ao la ca, .int .i64 x]] w' fun r w'' => r = .returned (.bool true) ∧ Below w'.heap.size w' w'')
    (CRB : ∀ w', Below w.heap.size w w' → Calls Tryd.prog 21 #[.agg #[.bool nb, .slice bo lb cb, .int .i64 y]] w' fun r w'' => r = .returned (.bool true) ∧ Below w'.heap.size w' w'')
    (COA : ∀ w', Below w.heap.size w w' → Calls Tryd.prog 22 #[.agg #[.bool na, .slice ao la ca, .int .i64 x]] w' fun r w'' => r = .returned (.tuple #[.int .u64 R, .int .u8 f1, .int .i64 0]) ∧ Below w'.heap.size w' w'')
    (COB : ∀ w', Below w.heap.size w w' → Calls Tryd.prog 22 #[.agg #[.bool nb, .slice bo lb cb, .int .i64 y]] w' fun r w'' => r = .returned (.tuple #[.int .u64 S, .int .u8 f2, .int .i64 0]) ∧ Below w'.heap.size w' w'')
    (CCM : ∀ w', Below w.heap.size w w' → Calls Tryd.prog 24 #[.agg #[.bool na, .slice ao la ca, .int .i64 x], .agg #[.bool nb, .slice bo lb cb, .int .i64 y]] w' fun r w'' => r = .returned (.int .i64 (1)) ∧ Below w'.heap.size w' w'')
    (CW : ∀ w', Below w.heap.size w w' → Calls Tryd.prog 17 #[] w' fun r w'' => r = .returned (.bool true) ∧ Below w'.heap.size w' w'') :
    Calls Tryd.prog 7 #[.agg #[.bool na, .slice ao la ca, .int .i64 x], .agg #[.bool nb, .slice bo lb cb, .int .i64 y]] w fun r w' => r = .returned (.bool true) ∧ Below w.heap.size w w' := by
  have KCRA := hide CRA
  have KCRB := hide CRB
  have KCOA := hide COA
  have KCOB := hide COB
  have KCCM := hide CCM
  have KCW := hide CW
  clear CW CRA CRB COA COB CCM
  have hF1 := fun W => frombits_run R W
  have hF2 := fun W => frombits_run S W
  have hb0 : Below w.heap.size w ((w.alloc (.cells #[.bool na, .slice ao la ca, .int .i64 x] 32)).alloc (.cells #[.bool nb, .slice bo lb cb, .int .i64 y] 32)) := ((Below.refl _ _).alloc (Nat.le_refl _) _).alloc (by simp) _
  have x0 : Box3 ((w.alloc (.cells #[.bool na, .slice ao la ca, .int .i64 x] 32)).alloc (.cells #[.bool nb, .slice bo lb cb, .int .i64 y] 32)) w.heap.size (.bool na) (.slice ao la ca) (.int .i64 x) := (Box3.new _ _ _ _).old _
  have z0 : Box3 ((w.alloc (.cells #[.bool na, .slice ao la ca, .int .i64 x] 32)).alloc (.cells #[.bool nb, .slice bo lb cb, .int .i64 y] 32)) (w.heap.size + 1) (.bool nb) (.slice bo lb cb) (.int .i64 y) := by
    have := Box3.new (w.alloc (.cells #[.bool na, .slice ao la ca, .int .i64 x] 32)) (.bool nb) (.slice bo lb cb) (.int .i64 y)
    simpa using this
  have B0 := hide hb0; have X0 := hide x0; have Z0 := hide z0
  clear hb0 x0 z0
  go_enter Tryd.func7, Tryd.ntmps7
  go_wp2_with fail
  refine (unhide KCRA _ (unhide B0)).mono ?_
  rintro e w1 ⟨rfl, hb1⟩
  have x1 := (unhide X0).all hb1
  have z1 := (unhide Z0).all hb1
  have B1 := hide ((unhide B0).trans (hb1.mono (unhide B0).size))
  have X1 := hide x1; have Z1 := hide z1
  try clear y0 y1 y2 v0 v1 v2
  have y0 := x1.c0; have y1 := x1.c1; have y2 := x1.c2; have v0 := z1.c0; have v1 := z1.c1; have v2 := z1.c2
  clear hb1 x1 z1 B0 X0 Z0
  go_wp2_with fail
  refine (unhide KCRB _ (unhide B1)).mono ?_
  rintro e w2 ⟨rfl, hb2⟩
  have x2 := (unhide X1).all hb2
  have z2 := (unhide Z1).all hb2
  have B2 := hide ((unhide B1).trans (hb2.mono (unhide B1).size))
  have X2 := hide x2; have Z2 := hide z2
  try clear y0 y1 y2 v0 v1 v2
  have y0 := x2.c0; have y1 := x2.c1; have y2 := x2.c2; have v0 := z2.c0; have v1 := z2.c1; have v2 := z2.c2
  clear hb2 x2 z2 B1 X1 Z1
  go_wp2_with fail
  refine (unhide KCOA _ (unhide B2)).mono ?_
  rintro e w3 ⟨rfl, hb3⟩
  have x3 := (unhide X2).all hb3
  have z3 := (unhide Z2).all hb3
  have B3 := hide ((unhide B2).trans (hb3.mono (unhide B2).size))
  have X3 := hide x3; have Z3 := hide z3
  try clear y0 y1 y2 v0 v1 v2
  have y0 := x3.c0; have y1 := x3.c1; have y2 := x3.c2; have v0 := z3.c0; have v1 := z3.c1; have v2 := z3.c2
  clear hb3 x3 z3 B2 X2 Z2
  go_wp2_with fail
  refine (unhide KCOB _ (unhide B3)).mono ?_
  rintro e w4 ⟨rfl, hb4⟩
  have x4 := (unhide X3).all hb4
  have z4 := (unhide Z3).all hb4
  have B4 := hide ((unhide B3).trans (hb4.mono (unhide B3).size))
  have X4 := hide x4; have Z4 := hide z4
  try clear y0 y1 y2 v0 v1 v2
  have y0 := x4.c0; have y1 := x4.c1; have y2 := x4.c2; have v0 := z4.c0; have v1 := z4.c1; have v2 := z4.c2
  clear hb4 x4 z4 B3 X3 Z3
  go_wp2_with fail
  refine (unhide KCCM _ (unhide B4)).mono ?_
  rintro e w5 ⟨rfl, hb5⟩
  have x5 := (unhide X4).all hb5
  have z5 := (unhide Z4).all hb5
  have B5 := hide ((unhide B4).trans (hb5.mono (unhide B4).size))
  have X5 := hide x5; have Z5 := hide z5
  try clear y0 y1 y2 v0 v1 v2
  have y0 := x5.c0; have y1 := x5.c1; have y2 := x5.c2; have v0 := z5.c0; have v1 := z5.c1; have v2 := z5.c2
  clear hb5 x5 z5 B4 X4 Z4
  go_wp2_with fail
  refine (unhide KCW _ (unhide B5)).mono ?_
  rintro e w6 ⟨rfl, hb6⟩
  have x6 := (unhide X5).all hb6
  have z6 := (unhide Z5).all hb6
  have B6 := hide ((unhide B5).trans (hb6.mono (unhide B5).size))
  have X6 := hide x6; have Z6 := hide z6
  try clear y0 y1 y2 v0 v1 v2
  have y0 := x6.c0; have y1 := x6.c1; have y2 := x6.c2; have v0 := z6.c0; have v1 := z6.c1; have v2 := z6.c2
  clear hb6 x6 z6 B5 X5 Z5
  go_wp2
  go_ret
  exact ⟨rfl, unhide B6⟩

theorem softRises_walk (na nb : Bool) (ao bo : Option Addr) (ca cb : Nat) (A B : List Nat) (x y : Int) (w : World) (hA : LimbsAt w ao ca A) (hB : LimbsAt w bo cb B) (la : A.length ≤ 35184372087808) (lb : B.length ≤ 35184372087808) (_bx : -9223372036854775808 ≤ x ∧ x ≤ 9223372036854775807) (_by : -9223372036854775808 ≤ y ∧ y ≤ 9223372036854775807) (hT : Tab w) :
    Calls Tryd.prog 7 #[.agg #[.bool na, .slice ao A.length ca, .int .i64 x], .agg #[.bool nb, .slice bo B.length cb, .int .i64 y]] w fun r w' => r = .returned (.bool true) ∧ Below w.heap.size w w' := by
  have CRA := fun w' (hb : Below w.heap.size w w') => dright_any na ao ca A x w' (hA.below hb) (by omega)
  have CRB := fun w' (hb : Below w.heap.size w w') => dright_any nb bo cb B y w' (hB.below hb) (by omega)
  have CW := fun w' (hb : Below w.heap.size w w') => awake4_any w' (hT.all hb)
  by_cases g1 : 60 < A.length
  · exact softRises_la na nb ao bo ca cb A.length B.length x y w (decide_eq_true (by omega)) CW
  have k1 : decide ((60 : Int) < (A.length : Int)) = false := decide_eq_false (by omega)
  by_cases g2 : 60 < B.length
  · exact softRises_lb na nb ao bo ca cb A.length B.length x y w k1 (decide_eq_true (by omega)) CW
  have k2 : decide ((60 : Int) < (B.length : Int)) = false := decide_eq_false (by omega)
  cases ha : drB na A x
  · rw [ha] at CRA
    exact softRises_ra na nb ao bo ca cb A.length B.length x y w k1 k2 CRA CW
  rw [ha] at CRA
  cases hb : drB nb B y
  · rw [hb] at CRB
    exact softRises_rb na nb ao bo ca cb A.length B.length x y w k1 k2 CRA CRB CW
  rw [hb] at CRB
  have COA := fun w' (h : Below w.heap.size w w') => round_right na ao ca A x w' (hA.below h) ha (hT.all h)
  have COB := fun w' (h : Below w.heap.size w w') => round_right nb bo cb B y w' (hB.below h) hb (hT.all h)
  have CCM := fun w' (h : Below w.heap.size w w') => rcompare_any na nb ao bo ca cb A B x y w' (hA.below h) (hB.below h) ha hb
  have hO := order_wrd na nb (rnd (val A) x) (rnd (val B) y) (rnd_le _ _) (rnd_le _ _)
  rcases rises_fact ha hb with ⟨hc, ho | ho⟩ | ⟨hc, ho⟩ | ⟨hc, ho | ho⟩
  · rw [hc] at CCM; rw [ho] at hO
    exact softRises_mml na nb ao bo ca cb A.length B.length x y w _ _ _ _ k1 k2 hO CRA CRB COA COB CCM CW
  · rw [hc] at CCM; rw [ho] at hO
    exact softRises_mme na nb ao bo ca cb A.length B.length x y w _ _ _ _ k1 k2 hO CRA CRB COA COB CCM CW
  · rw [hc] at CCM; rw [ho] at hO
    exact softRises_mee na nb ao bo ca cb A.length B.length x y w _ _ _ _ k1 k2 hO CRA CRB COA COB CCM CW
  · rw [hc] at CCM; rw [ho] at hO
    exact softRises_mgg na nb ao bo ca cb A.length B.length x y w _ _ _ _ k1 k2 hO CRA CRB COA COB CCM CW
  · rw [hc] at CCM; rw [ho] at hO
    exact softRises_mge na nb ao bo ca cb A.length B.length x y w _ _ _ _ k1 k2 hO CRA CRB COA COB CCM CW

end Go.Proofs.YtkmkjeoblkdmnaaDoor

