/- Part 19 of the texts. -/
import Derived.Test.YtkmkjeoblkdmnabDoorPart18
import Derived.Deep.Cut
import Derived.Test.YtkmkjeoblkdmnabDoorPart17
import Derived.Test.YtkmkjeoblkdmnabDoorPart16
import Ieee.Arith
/- Contract of soft's roundSize. -/
namespace Go.Proofs.YtkmkjeoblkdmnabDoor
open Go.RowKit

theorem pN_lt (v : Nat) (E : Int) (h : v ≠ 0) : pN v (E - lastE v E) < 1152921504606846976 := by
  obtain ⟨l1, l2, l3⟩ := lastE_ge v E
  obtain ⟨a1, a2, a3⟩ := bl_spec v h
  generalize lastE v E = l at *
  have h54 : (2 : Nat) ^ 54 < 1152921504606846976 := by decide
  unfold pN
  split
  · obtain ⟨k, hk⟩ := Int.eq_ofNat_of_zero_le (show 0 ≤ E - l + 1 by omega)
    rw [hk, Int.toNat_natCast]
    have h1 : v * 2 ^ k < 2 ^ bl v * 2 ^ k := Nat.mul_lt_mul_of_pos_right a3 (Nat.two_pow_pos _)
    rw [← Nat.pow_add] at h1
    have h2 : (2 : Nat) ^ (bl v + k) ≤ 2 ^ 54 := pow_le2 (by omega)
    omega
  · obtain ⟨k, hk⟩ := Int.eq_ofNat_of_zero_le (show 0 ≤ -(E - l + 1) by omega)
    rw [hk, Int.toNat_natCast]
    have h1 : v < 2 ^ 54 * 2 ^ k := by
      rw [← Nat.pow_add]
      exact Nat.lt_of_lt_of_le a3 (pow_le2 (by omega))
    have h2 : v / 2 ^ k < 2 ^ 54 := Nat.div_lt_of_lt_mul (by rw [Nat.mul_comm]; exact h1)
    omega

theorem max2_run (P : Program) (w : World) (ts : Array TypeId) (t : TypeId) (x y : Int) : (Builtin.max_ ts t #[.int .i64 x, .int .i64 y]).run P w = .ok (.int .i64 (max x y)) w := by
  rw [run_max_int2]
  congr 2
  split <;> omega

set_option maxHeartbeats 4000000 in
theorem roundSize_e (na : Bool) (ao : Option Addr) (ca l M k R : Nat) (E t last : Int) (w : World) (h0 : 0 < l) (ht : -100000 ≤ t ∧ t ≤ 1024) (hl : max (t - 53) (-1074) = last) (hk : last + 1074 = k) (hk2 : k ≤ 2045) (hM : M ≤ 9007199254740992)
    (CT : ∀ w', Below w.heap.size w w' → Calls Tryd.prog 31 #[.agg #[.bool na, .slice ao l ca, .int .i64 E]] w' fun e w'' => e = .returned (.int .i64 t) ∧ Below w'.heap.size w' w'')
    (CR : ∀ w', Below w.heap.size w w' → Calls Tryd.prog 32 #[.agg #[.bool na, .slice ao l ca, .int .i64 E], .int .i64 last] w' fun e w'' => e = .returned (.int .u64 M) ∧ Below w'.heap.size w' w'')
    (hR : R = M + k * 4503599627370496) (g1 : decide (last ≤ E) = true) :
    Calls Tryd.prog 23 #[.agg #[.bool na, .slice ao l ca, .int .i64 E]] w fun e w' => e = .returned (.tuple #[.int .u64 R, .int .u8 0]) ∧ Below w.heap.size w w' := by
  have h0' : decide (0 < l) = true := decide_eq_true h0
  have hz : ((l : Int) == 0) = false := by simp; omega
  have hm := fun W ts t' => max2_run Tryd.prog W ts t' (t - 53) (-1074)
  rw [hl] at hm
  have KT := hide CT; have KR := hide CR
  have hg : decide ((1024 : Int) < t) = false := decide_eq_false (by omega)
  have w1 : IntKind.i64.wrap (t - 53) = t - 53 := by simp only [IntKind.wrap_i64]; omega
  have w2 : IntKind.i64.wrap (last - -1074) = (k : Int) := by simp only [IntKind.wrap_i64]; omega
  have w3 : IntKind.u64.wrap (k : Int) = (k : Int) := by simp only [IntKind.wrap_u64]; omega
  have HRR := hide (show (M : Int) + (k : Int) * 4503599627370496 = (R : Int) by omega)
  clear CT CR hl hR
  have B0 := hide ((Below.refl w.heap.size w).alloc (Nat.le_refl _) (.cells #[.bool na, .slice ao l ca, .int .i64 E] 37))
  have X0 := hide (Box3.new w (.bool na) (.slice ao l ca) (.int .i64 E))
  go_enter Tryd.func23, Tryd.ntmps23
  go_wp2_with fail
  refine (unhide KT _ (unhide B0)).mono ?_
  rintro e w1' ⟨rfl, hb1⟩
  have x1 := (unhide X0).all hb1
  have B1 := hide ((unhide B0).trans (hb1.mono (unhide B0).size))
  have X1 := hide x1
  have y0 := x1.c0; have y1 := x1.c1; have y2 := x1.c2
  clear hb1 x1 KT B0 X0
  go_wp2_with fail
  refine (unhide KR _ (unhide B1)).mono ?_
  rintro e w2' ⟨rfl, hb2⟩
  have x2 := (unhide X1).all hb2
  have B2 := hide ((unhide B1).trans (hb2.mono (unhide B1).size))
  clear y0 y1 y2
  have y0 := x2.c0; have y1 := x2.c1; have y2 := x2.c2
  clear hb2 x2 KR B1 X1
  go_upto_region 8 with (fail)
  rw [unhide HRR]
  clear hm w1 w2 w3 hk hk2 hM HRR h0 h0' hz hg ht
  go_wp2
  exact bodyPost_ret (v := .tuple #[.int .u64 R, .int .u8 0]) (by simp [results, Tryd.results23, go_sem]) rfl ⟨rfl, unhide B2⟩

set_option maxHeartbeats 4000000 in
theorem roundSize_i (na : Bool) (ao : Option Addr) (ca l M k R : Nat) (E t last : Int) (w : World) (h0 : 0 < l) (ht : -100000 ≤ t ∧ t ≤ 1024) (hl : max (t - 53) (-1074) = last) (hk : last + 1074 = k) (hk2 : k ≤ 2045) (hM : M ≤ 9007199254740992)
    (CT : ∀ w', Below w.heap.size w w' → Calls Tryd.prog 31 #[.agg #[.bool na, .slice ao l ca, .int .i64 E]] w' fun e w'' => e = .returned (.int .i64 t) ∧ Below w'.heap.size w' w'')
    (CR : ∀ w', Below w.heap.size w w' → Calls Tryd.prog 32 #[.agg #[.bool na, .slice ao l ca, .int .i64 E], .int .i64 last] w' fun e w'' => e = .returned (.int .u64 M) ∧ Below w'.heap.size w' w'')
    (hR : R = M + k * 4503599627370496) (g1 : decide (last ≤ E) = false) (g2 : ((R : Int) == 9218868437227405312) = true) :
    Calls Tryd.prog 23 #[.agg #[.bool na, .slice ao l ca, .int .i64 E]] w fun e w' => e = .returned (.tuple #[.int .u64 R, .int .u8 5]) ∧ Below w.heap.size w w' := by
  have h0' : decide (0 < l) = true := decide_eq_true h0
  have hz : ((l : Int) == 0) = false := by simp; omega
  have hm := fun W ts t' => max2_run Tryd.prog W ts t' (t - 53) (-1074)
  rw [hl] at hm
  have KT := hide CT; have KR := hide CR
  have hg : decide ((1024 : Int) < t) = false := decide_eq_false (by omega)
  have w1 : IntKind.i64.wrap (t - 53) = t - 53 := by simp only [IntKind.wrap_i64]; omega
  have w2 : IntKind.i64.wrap (last - -1074) = (k : Int) := by simp only [IntKind.wrap_i64]; omega
  have w3 : IntKind.u64.wrap (k : Int) = (k : Int) := by simp only [IntKind.wrap_u64]; omega
  have HRR := hide (show (M : Int) + (k : Int) * 4503599627370496 = (R : Int) by omega)
  clear CT CR hl hR
  have B0 := hide ((Below.refl w.heap.size w).alloc (Nat.le_refl _) (.cells #[.bool na, .slice ao l ca, .int .i64 E] 37))
  have X0 := hide (Box3.new w (.bool na) (.slice ao l ca) (.int .i64 E))
  go_enter Tryd.func23, Tryd.ntmps23
  go_wp2_with fail
  refine (unhide KT _ (unhide B0)).mono ?_
  rintro e w1' ⟨rfl, hb1⟩
  have x1 := (unhide X0).all hb1
  have B1 := hide ((unhide B0).trans (hb1.mono (unhide B0).size))
  have X1 := hide x1
  have y0 := x1.c0; have y1 := x1.c1; have y2 := x1.c2
  clear hb1 x1 KT B0 X0
  go_wp2_with fail
  refine (unhide KR _ (unhide B1)).mono ?_
  rintro e w2' ⟨rfl, hb2⟩
  have x2 := (unhide X1).all hb2
  have B2 := hide ((unhide B1).trans (hb2.mono (unhide B1).size))
  clear y0 y1 y2
  have y0 := x2.c0; have y1 := x2.c1; have y2 := x2.c2
  clear hb2 x2 KR B1 X1
  go_upto_region 8 with (fail)
  rw [unhide HRR]
  clear hm w1 w2 w3 hk hk2 hM HRR h0 h0' hz hg ht
  go_wp2
  exact bodyPost_ret (v := .tuple #[.int .u64 R, .int .u8 5]) (by simp [results, Tryd.results23, go_sem]) rfl ⟨rfl, unhide B2⟩

set_option maxHeartbeats 4000000 in
theorem roundSize_u (na : Bool) (ao : Option Addr) (ca l M k R : Nat) (E t last : Int) (w : World) (h0 : 0 < l) (ht : -100000 ≤ t ∧ t ≤ 1024) (hl : max (t - 53) (-1074) = last) (hk : last + 1074 = k) (hk2 : k ≤ 2045) (hM : M ≤ 9007199254740992)
    (CT : ∀ w', Below w.heap.size w w' → Calls Tryd.prog 31 #[.agg #[.bool na, .slice ao l ca, .int .i64 E]] w' fun e w'' => e = .returned (.int .i64 t) ∧ Below w'.heap.size w' w'')
    (CR : ∀ w', Below w.heap.size w w' → Calls Tryd.prog 32 #[.agg #[.bool na, .slice ao l ca, .int .i64 E], .int .i64 last] w' fun e w'' => e = .returned (.int .u64 M) ∧ Below w'.heap.size w' w'')
    (hR : R = M + k * 4503599627370496) (g1 : decide (last ≤ E) = false) (g2 : ((R : Int) == 9218868437227405312) = false) (g3 : decide ((R : Int) < 4503599627370496) = true) :
    Calls Tryd.prog 23 #[.agg #[.bool na, .slice ao l ca, .int .i64 E]] w fun e w' => e = .returned (.tuple #[.int .u64 R, .int .u8 3]) ∧ Below w.heap.size w w' := by
  have h0' : decide (0 < l) = true := decide_eq_true h0
  have hz : ((l : Int) == 0) = false := by simp; omega
  have hm := fun W ts t' => max2_run Tryd.prog W ts t' (t - 53) (-1074)
  rw [hl] at hm
  have KT := hide CT; have KR := hide CR
  have hg : decide ((1024 : Int) < t) = false := decide_eq_false (by omega)
  have w1 : IntKind.i64.wrap (t - 53) = t - 53 := by simp only [IntKind.wrap_i64]; omega
  have w2 : IntKind.i64.wrap (last - -1074) = (k : Int) := by simp only [IntKind.wrap_i64]; omega
  have w3 : IntKind.u64.wrap (k : Int) = (k : Int) := by simp only [IntKind.wrap_u64]; omega
  have HRR := hide (show (M : Int) + (k : Int) * 4503599627370496 = (R : Int) by omega)
  clear CT CR hl hR
  have B0 := hide ((Below.refl w.heap.size w).alloc (Nat.le_refl _) (.cells #[.bool na, .slice ao l ca, .int .i64 E] 37))
  have X0 := hide (Box3.new w (.bool na) (.slice ao l ca) (.int .i64 E))
  go_enter Tryd.func23, Tryd.ntmps23
  go_wp2_with fail
  refine (unhide KT _ (unhide B0)).mono ?_
  rintro e w1' ⟨rfl, hb1⟩
  have x1 := (unhide X0).all hb1
  have B1 := hide ((unhide B0).trans (hb1.mono (unhide B0).size))
  have X1 := hide x1
  have y0 := x1.c0; have y1 := x1.c1; have y2 := x1.c2
  clear hb1 x1 KT B0 X0
  go_wp2_with fail
  refine (unhide KR _ (unhide B1)).mono ?_
  rintro e w2' ⟨rfl, hb2⟩
  have x2 := (unhide X1).all hb2
  have B2 := hide ((unhide B1).trans (hb2.mono (unhide B1).size))
  clear y0 y1 y2
  have y0 := x2.c0; have y1 := x2.c1; have y2 := x2.c2
  clear hb2 x2 KR B1 X1
  go_upto_region 8 with (fail)
  rw [unhide HRR]
  clear hm w1 w2 w3 hk hk2 hM HRR h0 h0' hz hg ht
  go_wp2
  exact bodyPost_ret (v := .tuple #[.int .u64 R, .int .u8 3]) (by simp [results, Tryd.results23, go_sem]) rfl ⟨rfl, unhide B2⟩

set_option maxHeartbeats 4000000 in
theorem roundSize_n (na : Bool) (ao : Option Addr) (ca l M k R : Nat) (E t last : Int) (w : World) (h0 : 0 < l) (ht : -100000 ≤ t ∧ t ≤ 1024) (hl : max (t - 53) (-1074) = last) (hk : last + 1074 = k) (hk2 : k ≤ 2045) (hM : M ≤ 9007199254740992)
    (CT : ∀ w', Below w.heap.size w w' → Calls Tryd.prog 31 #[.agg #[.bool na, .slice ao l ca, .int .i64 E]] w' fun e w'' => e = .returned (.int .i64 t) ∧ Below w'.heap.size w' w'')
    (CR : ∀ w', Below w.heap.size w w' → Calls Tryd.prog 32 #[.agg #[.bool na, .slice ao l ca, .int .i64 E], .int .i64 last] w' fun e w'' => e = .returned (.int .u64 M) ∧ Below w'.heap.size w' w'')
    (hR : R = M + k * 4503599627370496) (g1 : decide (last ≤ E) = false) (g2 : ((R : Int) == 9218868437227405312) = false) (g3 : decide ((R : Int) < 4503599627370496) = false) :
    Calls Tryd.prog 23 #[.agg #[.bool na, .slice ao l ca, .int .i64 E]] w fun e w' => e = .returned (.tuple #[.int .u64 R, .int .u8 1]) ∧ Below w.heap.size w w' := by
  have h0' : decide (0 < l) = true := decide_eq_true h0
  have hz : ((l : Int) == 0) = false := by simp; omega
  have hm := fun W ts t' => max2_run Tryd.prog W ts t' (t - 53) (-1074)
  rw [hl] at hm
  have KT := hide CT; have KR := hide CR
  have hg : decide ((1024 : Int) < t) = false := decide_eq_false (by omega)
  have w1 : IntKind.i64.wrap (t - 53) = t - 53 := by simp only [IntKind.wrap_i64]; omega
  have w2 : IntKind.i64.wrap (last - -1074) = (k : Int) := by simp only [IntKind.wrap_i64]; omega
  have w3 : IntKind.u64.wrap (k : Int) = (k : Int) := by simp only [IntKind.wrap_u64]; omega
  have HRR := hide (show (M : Int) + (k : Int) * 4503599627370496 = (R : Int) by omega)
  clear CT CR hl hR
  have B0 := hide ((Below.refl w.heap.size w).alloc (Nat.le_refl _) (.cells #[.bool na, .slice ao l ca, .int .i64 E] 37))
  have X0 := hide (Box3.new w (.bool na) (.slice ao l ca) (.int .i64 E))
  go_enter Tryd.func23, Tryd.ntmps23
  go_wp2_with fail
  refine (unhide KT _ (unhide B0)).mono ?_
  rintro e w1' ⟨rfl, hb1⟩
  have x1 := (unhide X0).all hb1
  have B1 := hide ((unhide B0).trans (hb1.mono (unhide B0).size))
  have X1 := hide x1
  have y0 := x1.c0; have y1 := x1.c1; have y2 := x1.c2
  clear hb1 x1 KT B0 X0
  go_wp2_with fail
  refine (unhide KR _ (unhide B1)).mono ?_
  rintro e w2' ⟨rfl, hb2⟩
  have x2 := (unhide X1).all hb2
  have B2 := hide ((unhide B1).trans (hb2.mono (unhide B1).size))
  clear y0 y1 y2
  have y0 := x2.c0; have y1 := x2.c1; have y2 := x2.c2
  clear hb2 x2 KR B1 X1
  go_upto_region 8 with (fail)
  rw [unhide HRR]
  clear hm w1 w2 w3 hk hk2 hM HRR h0 h0' hz hg ht
  go_wp2
  exact bodyPost_ret (v := .tuple #[.int .u64 R, .int .u8 1]) (by simp [results, Tryd.results23, go_sem]) rfl ⟨rfl, unhide B2⟩

end Go.Proofs.YtkmkjeoblkdmnabDoor

/- Contracts of soft's roundSize, Round, any number. -/
namespace Go.Proofs.YtkmkjeoblkdmnabDoor
open Go.RowKit

set_option maxHeartbeats 4000000 in
theorem roundSize_z (na : Bool) (ao : Option Addr) (ca : Nat) (E t : Int) (w : World)
    (CT : ∀ w', Below w.heap.size w w' → Calls Tryd.prog 31 #[.agg #[.bool na, .slice ao 0 ca, .int .i64 E]] w' fun e w'' => e = .returned (.int .i64 t) ∧ Below w'.heap.size w' w'') :
    Calls Tryd.prog 23 #[.agg #[.bool na, .slice ao 0 ca, .int .i64 E]] w fun e w' => e = .returned (.tuple #[.int .u64 0, .int .u8 0]) ∧ Below w.heap.size w w' := by
  have KT := hide CT
  clear CT
  have B0 := hide ((Below.refl w.heap.size w).alloc (Nat.le_refl _) (.cells #[.bool na, .slice ao 0 ca, .int .i64 E] 37))
  have X0 := hide (Box3.new w (.bool na) (.slice ao 0 ca) (.int .i64 E))
  go_enter Tryd.func23, Tryd.ntmps23
  go_wp2_with fail
  refine (unhide KT _ (unhide B0)).mono ?_
  rintro e w1' ⟨rfl, hb1⟩
  have x1 := (unhide X0).all hb1
  have B1 := hide ((unhide B0).trans (hb1.mono (unhide B0).size))
  have y0 := x1.c0; have y1 := x1.c1; have y2 := x1.c2
  clear hb1 x1 KT B0 X0
  go_wp2
  exact bodyPost_ret (v := .tuple #[.int .u64 0, .int .u8 0]) (by simp [results, Tryd.results23, go_sem]) rfl ⟨rfl, unhide B1⟩

set_option maxHeartbeats 4000000 in
theorem roundSize_b (na : Bool) (ao : Option Addr) (ca l : Nat) (E t : Int) (w : World) (h0 : 0 < l) (ht : 1024 < t)
    (CT : ∀ w', Below w.heap.size w w' → Calls Tryd.prog 31 #[.agg #[.bool na, .slice ao l ca, .int .i64 E]] w' fun e w'' => e = .returned (.int .i64 t) ∧ Below w'.heap.size w' w'') :
    Calls Tryd.prog 23 #[.agg #[.bool na, .slice ao l ca, .int .i64 E]] w fun e w' => e = .returned (.tuple #[.int .u64 9218868437227405312, .int .u8 5]) ∧ Below w.heap.size w w' := by
  have h0' : decide (0 < l) = true := decide_eq_true h0
  have hz : ((l : Int) == 0) = false := by simp; omega
  have hg : decide ((1024 : Int) < t) = true := decide_eq_true ht
  have KT := hide CT
  clear CT ht
  have B0 := hide ((Below.refl w.heap.size w).alloc (Nat.le_refl _) (.cells #[.bool na, .slice ao l ca, .int .i64 E] 37))
  have X0 := hide (Box3.new w (.bool na) (.slice ao l ca) (.int .i64 E))
  go_enter Tryd.func23, Tryd.ntmps23
  go_wp2_with fail
  refine (unhide KT _ (unhide B0)).mono ?_
  rintro e w1' ⟨rfl, hb1⟩
  have x1 := (unhide X0).all hb1
  have B1 := hide ((unhide B0).trans (hb1.mono (unhide B0).size))
  have y0 := x1.c0; have y1 := x1.c1; have y2 := x1.c2
  clear hb1 x1 KT B0 X0
  go_wp2
  exact bodyPost_ret (v := .tuple #[.int .u64 9218868437227405312, .int .u8 5]) (by simp [results, Tryd.results23, go_sem]) rfl ⟨rfl, unhide B1⟩

theorem val_ne {n : Bool} {L : List Nat} (hr : rightB n L = true) (h0 : L ≠ []) : val L ≠ 0 := fun h => h0 ((val_zero_of_canon L (right_canon hr).2.1).1 h)

theorem roundSize_any (na : Bool) (ao : Option Addr) (ca : Nat) (A : List Nat) (E : Int) (w : World) (hA : LimbsAt w ao ca A) (hr : drB na A E = true) :
    Calls Tryd.prog 23 #[.agg #[.bool na, .slice ao A.length ca, .int .i64 E]] w fun e w' => e = .returned (.tuple #[.int .u64 (rnd (val A) E : Nat), .int .u8 (rflag (val A) E)]) ∧ Below w.heap.size w w' := by
  obtain ⟨d1, d2, d3, d4, d5⟩ := drB_bounds hr
  have CT : ∀ w', Below w.heap.size w w' → Calls Tryd.prog 31 #[.agg #[.bool na, .slice ao A.length ca, .int .i64 E]] w' fun e w'' => e = .returned (.int .i64 (IntKind.i64.wrap (lenL A + E))) ∧ Below w'.heap.size w' w'' := fun w' hb => dtop_any na ao ca A E w' (hA.below hb) (by omega)
  rw [lenL_bl hA.2.1 d1] at CT
  by_cases h0 : A = []
  · subst h0
    have e1 : rnd (val []) E = 0 := by simp [rnd, val]
    have e2 : rflag (val []) E = 0 := by simp [rflag, val]
    rw [e1, e2]
    exact roundSize_z na ao ca E _ w CT
  · have hv := val_ne d1 h0
    have hl : 0 < A.length := List.length_pos_iff.2 h0
    have hbl : bl (val A) ≤ 16384 := by
      have h1 := bl_spec (val A) hv
      have h2 := val_lt_pow A hA.2.1 512 d2
      have := pow_lt_of (Nat.lt_of_le_of_lt h1.2.1 h2)
      omega
    have hw : IntKind.i64.wrap ((bl (val A) : Int) + E) = (bl (val A) : Int) + E := by simp only [IntKind.wrap_i64]; omega
    rw [hw] at CT
    by_cases ht : 1024 < (bl (val A) : Int) + E
    · have e1 : rnd (val A) E = 9218868437227405312 := by unfold rnd; rw [if_neg hv, if_pos ht]
      have e2 : rflag (val A) E = 5 := by unfold rflag; rw [if_neg hv, if_pos ht]
      rw [e1, e2]
      exact roundSize_b na ao ca A.length E _ w hl ht CT
    · have hR := rnd_fin (val A) E hv (by omega)
      obtain ⟨l1, l2, l3⟩ := lastE_ge (val A) E
      have hM := (rndM_bounds (val A) E hv).1
      have hN := pN_lt (val A) E hv
      have hbl1 := (bl_spec (val A) hv).1
      have CR : ∀ w', Below w.heap.size w w' → Calls Tryd.prog 32 #[.agg #[.bool na, .slice ao A.length ca, .int .i64 E], .int .i64 (lastE (val A) E)] w' fun e w'' => e = .returned (.int .u64 (rndM (val A) E : Nat)) ∧ Below w'.heap.size w' w'' := fun w' hb =>
        roundAt_any na ao ca A E _ w' (hA.below hb) hr h0 (by omega) (by omega) hN
      have hmax : max ((bl (val A) : Int) + E - 53) (-1074) = lastE (val A) E := rfl
      have hk : lastE (val A) E + 1074 = ((lastE (val A) E + 1074).toNat : Int) := by omega
      have e2 : rflag (val A) E = if lastE (val A) E ≤ E then 0 else if rnd (val A) E = 9218868437227405312 then 5 else if rnd (val A) E < 4503599627370496 then 3 else 1 := by unfold rflag; rw [if_neg hv, if_neg ht]
      by_cases g1 : lastE (val A) E ≤ E
      · rw [e2, if_pos g1]
        exact roundSize_e na ao ca A.length _ _ _ E _ _ w hl (by omega) hmax hk (by omega) hM CT CR hR (decide_eq_true g1)
      · rw [if_neg g1] at e2
        by_cases g2 : rnd (val A) E = 9218868437227405312
        · rw [e2, if_pos g2]
          exact roundSize_i na ao ca A.length _ _ _ E _ _ w hl (by omega) hmax hk (by omega) hM CT CR hR (decide_eq_false g1) (by simp; omega)
        · rw [if_neg g2] at e2
          have g2' : ((rnd (val A) E : Int) == 9218868437227405312) = false := by simp; omega
          by_cases g3 : rnd (val A) E < 4503599627370496
          · rw [e2, if_pos g3]
            exact roundSize_u na ao ca A.length _ _ _ E _ _ w hl (by omega) hmax hk (by omega) hM CT CR hR (decide_eq_false g1) g2' (decide_eq_true (by omega))
          · rw [e2, if_neg g3]
            exact roundSize_n na ao ca A.length _ _ _ E _ _ w hl (by omega) hmax hk (by omega) hM CT CR hR (decide_eq_false g1) g2' (decide_eq_false (by omega))

/-- A rung with its sign. -/
def wrd (neg : Bool) (r : Nat) : Nat := if neg = true then r + 9223372036854775808 else r
theorem wrd_true (r : Nat) : wrd true r = r + 9223372036854775808 := if_pos rfl
theorem wrd_false (r : Nat) : wrd false r = r := if_neg Bool.false_ne_true
theorem fN_wrd (r : Nat) (h : r < 9223372036854775808) : fN r = wrd true r := by rw [wrd_true]; unfold fN; exact if_neg (by omega)

set_option maxHeartbeats 4000000 in
theorem round_wrong (na : Bool) (ao : Option Addr) (ca : Nat) (A : List Nat) (E : Int) (w : World) (hA : LimbsAt w ao ca A) (la : A.length ≤ 35184372088830) (hr : drB na A E = false) (hT : Tab w) :
    Calls Tryd.prog 13 #[.agg #[.bool na, .slice ao A.length ca, .int .i64 E]] w fun e w' => e = .returned (.tuple #[.int .u64 0, .int .u8 0, .int .i64 1]) ∧ Below w.heap.size w w' := by
  have CC := hide (fun w' h t => dcheck_any na ao ca A E w' h la t)
  have he : drE na A E = 1 := by unfold drE; rw [hr]; rfl
  rw [he] at CC
  clear he hr
  have B0 := hide ((Below.refl w.heap.size w).alloc (Nat.le_refl _) (.cells #[.bool na, .slice ao A.length ca, .int .i64 E] 37))
  have HA := hide (hA.below (unhide B0)); have HT := hide (hT.all (unhide B0))
  clear hA hT
  generalize A.length = l at *
  go_enter Tryd.func13, Tryd.ntmps13
  go_wp2_with fail
  refine (unhide CC _ (unhide HA) (unhide HT)).mono ?_
  rintro e w1 ⟨rfl, hb1⟩
  have B1 := hide ((unhide B0).trans (hb1.mono (unhide B0).size))
  clear hb1 B0 CC HA HT
  go_wp2
  exact bodyPost_ret (v := .tuple #[.int .u64 0, .int .u8 0, .int .i64 1]) (by simp [results, Tryd.results13, go_sem]) rfl ⟨rfl, unhide B1⟩

set_option maxHeartbeats 4000000 in
theorem round_right (na : Bool) (ao : Option Addr) (ca : Nat) (A : List Nat) (E : Int) (w : World) (hA : LimbsAt w ao ca A) (hr : drB na A E = true) (hT : Tab w) :
    Calls Tryd.prog 13 #[.agg #[.bool na, .slice ao A.length ca, .int .i64 E]] w fun e w' => e = .returned (.tuple #[.int .u64 (wrd na (rnd (val A) E) : Nat), .int .u8 (rflag (val A) E), .int .i64 0]) ∧ Below w.heap.size w w' := by
  have la := (drB_bounds hr).2.1
  have CC := hide (fun w' h t => dcheck_any na ao ca A E w' h (by omega) t)
  have he : drE na A E = 0 := by unfold drE; rw [hr]; rfl
  rw [he] at CC
  have CR := hide (fun w' h => roundSize_any na ao ca A E w' h hr)
  have hle := rnd_le (val A) E
  have hn : fN (rnd (val A) E) = wrd true (rnd (val A) E) := fN_wrd _ (by omega)
  have CM := hide (fun w' => sminus_any (rnd (val A) E) w' (by omega))
  rw [hn] at CM
  clear he hr la
  have B0 := hide ((Below.refl w.heap.size w).alloc (Nat.le_refl _) (.cells #[.bool na, .slice ao A.length ca, .int .i64 E] 37))
  have X0 := hide (Box3.new w (.bool na) (.slice ao A.length ca) (.int .i64 E))
  have HA := hide (hA.below (unhide B0)); have HT := hide (hT.all (unhide B0))
  have hw0 : wrd false (rnd (val A) E) = rnd (val A) E := wrd_false _
  clear hA hT hle hn
  generalize rflag (val A) E = fl at *
  generalize rnd (val A) E = R at *
  cases na
  · rw [hw0]
    clear CM hw0
    go_enter Tryd.func13, Tryd.ntmps13
    go_wp2_with fail
    refine (unhide CC _ (unhide HA) (unhide HT)).mono ?_
    rintro e w1 ⟨rfl, hb1⟩
    have B1 := hide ((unhide B0).trans (hb1.mono (unhide B0).size))
    have x1 := (unhide X0).all hb1
    have HA1 := hide ((unhide HA).below hb1)
    have y0 := x1.c0; have y1 := x1.c1; have y2 := x1.c2
    have X1 := hide x1
    clear hb1 B0 CC HA HT X0 x1
    go_wp2_with fail
    refine (unhide CR _ (unhide HA1)).mono ?_
    rintro e w2 ⟨rfl, hb2⟩
    have B2 := hide ((unhide B1).trans (hb2.mono (unhide B1).size))
    have x2 := (unhide X1).all hb2
    clear y0 y1 y2
    have y0 := x2.c0; have y1 := x2.c1; have y2 := x2.c2
    clear hb2 x2 CR B1 X1
    go_wp2
    exact bodyPost_ret (v := .tuple #[.int .u64 R, .int .u8 fl, .int .i64 0]) (by simp [results, Tryd.results13, go_sem]) rfl ⟨rfl, unhide B2⟩
  · clear hw0
    generalize wrd true R = R' at *
    go_enter Tryd.func13, Tryd.ntmps13
    go_wp2_with fail
    refine (unhide CC _ (unhide HA) (unhide HT)).mono ?_
    rintro e w1 ⟨rfl, hb1⟩
    have B1 := hide ((unhide B0).trans (hb1.mono (unhide B0).size))
    have x1 := (unhide X0).all hb1
    have HA1 := hide ((unhide HA).below hb1)
    have y0 := x1.c0; have y1 := x1.c1; have y2 := x1.c2
    have X1 := hide x1
    clear hb1 B0 CC HA HT X0 x1
    go_wp2_with fail
    refine (unhide CR _ (unhide HA1)).mono ?_
    rintro e w2 ⟨rfl, hb2⟩
    have B2 := hide ((unhide B1).trans (hb2.mono (unhide B1).size))
    have x2 := (unhide X1).all hb2
    clear y0 y1 y2
    have y0 := x2.c0; have y1 := x2.c1; have y2 := x2.c2
    clear hb2 x2 CR B1 X1
    go_wp2_with (go_at_call 24; refine (unhide CM _).mono ?_; rintro e w3 ⟨rfl, rfl⟩)
    exact bodyPost_ret (v := .tuple #[.int .u64 R', .int .u8 fl, .int .i64 0]) (by simp [results, Tryd.results13, go_sem]) rfl ⟨rfl, unhide B2⟩

end Go.Proofs.YtkmkjeoblkdmnabDoor

/- Round of a number at hand; awake (layer 4); the law SoftKinds, walked. -/
namespace Go.Proofs.YtkmkjeoblkdmnabDoor
open Go.RowKit

theorem round_dy {w : World} {v : Value} {m e : Int} (h : IsDy w v m e) (hm : m.natAbs < TOP) (hr : dRt m e = true) (hT : Tab w) :
    Calls Tryd.prog 13 #[v] w fun r w' => r = .returned (.tuple #[.int .u64 (wrd (decide (m < 0)) (rnd m.natAbs e) : Nat), .int .u8 (rflag m.natAbs e), .int .i64 0]) ∧ Below w.heap.size w w' := by
  obtain ⟨n, a, c, L, rfl, h1, h2, h3, h4, h5⟩ := h.right hm
  have hn : n = decide (m < 0) := by
    obtain ⟨n', a', c', L', e1, _, _, e4, _⟩ := h.parts
    simp only [Value.agg.injEq, Array.mk.injEq, List.cons.injEq, Value.bool.injEq] at e1
    rw [e1.1]; exact e4
  have hv : val L = m.natAbs := by rw [← h3, natAbs_sval]
  have := round_right n a c L e w h1 (h5.trans hr) hT
  rw [hv, hn] at this
  rw [hn]
  exact this

theorem awake4_facts : fFin 4607182418800017408 = true ∧ fD 4607182418800017408 = 1 ∧ fX 4607182418800017408 = 0 ∧ fK 9221120237041090560 = 4 := by decide +kernel
theorem awake4_round : wrd (decide ((1 : Int) < 0)) (rnd (1 : Int).natAbs 0) = 4607182418800017408 ∧ rflag (1 : Int).natAbs 0 = 0 := by decide +kernel

set_option maxHeartbeats 2000000 in
theorem awake4_any (w : World) (hT : Tab w) : Calls Tryd.prog 6 #[] w fun e w' => e = .returned (.bool true) ∧ Below w.heap.size w w' := by
  have C1 := hide (value_some 4607182418800017408 w (by decide) awake4_facts.1 hT)
  rw [awake4_facts.2.1, awake4_facts.2.2.1] at C1
  have C2 := hide (fun w' v (h : IsDy w' v 1 0) t => round_dy h (lt_TOP (k := 1) (by decide) (by decide)) (by decide) t)
  rw [awake4_round.1, awake4_round.2] at C2
  have C3 := hide (fun w' => kind_any 9221120237041090560 w' (by decide))
  rw [awake4_facts.2.2.2] at C3
  go_enter Tryd.func6, Tryd.ntmps6
  go_wp2_with fail
  refine Calls.mono (unhide C1) ?_
  rintro e w1 ⟨⟨v, rfl, hv⟩, hb1⟩
  obtain ⟨n1, a1, c1, L1, rfl, i1⟩ := hv
  have hb2 : Below w1.heap.size w1 (w1.alloc (.cells #[.bool n1, .slice a1 L1.length c1, .int .i64 0] 37)) := (Below.refl _ _).alloc (Nat.le_refl _) _
  have b2 := hb1.trans (hb2.mono hb1.size)
  have HV := hide ((show IsDy w1 (.agg #[.bool n1, .slice a1 L1.length c1, .int .i64 0]) 1 0 from ⟨n1, a1, c1, L1, rfl, i1⟩).below hb2)
  have B2 := hide b2; have HT := hide (hT.all b2)
  clear b2 hb2 hb1 i1 C1
  go_wp2_with fail
  refine (unhide C2 _ _ (unhide HV) (unhide HT)).mono ?_
  rintro e w2 ⟨rfl, hb3⟩
  have B3 := hide ((unhide B2).trans (hb3.mono (unhide B2).size))
  clear hb3 B2 HT HV C2
  go_wp2_with fail
  refine (unhide C3 _).mono ?_
  rintro e w3 ⟨rfl, hb4⟩
  have B4 := hide ((unhide B3).trans (hb4.mono (unhide B3).size))
  clear hb4 B3 C3
  go_wp2
  go_ret
  exact ⟨rfl, unhide B4⟩

end Go.Proofs.YtkmkjeoblkdmnabDoor

/- Contract of soft's Up. -/
namespace Go.Proofs.YtkmkjeoblkdmnabDoor
open Go.RowKit

/-- The next number above. -/
def fU (b : Nat) : Nat := if fK b = 4 ∨ b = 9218868437227405312 then b else if fK b = 0 then 1 else if fS b = true then b - 1 else b + 1

set_option maxHeartbeats 4000000 in
theorem up_core (b c : Nat) (k : Int) (s : Bool) (w : World) (hb : b < 18446744073709551616)
    (CK : ∀ w', Calls Tryd.prog 10 #[.int .u64 b] w' fun r w'' => r = .returned (.int .i64 k) ∧ Below w'.heap.size w' w'')
    (CS : ∀ w', Calls Tryd.prog 11 #[.int .u64 b] w' fun r w'' => r = .returned (.bool s) ∧ Below w'.heap.size w' w'')
    (hc : (k = 4 ∧ c = b) ∨ ((k == 4) = false ∧ b = 9218868437227405312 ∧ c = b) ∨ ((k == 4) = false ∧ ((b : Int) == 9218868437227405312) = false ∧ k = 0 ∧ c = 1) ∨
      ((k == 4) = false ∧ ((b : Int) == 9218868437227405312) = false ∧ (k == 0) = false ∧ s = true ∧ 1 ≤ b ∧ c = b - 1) ∨ ((k == 4) = false ∧ ((b : Int) == 9218868437227405312) = false ∧ (k == 0) = false ∧ s = false ∧ b < 18446744073709551615 ∧ c = b + 1)) :
    Calls Tryd.prog 4 #[.int .u64 b] w fun r w' => r = .returned (.int .u64 c) ∧ Below w.heap.size w w' := by
  have KK := hide CK; have KS := hide CS
  clear CK CS
  rcases hc with ⟨rfl, rfl⟩ | ⟨g1, rfl, rfl⟩ | ⟨g1, g2, rfl, rfl⟩ | ⟨g1, g2, g3, rfl, g4, g5⟩ | ⟨g1, g2, g3, rfl, g4, g5⟩
  · clear hb
    go_enter Tryd.func4, Tryd.ntmps4
    go_wp2_with fail
    refine (unhide KK _).mono ?_
    rintro e w1 ⟨rfl, hb1⟩
    go_wp2
    go_ret
    exact ⟨rfl, hb1⟩
  · clear hb
    go_enter Tryd.func4, Tryd.ntmps4
    go_wp2_with fail
    refine (unhide KK _).mono ?_
    rintro e w1 ⟨rfl, hb1⟩
    go_wp2
    go_ret
    exact ⟨rfl, hb1⟩
  · clear hb
    go_enter Tryd.func4, Tryd.ntmps4
    go_wp2_with fail
    refine (unhide KK _).mono ?_
    rintro e w1 ⟨rfl, hb1⟩
    go_wp2
    go_ret
    exact ⟨rfl, hb1⟩
  · have hw : IntKind.u64.wrap ((b : Int) - 1) = (c : Int) := by simp only [IntKind.wrap_u64]; omega
    clear hb g4 g5
    go_enter Tryd.func4, Tryd.ntmps4
    go_wp2_with fail
    refine (unhide KK _).mono ?_
    rintro e w1 ⟨rfl, hb1⟩
    go_wp2_with fail
    refine (unhide KS _).mono ?_
    rintro e w2 ⟨rfl, hb2⟩
    go_wp2
    go_ret
    exact ⟨rfl, hb1.trans (hb2.mono hb1.size)⟩
  · have hw : IntKind.u64.wrap ((b : Int) + 1) = (c : Int) := by simp only [IntKind.wrap_u64]; omega
    clear hb g4 g5
    go_enter Tryd.func4, Tryd.ntmps4
    go_wp2_with fail
    refine (unhide KK _).mono ?_
    rintro e w1 ⟨rfl, hb1⟩
    go_wp2_with fail
    refine (unhide KS _).mono ?_
    rintro e w2 ⟨rfl, hb2⟩
    go_wp2
    go_ret
    exact ⟨rfl, hb1.trans (hb2.mono hb1.size)⟩

theorem up_any (b : Nat) (w : World) (h : b < 18446744073709551616) :
    Calls Tryd.prog 4 #[.int .u64 b] w fun r w' => r = .returned (.int .u64 (fU b)) ∧ Below w.heap.size w w' := by
  refine up_core b (fU b) (fK b) (fS b) w h (fun w' => kind_any b w' h) (fun w' => ssign_any b w' h) ?_
  unfold fU
  by_cases c1 : fK b = 4
  · exact .inl ⟨c1, if_pos (.inl c1)⟩
  have g1 : (fK b == 4) = false := by simp; omega
  by_cases c2 : b = 9218868437227405312
  · exact .inr (.inl ⟨g1, c2, if_pos (.inr c2)⟩)
  have g2 : ((b : Int) == 9218868437227405312) = false := by simp; omega
  rw [if_neg (by omega)]
  by_cases c3 : fK b = 0
  · exact .inr (.inr (.inl ⟨g1, g2, c3, if_pos c3⟩))
  have g3 : (fK b == 0) = false := by simp; omega
  rw [if_neg c3]
  by_cases c4 : fS b = true
  · have : 9223372036854775808 ≤ b := of_decide_eq_true c4
    exact .inr (.inr (.inr (.inl ⟨g1, g2, g3, c4, by omega, if_pos c4⟩)))
  · have h4 : ¬ 9223372036854775808 ≤ b := fun hle => c4 (decide_eq_true hle)
    exact .inr (.inr (.inr (.inr ⟨g1, g2, g3, by simpa using c4, by omega, if_neg c4⟩)))

end Go.Proofs.YtkmkjeoblkdmnabDoor

/- How numbers of binary64 stand to one another: by what their rungs are worth. -/
namespace Go.Proofs.YtkmkjeoblkdmnabDoor
open Go.RowKit

/-- What a rung with its sign is worth (Inf as the next number would be). -/
def pv (n : Bool) (r : Nat) : Int := if n = true then -(rv r : Int) else (rv r : Int)

theorem dbl_sw : Ieee.double.signWeight = 9223372036854775808 := by decide
theorem dbl_bin : Ieee.double.binade = 4503599627370496 := by decide
theorem dbl_inf : Ieee.double.infRung = 9218868437227405312 := by decide
theorem dbl_lp : Ieee.double.leastPlace = -1074 := by decide

theorem wrd_parts (n : Bool) (r : Nat) (h : r < 9223372036854775808) : (wrd n r / 9223372036854775808 % 2 == 1) = n ∧ wrd n r % 9223372036854775808 = r := by
  cases n
  · rw [wrd_false]; exact ⟨by simp; omega, by omega⟩
  · rw [wrd_true]; exact ⟨by simp; omega, by omega⟩

theorem read_wrd (n : Bool) (r : Nat) (h : r ≤ 9218868437227405312) :
    (r < 9218868437227405312 ∧ ∃ (m : Nat) (k : Nat), Ieee.double.read (wrd n r) = .number n m (-1074 + (k : Int)) ∧ m * 2 ^ k = rv r) ∨ (r = 9218868437227405312 ∧ Ieee.double.read (wrd n r) = .infinity n) := by
  obtain ⟨h1, h2⟩ := wrd_parts n r (by omega)
  unfold Ieee.Format.read
  rw [dbl_sw, dbl_bin, dbl_inf, dbl_lp]
  simp only [h1, h2]
  by_cases c1 : r < 4503599627370496
  · left
    refine ⟨by omega, r, 0, ?_, ?_⟩
    · rw [if_pos c1]; rfl
    · unfold rv; rw [if_pos c1]; simp
  · by_cases c2 : r < 9218868437227405312
    · left
      refine ⟨c2, _, _, by rw [if_neg c1, if_pos c2], ?_⟩
      unfold rv; rw [if_neg c1]
    · right
      have : r = 9218868437227405312 := by omega
      exact ⟨this, by rw [if_neg c1, if_neg c2, if_pos this]⟩

theorem signed_pv (n : Bool) (m k u : Nat) (r : Nat) (h : m * 2 ^ k = rv r) (hu : u ≤ k) : Ieee.signed n m u * 2 ^ (k - u) = pv n r := by
  have h1 : m <<< u * 2 ^ (k - u) = rv r := by
    rw [Nat.shiftLeft_eq, Nat.mul_assoc, ← Nat.pow_add, show u + (k - u) = k by omega]; exact h
  have h2 : ((m <<< u : Nat) : Int) * 2 ^ (k - u) = (rv r : Int) := by
    rw [← h1, Int.natCast_mul, Int.natCast_pow]; rfl
  unfold Ieee.signed pv
  cases n
  · simp only [Bool.false_eq_true, if_false]; exact h2
  · simp only [if_true]; rw [Int.neg_mul, h2]

theorem compare_scale (a b : Int) (k : Nat) : compare (a * 2 ^ k) (b * 2 ^ k) = compare a b := by
  have hp : (0 : Int) < 2 ^ k := Int.pow_pos (by decide)
  rcases Int.lt_trichotomy a b with h | h | h
  · have h1 : a * 2 ^ k < b * 2 ^ k := Int.mul_lt_mul_of_pos_right h hp
    rw [Int.compare_eq_lt.2 h, Int.compare_eq_lt.2 h1]
  · subst h; simp
  · have h1 : b * 2 ^ k < a * 2 ^ k := Int.mul_lt_mul_of_pos_right h hp
    rw [Int.compare_eq_gt.2 h, Int.compare_eq_gt.2 h1]

theorem order_num (n m : Bool) (r s a b k j : Nat) (h1 : a * 2 ^ k = rv r) (h2 : b * 2 ^ j = rv s) :
    Ieee.Datum.order (.number n a (-1074 + (k : Int))) (.number m b (-1074 + (j : Int))) = some (compare (pv n r) (pv m s)) := by
  unfold Ieee.Datum.order
  simp only
  congr 1
  generalize hc : min k j = c
  have e1 : (-1074 + (k : Int) - min (-1074 + (k : Int)) (-1074 + (j : Int))).toNat = k - c := by omega
  have e2 : (-1074 + (j : Int) - min (-1074 + (k : Int)) (-1074 + (j : Int))).toNat = j - c := by omega
  rw [e1, e2, ← compare_scale _ _ c]
  have s1 := signed_pv n a k (k - c) r h1 (by omega)
  have s2 := signed_pv m b j (j - c) s h2 (by omega)
  rw [show k - (k - c) = c by omega] at s1
  rw [show j - (j - c) = c by omega] at s2
  rw [s1, s2]

theorem rv_lt {r s : Nat} (h : r < s) : rv r < rv s := Nat.lt_of_lt_of_le (rv_succ r) (rv_mono h)

theorem order_wrd (n m : Bool) (r s : Nat) (hr : r ≤ 9218868437227405312) (hs : s ≤ 9218868437227405312) : Ieee.double.order (wrd n r) (wrd m s) = some (compare (pv n r) (pv m s)) := by
  unfold Ieee.Format.order
  rcases read_wrd n r hr with ⟨c1, a, k, e1, h1⟩ | ⟨c1, e1⟩
  · rcases read_wrd m s hs with ⟨c2, b, j, e2, h2⟩ | ⟨c2, e2⟩
    · rw [e1, e2]; exact order_num n m r s a b k j h1 h2
    · rw [e1, e2]
      have hlt : rv r < rv s := rv_lt (by omega)
      have hn : Ieee.Datum.order (.number n a (-1074 + (k : Int))) (.infinity m) = some (if m then .gt else .lt) := rfl
      rw [hn]
      congr 1
      unfold pv
      cases m <;> cases n <;> simp only [Bool.false_eq_true, if_true, if_false] <;> symm <;> first | exact Int.compare_eq_lt.2 (by omega) | exact Int.compare_eq_gt.2 (by omega)
  · rcases read_wrd m s hs with ⟨c2, b, j, e2, h2⟩ | ⟨c2, e2⟩
    · rw [e1, e2]
      have hlt : rv s < rv r := rv_lt (by omega)
      have hn : Ieee.Datum.order (.infinity n) (.number m b (-1074 + (j : Int))) = some (if n then .lt else .gt) := rfl
      rw [hn]
      congr 1
      unfold pv
      cases m <;> cases n <;> simp only [Bool.false_eq_true, if_true, if_false] <;> symm <;> first | exact Int.compare_eq_lt.2 (by omega) | exact Int.compare_eq_gt.2 (by omega)
    · rw [e1, e2]
      have hrs : rv r = rv s := by rw [c1, c2]
      have hpos : 0 < rv s := by have := rv_lt (r := 0) (s := s) (by omega); rw [rv_zero] at this; exact this
      have hn : Ieee.Datum.order (.infinity n) (.infinity m) = some (compare m.toNat n.toNat) := rfl
      rw [hn]
      congr 1
      unfold pv
      rw [hrs]
      cases n <;> cases m
      · simp
      · rw [if_neg (by decide), if_pos rfl]
        rw [Int.compare_eq_gt.2 (by omega)]
        decide
      · rw [if_pos rfl, if_neg (by decide)]
        rw [Int.compare_eq_lt.2 (by omega)]
        decide
      · simp

/-- What z times 2 to the l is rounded to. -/
def pvZ (z l : Int) : Int := pv (decide (z < 0)) (rnd z.natAbs l)

theorem pvZ_mono {z y l : Int} (h : z ≤ y) : pvZ z l ≤ pvZ y l := by
  unfold pvZ pv
  by_cases h1 : z < 0
  · rw [decide_eq_true h1, if_pos rfl]
    by_cases h2 : y < 0
    · rw [decide_eq_true h2, if_pos rfl]
      have := rv_mono (rnd_mono l (show y.natAbs ≤ z.natAbs by omega))
      omega
    · rw [decide_eq_false h2, if_neg (by decide)]
      omega
  · rw [decide_eq_false h1, decide_eq_false (show ¬ y < 0 by omega), if_neg (by decide), if_neg (by decide)]
    have := rv_mono (rnd_mono l (show z.natAbs ≤ y.natAbs by omega))
    omega

end Go.Proofs.YtkmkjeoblkdmnabDoor

