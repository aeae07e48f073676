/- Part 19 of the texts. -/
import Derived.Test.YtgegjhkiiejhlaaDoorPart18
import Derived.Deep.Cut
/- Contract of soft's roundSize. -/
namespace Go.Proofs.YtgegjhkiiejhlaaDoor
open Go.RowKit

theorem pN_lt (v : Nat) (E : Int) (h : v ≠ 0) : pN v (E - lastE v E) < 1152921504606846976 := by
  obtain ⟨l1, l2, l3⟩ := lastE_ge v E
  obtain ⟨a1, a2, a3⟩ := bl_spec v h
  generalize lastE v E = l at *
  have h54 : (2 : Nat) ^ 54 < 1152921504606846976 := by decide
  unfold pN
  split
  · obtain ⟨k, hk⟩ := Int.eq_ofNat_of_zero_le (show 0 ≤ E - l + 1 by omega)
    rw [hk, Int.toNat_natCast]
    have h1 : v * 2 ^ k < 2 ^ bl v * 2 ^ k := Nat.mul_lt_mul_of_pos_right a3 (Nat.two_pow_pos _)
    rw [← Nat.pow_add] at h1
    have h2 : (2 : Nat) ^ (bl v + k) ≤ 2 ^ 54 := pow_le2 (by omega)
    omega
  · obtain ⟨k, hk⟩ := Int.eq_ofNat_of_zero_le (show 0 ≤ -(E - l + 1) by omega)
    rw [hk, Int.toNat_natCast]
    have h1 : v < 2 ^ 54 * 2 ^ k := by
      rw [← Nat.pow_add]
      exact Nat.lt_of_lt_of_le a3 (pow_le2 (by omega))
    have h2 : v / 2 ^ k < 2 ^ 54 := Nat.div_lt_of_lt_mul (by rw [Nat.mul_comm]; exact h1)
    omega

theorem max2_run (P : Program) (w : World) (ts : Array TypeId) (t : TypeId) (x y : Int) : (Builtin.max_ ts t #[.int .i64 x, .int .i64 y]).run P w = .ok (.int .i64 (max x y)) w := by
  rw [run_max_int2]
  congr 2
  split <;> omega

set_option maxHeartbeats 4000000 in
theorem roundSize_e (na : Bool) (ao : Option Addr) (ca l M k R : Nat) (E t last : Int) (w : World) (h0 : 0 < l) (ht : -100000 ≤ t ∧ t ≤ 1024) (hl : max (t - 53) (-1074) = last) (hk : last + 1074 = k) (hk2 : k ≤ 2045) (hM : M ≤ 9007199254740992)
    (CT : ∀ w', Below w.heap.size w w' → Calls Tryd.prog 77 #[.agg #[.bool na, .slice ao l ca, .int .i64 E]] w' fun e w'' => e = .returned (.int .i64 t) ∧ Below w'.heap.size w' w'')
    (CR : ∀ w', Below w.heap.size w w' → Calls Tryd.prog 97 #[.agg #[.bool na, .slice ao l ca, .int .i64 E], .int .i64 last] w' fun e w'' => e = .returned (.int .u64 M) ∧ Below w'.heap.size w' w'')
    (hR : R = M + k * 4503599627370496) (g1 : decide (last ≤ E) = true) :
    Calls Tryd.prog 86 #[.agg #[.bool na, .slice ao l ca, .int .i64 E]] w fun e w' => e = .returned (.tuple #[.int .u64 R, .int .u8 0]) ∧ Below w.heap.size w w' := by
  have h0' : decide (0 < l) = true := decide_eq_true h0
  have hz : ((l : Int) == 0) = false := by simp; omega
  have hm := fun W ts t' => max2_run Tryd.prog W ts t' (t - 53) (-1074)
  rw [hl] at hm
  have KT := hide CT; have KR := hide CR
  have hg : decide ((1024 : Int) < t) = false := decide_eq_false (by omega)
  have w1 : IntKind.i64.wrap (t - 53) = t - 53 := by simp only [IntKind.wrap_i64]; omega
  have w2 : IntKind.i64.wrap (last - -1074) = (k : Int) := by simp only [IntKind.wrap_i64]; omega
  have w3 : IntKind.u64.wrap (k : Int) = (k : Int) := by simp only [IntKind.wrap_u64]; omega
  have HRR := hide (show (M : Int) + (k : Int) * 4503599627370496 = (R : Int) by omega)
  clear CT CR hl hR
  have B0 := hide ((Below.refl w.heap.size w).alloc (Nat.le_refl _) (.cells #[.bool na, .slice ao l ca, .int .i64 E] 46))
  have X0 := hide (Box3.new w (.bool na) (.slice ao l ca) (.int .i64 E))
  go_enter Tryd.func86, Tryd.ntmps86
  go_wp2_with fail
  refine (unhide KT _ (unhide B0)).mono ?_
  rintro e w1' ⟨rfl, hb1⟩
  have x1 := (unhide X0).all hb1
  have B1 := hide ((unhide B0).trans (hb1.mono (unhide B0).size))
  have X1 := hide x1
  have y0 := x1.c0; have y1 := x1.c1; have y2 := x1.c2
  clear hb1 x1 KT B0 X0
  go_wp2_with fail
  refine (unhide KR _ (unhide B1)).mono ?_
  rintro e w2' ⟨rfl, hb2⟩
  have x2 := (unhide X1).all hb2
  have B2 := hide ((unhide B1).trans (hb2.mono (unhide B1).size))
  clear y0 y1 y2
  have y0 := x2.c0; have y1 := x2.c1; have y2 := x2.c2
  clear hb2 x2 KR B1 X1
  go_upto_region 8 with (fail)
  rw [unhide HRR]
  clear hm w1 w2 w3 hk hk2 hM HRR h0 h0' hz hg ht
  go_wp2
  exact bodyPost_ret (v := .tuple #[.int .u64 R, .int .u8 0]) (by simp [results, Tryd.results86, go_sem]) rfl ⟨rfl, unhide B2⟩

set_option maxHeartbeats 4000000 in
theorem roundSize_i (na : Bool) (ao : Option Addr) (ca l M k R : Nat) (E t last : Int) (w : World) (h0 : 0 < l) (ht : -100000 ≤ t ∧ t ≤ 1024) (hl : max (t - 53) (-1074) = last) (hk : last + 1074 = k) (hk2 : k ≤ 2045) (hM : M ≤ 9007199254740992)
    (CT : ∀ w', Below w.heap.size w w' → Calls Tryd.prog 77 #[.agg #[.bool na, .slice ao l ca, .int .i64 E]] w' fun e w'' => e = .returned (.int .i64 t) ∧ Below w'.heap.size w' w'')
    (CR : ∀ w', Below w.heap.size w w' → Calls Tryd.prog 97 #[.agg #[.bool na, .slice ao l ca, .int .i64 E], .int .i64 last] w' fun e w'' => e = .returned (.int .u64 M) ∧ Below w'.heap.size w' w'')
    (hR : R = M + k * 4503599627370496) (g1 : decide (last ≤ E) = false) (g2 : ((R : Int) == 9218868437227405312) = true) :
    Calls Tryd.prog 86 #[.agg #[.bool na, .slice ao l ca, .int .i64 E]] w fun e w' => e = .returned (.tuple #[.int .u64 R, .int .u8 5]) ∧ Below w.heap.size w w' := by
  have h0' : decide (0 < l) = true := decide_eq_true h0
  have hz : ((l : Int) == 0) = false := by simp; omega
  have hm := fun W ts t' => max2_run Tryd.prog W ts t' (t - 53) (-1074)
  rw [hl] at hm
  have KT := hide CT; have KR := hide CR
  have hg : decide ((1024 : Int) < t) = false := decide_eq_false (by omega)
  have w1 : IntKind.i64.wrap (t - 53) = t - 53 := by simp only [IntKind.wrap_i64]; omega
  have w2 : IntKind.i64.wrap (last - -1074) = (k : Int) := by simp only [IntKind.wrap_i64]; omega
  have w3 : IntKind.u64.wrap (k : Int) = (k : Int) := by simp only [IntKind.wrap_u64]; omega
  have HRR := hide (show (M : Int) + (k : Int) * 4503599627370496 = (R : Int) by omega)
  clear CT CR hl hR
  have B0 := hide ((Below.refl w.heap.size w).alloc (Nat.le_refl _) (.cells #[.bool na, .slice ao l ca, .int .i64 E] 46))
  have X0 := hide (Box3.new w (.bool na) (.slice ao l ca) (.int .i64 E))
  go_enter Tryd.func86, Tryd.ntmps86
  go_wp2_with fail
  refine (unhide KT _ (unhide B0)).mono ?_
  rintro e w1' ⟨rfl, hb1⟩
  have x1 := (unhide X0).all hb1
  have B1 := hide ((unhide B0).trans (hb1.mono (unhide B0).size))
  have X1 := hide x1
  have y0 := x1.c0; have y1 := x1.c1; have y2 := x1.c2
  clear hb1 x1 KT B0 X0
  go_wp2_with fail
  refine (unhide KR _ (unhide B1)).mono ?_
  rintro e w2' ⟨rfl, hb2⟩
  have x2 := (unhide X1).all hb2
  have B2 := hide ((unhide B1).trans (hb2.mono (unhide B1).size))
  clear y0 y1 y2
  have y0 := x2.c0; have y1 := x2.c1; have y2 := x2.c2
  clear hb2 x2 KR B1 X1
  go_upto_region 8 with (fail)
  rw [unhide HRR]
  clear hm w1 w2 w3 hk hk2 hM HRR h0 h0' hz hg ht
  go_wp2
  exact bodyPost_ret (v := .tuple #[.int .u64 R, .int .u8 5]) (by simp [results, Tryd.results86, go_sem]) rfl ⟨rfl, unhide B2⟩

set_option maxHeartbeats 4000000 in
theorem roundSize_u (na : Bool) (ao : Option Addr) (ca l M k R : Nat) (E t last : Int) (w : World) (h0 : 0 < l) (ht : -100000 ≤ t ∧ t ≤ 1024) (hl : max (t - 53) (-1074) = last) (hk : last + 1074 = k) (hk2 : k ≤ 2045) (hM : M ≤ 9007199254740992)
    (CT : ∀ w', Below w.heap.size w w' → Calls Tryd.prog 77 #[.agg #[.bool na, .slice ao l ca, .int .i64 E]] w' fun e w'' => e = .returned (.int .i64 t) ∧ Below w'.heap.size w' w'')
    (CR : ∀ w', Below w.heap.size w w' → Calls Tryd.prog 97 #[.agg #[.bool na, .slice ao l ca, .int .i64 E], .int .i64 last] w' fun e w'' => e = .returned (.int .u64 M) ∧ Below w'.heap.size w' w'')
    (hR : R = M + k * 4503599627370496) (g1 : decide (last ≤ E) = false) (g2 : ((R : Int) == 9218868437227405312) = false) (g3 : decide ((R : Int) < 4503599627370496) = true) :
    Calls Tryd.prog 86 #[.agg #[.bool na, .slice ao l ca, .int .i64 E]] w fun e w' => e = .returned (.tuple #[.int .u64 R, .int .u8 3]) ∧ Below w.heap.size w w' := by
  have h0' : decide (0 < l) = true := decide_eq_true h0
  have hz : ((l : Int) == 0) = false := by simp; omega
  have hm := fun W ts t' => max2_run Tryd.prog W ts t' (t - 53) (-1074)
  rw [hl] at hm
  have KT := hide CT; have KR := hide CR
  have hg : decide ((1024 : Int) < t) = false := decide_eq_false (by omega)
  have w1 : IntKind.i64.wrap (t - 53) = t - 53 := by simp only [IntKind.wrap_i64]; omega
  have w2 : IntKind.i64.wrap (last - -1074) = (k : Int) := by simp only [IntKind.wrap_i64]; omega
  have w3 : IntKind.u64.wrap (k : Int) = (k : Int) := by simp only [IntKind.wrap_u64]; omega
  have HRR := hide (show (M : Int) + (k : Int) * 4503599627370496 = (R : Int) by omega)
  clear CT CR hl hR
  have B0 := hide ((Below.refl w.heap.size w).alloc (Nat.le_refl _) (.cells #[.bool na, .slice ao l ca, .int .i64 E] 46))
  have X0 := hide (Box3.new w (.bool na) (.slice ao l ca) (.int .i64 E))
  go_enter Tryd.func86, Tryd.ntmps86
  go_wp2_with fail
  refine (unhide KT _ (unhide B0)).mono ?_
  rintro e w1' ⟨rfl, hb1⟩
  have x1 := (unhide X0).all hb1
  have B1 := hide ((unhide B0).trans (hb1.mono (unhide B0).size))
  have X1 := hide x1
  have y0 := x1.c0; have y1 := x1.c1; have y2 := x1.c2
  clear hb1 x1 KT B0 X0
  go_wp2_with fail
  refine (unhide KR _ (unhide B1)).mono ?_
  rintro e w2' ⟨rfl, hb2⟩
  have x2 := (unhide X1).all hb2
  have B2 := hide ((unhide B1).trans (hb2.mono (unhide B1).size))
  clear y0 y1 y2
  have y0 := x2.c0; have y1 := x2.c1; have y2 := x2.c2
  clear hb2 x2 KR B1 X1
  go_upto_region 8 with (fail)
  rw [unhide HRR]
  clear hm w1 w2 w3 hk hk2 hM HRR h0 h0' hz hg ht
  go_wp2
  exact bodyPost_ret (v := .tuple #[.int .u64 R, .int .u8 3]) (by simp [results, Tryd.results86, go_sem]) rfl ⟨rfl, unhide B2⟩

set_option maxHeartbeats 4000000 in
theorem roundSize_n (na : Bool) (ao : Option Addr) (ca l M k R : Nat) (E t last : Int) (w : World) (h0 : 0 < l) (ht : -100000 ≤ t ∧ t ≤ 1024) (hl : max (t - 53) (-1074) = last) (hk : last + 1074 = k) (hk2 : k ≤ 2045) (hM : M ≤ 9007199254740992)
    (CT : ∀ w', Below w.heap.size w w' → Calls Tryd.prog 77 #[.agg #[.bool na, .slice ao l ca, .int .i64 E]] w' fun e w'' => e = .returned (.int .i64 t) ∧ Below w'.heap.size w' w'')
    (CR : ∀ w', Below w.heap.size w w' → Calls Tryd.prog 97 #[.agg #[.bool na, .slice ao l ca, .int .i64 E], .int .i64 last] w' fun e w'' => e = .returned (.int .u64 M) ∧ Below w'.heap.size w' w'')
    (hR : R = M + k * 4503599627370496) (g1 : decide (last ≤ E) = false) (g2 : ((R : Int) == 9218868437227405312) = false) (g3 : decide ((R : Int) < 4503599627370496) = false) :
    Calls Tryd.prog 86 #[.agg #[.bool na, .slice ao l ca, .int .i64 E]] w fun e w' => e = .returned (.tuple #[.int .u64 R, .int .u8 1]) ∧ Below w.heap.size w w' := by
  have h0' : decide (0 < l) = true := decide_eq_true h0
  have hz : ((l : Int) == 0) = false := by simp; omega
  have hm := fun W ts t' => max2_run Tryd.prog W ts t' (t - 53) (-1074)
  rw [hl] at hm
  have KT := hide CT; have KR := hide CR
  have hg : decide ((1024 : Int) < t) = false := decide_eq_false (by omega)
  have w1 : IntKind.i64.wrap (t - 53) = t - 53 := by simp only [IntKind.wrap_i64]; omega
  have w2 : IntKind.i64.wrap (last - -1074) = (k : Int) := by simp only [IntKind.wrap_i64]; omega
  have w3 : IntKind.u64.wrap (k : Int) = (k : Int) := by simp only [IntKind.wrap_u64]; omega
  have HRR := hide (show (M : Int) + (k : Int) * 4503599627370496 = (R : Int) by omega)
  clear CT CR hl hR
  have B0 := hide ((Below.refl w.heap.size w).alloc (Nat.le_refl _) (.cells #[.bool na, .slice ao l ca, .int .i64 E] 46))
  have X0 := hide (Box3.new w (.bool na) (.slice ao l ca) (.int .i64 E))
  go_enter Tryd.func86, Tryd.ntmps86
  go_wp2_with fail
  refine (unhide KT _ (unhide B0)).mono ?_
  rintro e w1' ⟨rfl, hb1⟩
  have x1 := (unhide X0).all hb1
  have B1 := hide ((unhide B0).trans (hb1.mono (unhide B0).size))
  have X1 := hide x1
  have y0 := x1.c0; have y1 := x1.c1; have y2 := x1.c2
  clear hb1 x1 KT B0 X0
  go_wp2_with fail
  refine (unhide KR _ (unhide B1)).mono ?_
  rintro e w2' ⟨rfl, hb2⟩
  have x2 := (unhide X1).all hb2
  have B2 := hide ((unhide B1).trans (hb2.mono (unhide B1).size))
  clear y0 y1 y2
  have y0 := x2.c0; have y1 := x2.c1; have y2 := x2.c2
  clear hb2 x2 KR B1 X1
  go_upto_region 8 with (fail)
  rw [unhide HRR]
  clear hm w1 w2 w3 hk hk2 hM HRR h0 h0' hz hg ht
  go_wp2
  exact bodyPost_ret (v := .tuple #[.int .u64 R, .int .u8 1]) (by simp [results, Tryd.results86, go_sem]) rfl ⟨rfl, unhide B2⟩

end Go.Proofs.YtgegjhkiiejhlaaDoor

/- Contracts of soft's roundSize, Round, any number. -/
namespace Go.Proofs.YtgegjhkiiejhlaaDoor
open Go.RowKit

set_option maxHeartbeats 4000000 in
theorem roundSize_z (na : Bool) (ao : Option Addr) (ca : Nat) (E t : Int) (w : World)
    (CT : ∀ w', Below w.heap.size w w' → Calls Tryd.prog 77 #[.agg #[.bool na, .slice ao 0 ca, .int .i64 E]] w' fun e w'' => e = .returned (.int .i64 t) ∧ Below w'.heap.size w' w'') :
    Calls Tryd.prog 86 #[.agg #[.bool na, .slice ao 0 ca, .int .i64 E]] w fun e w' => e = .returned (.tuple #[.int .u64 0, .int .u8 0]) ∧ Below w.heap.size w w' := by
  have KT := hide CT
  clear CT
  have B0 := hide ((Below.refl w.heap.size w).alloc (Nat.le_refl _) (.cells #[.bool na, .slice ao 0 ca, .int .i64 E] 46))
  have X0 := hide (Box3.new w (.bool na) (.slice ao 0 ca) (.int .i64 E))
  go_enter Tryd.func86, Tryd.ntmps86
  go_wp2_with fail
  refine (unhide KT _ (unhide B0)).mono ?_
  rintro e w1' ⟨rfl, hb1⟩
  have x1 := (unhide X0).all hb1
  have B1 := hide ((unhide B0).trans (hb1.mono (unhide B0).size))
  have y0 := x1.c0; have y1 := x1.c1; have y2 := x1.c2
  clear hb1 x1 KT B0 X0
  go_wp2
  exact bodyPost_ret (v := .tuple #[.int .u64 0, .int .u8 0]) (by simp [results, Tryd.results86, go_sem]) rfl ⟨rfl, unhide B1⟩

set_option maxHeartbeats 4000000 in
theorem roundSize_b (na : Bool) (ao : Option Addr) (ca l : Nat) (E t : Int) (w : World) (h0 : 0 < l) (ht : 1024 < t)
    (CT : ∀ w', Below w.heap.size w w' → Calls Tryd.prog 77 #[.agg #[.bool na, .slice ao l ca, .int .i64 E]] w' fun e w'' => e = .returned (.int .i64 t) ∧ Below w'.heap.size w' w'') :
    Calls Tryd.prog 86 #[.agg #[.bool na, .slice ao l ca, .int .i64 E]] w fun e w' => e = .returned (.tuple #[.int .u64 9218868437227405312, .int .u8 5]) ∧ Below w.heap.size w w' := by
  have h0' : decide (0 < l) = true := decide_eq_true h0
  have hz : ((l : Int) == 0) = false := by simp; omega
  have hg : decide ((1024 : Int) < t) = true := decide_eq_true ht
  have KT := hide CT
  clear CT ht
  have B0 := hide ((Below.refl w.heap.size w).alloc (Nat.le_refl _) (.cells #[.bool na, .slice ao l ca, .int .i64 E] 46))
  have X0 := hide (Box3.new w (.bool na) (.slice ao l ca) (.int .i64 E))
  go_enter Tryd.func86, Tryd.ntmps86
  go_wp2_with fail
  refine (unhide KT _ (unhide B0)).mono ?_
  rintro e w1' ⟨rfl, hb1⟩
  have x1 := (unhide X0).all hb1
  have B1 := hide ((unhide B0).trans (hb1.mono (unhide B0).size))
  have y0 := x1.c0; have y1 := x1.c1; have y2 := x1.c2
  clear hb1 x1 KT B0 X0
  go_wp2
  exact bodyPost_ret (v := .tuple #[.int .u64 9218868437227405312, .int .u8 5]) (by simp [results, Tryd.results86, go_sem]) rfl ⟨rfl, unhide B1⟩

theorem val_ne {n : Bool} {L : List Nat} (hr : rightB n L = true) (h0 : L ≠ []) : val L ≠ 0 := fun h => h0 ((val_zero_of_canon L (right_canon hr).2.1).1 h)

theorem roundSize_any (na : Bool) (ao : Option Addr) (ca : Nat) (A : List Nat) (E : Int) (w : World) (hA : LimbsAt w ao ca A) (hr : drB na A E = true) :
    Calls Tryd.prog 86 #[.agg #[.bool na, .slice ao A.length ca, .int .i64 E]] w fun e w' => e = .returned (.tuple #[.int .u64 (rnd (val A) E : Nat), .int .u8 (rflag (val A) E)]) ∧ Below w.heap.size w w' := by
  obtain ⟨d1, d2, d3, d4, d5⟩ := drB_bounds hr
  have CT : ∀ w', Below w.heap.size w w' → Calls Tryd.prog 77 #[.agg #[.bool na, .slice ao A.length ca, .int .i64 E]] w' fun e w'' => e = .returned (.int .i64 (IntKind.i64.wrap (lenL A + E))) ∧ Below w'.heap.size w' w'' := fun w' hb => dtop_any na ao ca A E w' (hA.below hb) (by omega)
  rw [lenL_bl hA.2.1 d1] at CT
  by_cases h0 : A = []
  · subst h0
    have e1 : rnd (val []) E = 0 := by simp [rnd, val]
    have e2 : rflag (val []) E = 0 := by simp [rflag, val]
    rw [e1, e2]
    exact roundSize_z na ao ca E _ w CT
  · have hv := val_ne d1 h0
    have hl : 0 < A.length := List.length_pos_iff.2 h0
    have hbl : bl (val A) ≤ 16384 := by
      have h1 := bl_spec (val A) hv
      have h2 := val_lt_pow A hA.2.1 512 d2
      have := pow_lt_of (Nat.lt_of_le_of_lt h1.2.1 h2)
      omega
    have hw : IntKind.i64.wrap ((bl (val A) : Int) + E) = (bl (val A) : Int) + E := by simp only [IntKind.wrap_i64]; omega
    rw [hw] at CT
    by_cases ht : 1024 < (bl (val A) : Int) + E
    · have e1 : rnd (val A) E = 9218868437227405312 := by unfold rnd; rw [if_neg hv, if_pos ht]
      have e2 : rflag (val A) E = 5 := by unfold rflag; rw [if_neg hv, if_pos ht]
      rw [e1, e2]
      exact roundSize_b na ao ca A.length E _ w hl ht CT
    · have hR := rnd_fin (val A) E hv (by omega)
      obtain ⟨l1, l2, l3⟩ := lastE_ge (val A) E
      have hM := (rndM_bounds (val A) E hv).1
      have hN := pN_lt (val A) E hv
      have hbl1 := (bl_spec (val A) hv).1
      have CR : ∀ w', Below w.heap.size w w' → Calls Tryd.prog 97 #[.agg #[.bool na, .slice ao A.length ca, .int .i64 E], .int .i64 (lastE (val A) E)] w' fun e w'' => e = .returned (.int .u64 (rndM (val A) E : Nat)) ∧ Below w'.heap.size w' w'' := fun w' hb =>
        roundAt_any na ao ca A E _ w' (hA.below hb) hr h0 (by omega) (by omega) hN
      have hmax : max ((bl (val A) : Int) + E - 53) (-1074) = lastE (val A) E := rfl
      have hk : lastE (val A) E + 1074 = ((lastE (val A) E + 1074).toNat : Int) := by omega
      have e2 : rflag (val A) E = if lastE (val A) E ≤ E then 0 else if rnd (val A) E = 9218868437227405312 then 5 else if rnd (val A) E < 4503599627370496 then 3 else 1 := by unfold rflag; rw [if_neg hv, if_neg ht]
      by_cases g1 : lastE (val A) E ≤ E
      · rw [e2, if_pos g1]
        exact roundSize_e na ao ca A.length _ _ _ E _ _ w hl (by omega) hmax hk (by omega) hM CT CR hR (decide_eq_true g1)
      · rw [if_neg g1] at e2
        by_cases g2 : rnd (val A) E = 9218868437227405312
        · rw [e2, if_pos g2]
          exact roundSize_i na ao ca A.length _ _ _ E _ _ w hl (by omega) hmax hk (by omega) hM CT CR hR (decide_eq_false g1) (by simp; omega)
        · rw [if_neg g2] at e2
          have g2' : ((rnd (val A) E : Int) == 9218868437227405312) = false := by simp; omega
          by_cases g3 : rnd (val A) E < 4503599627370496
          · rw [e2, if_pos g3]
            exact roundSize_u na ao ca A.length _ _ _ E _ _ w hl (by omega) hmax hk (by omega) hM CT CR hR (decide_eq_false g1) g2' (decide_eq_true (by omega))
          · rw [e2, if_neg g3]
            exact roundSize_n na ao ca A.length _ _ _ E _ _ w hl (by omega) hmax hk (by omega) hM CT CR hR (decide_eq_false g1) g2' (decide_eq_false (by omega))

/-- A rung with its sign. -/
def wrd (neg : Bool) (r : Nat) : Nat := if neg = true then r + 9223372036854775808 else r
theorem wrd_true (r : Nat) : wrd true r = r + 9223372036854775808 := if_pos rfl
theorem wrd_false (r : Nat) : wrd false r = r := if_neg Bool.false_ne_true
theorem fN_wrd (r : Nat) (h : r < 9223372036854775808) : fN r = wrd true r := by rw [wrd_true]; unfold fN; exact if_neg (by omega)

set_option maxHeartbeats 4000000 in
theorem round_wrong (na : Bool) (ao : Option Addr) (ca : Nat) (A : List Nat) (E : Int) (w : World) (hA : LimbsAt w ao ca A) (la : A.length ≤ 35184372088830) (hr : drB na A E = false) (hT : Tab w) :
    Calls Tryd.prog 57 #[.agg #[.bool na, .slice ao A.length ca, .int .i64 E]] w fun e w' => e = .returned (.tuple #[.int .u64 0, .int .u8 0, .int .i64 1]) ∧ Below w.heap.size w w' := by
  have CC := hide (fun w' h t => dcheck_any na ao ca A E w' h la t)
  have he : drE na A E = 1 := by unfold drE; rw [hr]; rfl
  rw [he] at CC
  clear he hr
  have B0 := hide ((Below.refl w.heap.size w).alloc (Nat.le_refl _) (.cells #[.bool na, .slice ao A.length ca, .int .i64 E] 46))
  have HA := hide (hA.below (unhide B0)); have HT := hide (hT.all (unhide B0))
  clear hA hT
  generalize A.length = l at *
  go_enter Tryd.func57, Tryd.ntmps57
  go_wp2_with fail
  refine (unhide CC _ (unhide HA) (unhide HT)).mono ?_
  rintro e w1 ⟨rfl, hb1⟩
  have B1 := hide ((unhide B0).trans (hb1.mono (unhide B0).size))
  clear hb1 B0 CC HA HT
  go_wp2
  exact bodyPost_ret (v := .tuple #[.int .u64 0, .int .u8 0, .int .i64 1]) (by simp [results, Tryd.results57, go_sem]) rfl ⟨rfl, unhide B1⟩

set_option maxHeartbeats 4000000 in
theorem round_right (na : Bool) (ao : Option Addr) (ca : Nat) (A : List Nat) (E : Int) (w : World) (hA : LimbsAt w ao ca A) (hr : drB na A E = true) (hT : Tab w) :
    Calls Tryd.prog 57 #[.agg #[.bool na, .slice ao A.length ca, .int .i64 E]] w fun e w' => e = .returned (.tuple #[.int .u64 (wrd na (rnd (val A) E) : Nat), .int .u8 (rflag (val A) E), .int .i64 0]) ∧ Below w.heap.size w w' := by
  have la := (drB_bounds hr).2.1
  have CC := hide (fun w' h t => dcheck_any na ao ca A E w' h (by omega) t)
  have he : drE na A E = 0 := by unfold drE; rw [hr]; rfl
  rw [he] at CC
  have CR := hide (fun w' h => roundSize_any na ao ca A E w' h hr)
  have hle := rnd_le (val A) E
  have hn : fN (rnd (val A) E) = wrd true (rnd (val A) E) := fN_wrd _ (by omega)
  have CM := hide (fun w' => sminus_any (rnd (val A) E) w' (by omega))
  rw [hn] at CM
  clear he hr la
  have B0 := hide ((Below.refl w.heap.size w).alloc (Nat.le_refl _) (.cells #[.bool na, .slice ao A.length ca, .int .i64 E] 46))
  have X0 := hide (Box3.new w (.bool na) (.slice ao A.length ca) (.int .i64 E))
  have HA := hide (hA.below (unhide B0)); have HT := hide (hT.all (unhide B0))
  have hw0 : wrd false (rnd (val A) E) = rnd (val A) E := wrd_false _
  clear hA hT hle hn
  generalize rflag (val A) E = fl at *
  generalize rnd (val A) E = R at *
  cases na
  · rw [hw0]
    clear CM hw0
    go_enter Tryd.func57, Tryd.ntmps57
    go_wp2_with fail
    refine (unhide CC _ (unhide HA) (unhide HT)).mono ?_
    rintro e w1 ⟨rfl, hb1⟩
    have B1 := hide ((unhide B0).trans (hb1.mono (unhide B0).size))
    have x1 := (unhide X0).all hb1
    have HA1 := hide ((unhide HA).below hb1)
    have y0 := x1.c0; have y1 := x1.c1; have y2 := x1.c2
    have X1 := hide x1
    clear hb1 B0 CC HA HT X0 x1
    go_wp2_with fail
    refine (unhide CR _ (unhide HA1)).mono ?_
    rintro e w2 ⟨rfl, hb2⟩
    have B2 := hide ((unhide B1).trans (hb2.mono (unhide B1).size))
    have x2 := (unhide X1).all hb2
    clear y0 y1 y2
    have y0 := x2.c0; have y1 := x2.c1; have y2 := x2.c2
    clear hb2 x2 CR B1 X1
    go_wp2
    exact bodyPost_ret (v := .tuple #[.int .u64 R, .int .u8 fl, .int .i64 0]) (by simp [results, Tryd.results57, go_sem]) rfl ⟨rfl, unhide B2⟩
  · clear hw0
    generalize wrd true R = R' at *
    go_enter Tryd.func57, Tryd.ntmps57
    go_wp2_with fail
    refine (unhide CC _ (unhide HA) (unhide HT)).mono ?_
    rintro e w1 ⟨rfl, hb1⟩
    have B1 := hide ((unhide B0).trans (hb1.mono (unhide B0).size))
    have x1 := (unhide X0).all hb1
    have HA1 := hide ((unhide HA).below hb1)
    have y0 := x1.c0; have y1 := x1.c1; have y2 := x1.c2
    have X1 := hide x1
    clear hb1 B0 CC HA HT X0 x1
    go_wp2_with fail
    refine (unhide CR _ (unhide HA1)).mono ?_
    rintro e w2 ⟨rfl, hb2⟩
    have B2 := hide ((unhide B1).trans (hb2.mono (unhide B1).size))
    have x2 := (unhide X1).all hb2
    clear y0 y1 y2
    have y0 := x2.c0; have y1 := x2.c1; have y2 := x2.c2
    clear hb2 x2 CR B1 X1
    go_wp2_with (go_at_call 87; refine (unhide CM _).mono ?_; rintro e w3 ⟨rfl, rfl⟩)
    exact bodyPost_ret (v := .tuple #[.int .u64 R', .int .u8 fl, .int .i64 0]) (by simp [results, Tryd.results57, go_sem]) rfl ⟨rfl, unhide B2⟩

end Go.Proofs.YtgegjhkiiejhlaaDoor

/- Round of a number at hand; awake (layer 4); the law SoftKinds, walked. -/
namespace Go.Proofs.YtgegjhkiiejhlaaDoor
open Go.RowKit

theorem round_dy {w : World} {v : Value} {m e : Int} (h : IsDy w v m e) (hm : m.natAbs < TOP) (hr : dRt m e = true) (hT : Tab w) :
    Calls Tryd.prog 57 #[v] w fun r w' => r = .returned (.tuple #[.int .u64 (wrd (decide (m < 0)) (rnd m.natAbs e) : Nat), .int .u8 (rflag m.natAbs e), .int .i64 0]) ∧ Below w.heap.size w w' := by
  obtain ⟨n, a, c, L, rfl, h1, h2, h3, h4, h5⟩ := h.right hm
  have hn : n = decide (m < 0) := by
    obtain ⟨n', a', c', L', e1, _, _, e4, _⟩ := h.parts
    simp only [Value.agg.injEq, Array.mk.injEq, List.cons.injEq, Value.bool.injEq] at e1
    rw [e1.1]; exact e4
  have hv : val L = m.natAbs := by rw [← h3, natAbs_sval]
  have := round_right n a c L e w h1 (h5.trans hr) hT
  rw [hv, hn] at this
  rw [hn]
  exact this

theorem awake4_facts : fFin 4607182418800017408 = true ∧ fD 4607182418800017408 = 1 ∧ fX 4607182418800017408 = 0 ∧ fK 9221120237041090560 = 4 := by decide +kernel
theorem awake4_round : wrd (decide ((1 : Int) < 0)) (rnd (1 : Int).natAbs 0) = 4607182418800017408 ∧ rflag (1 : Int).natAbs 0 = 0 := by decide +kernel

end Go.Proofs.YtgegjhkiiejhlaaDoor

/- What a finite number's value is rounded to; the laws SoftKinds, SoftBack, walked. -/
namespace Go.Proofs.YtgegjhkiiejhlaaDoor
open Go.RowKit

theorem fM_abs (b : Nat) : (fM b).natAbs = fA b := by unfold fM sg; split <;> simp

theorem fin_lt (b : Nat) (hf : fFin b = true) : fP b < 2047 := by
  have := fP_lt b
  unfold fFin at hf
  simp at hf
  omega

theorem rnd_bits (b : Nat) (hf : fFin b = true) : rnd (fA b) (fE b) = b % 9223372036854775808 ∧ lastE (fA b) (fE b) = fE b ∧ (bl (fA b) : Int) + fE b ≤ 1024 := by
  have hp := fin_lt b hf
  have hb : b % 9223372036854775808 = fF b + fP b * 4503599627370496 := by unfold fF fP; omega
  have hfl := fF_lt b
  rw [hb]
  by_cases h0 : fP b = 0
  · have e1 : fA b = fF b := by unfold fA; rw [if_pos h0]
    have e2 : fE b = -1074 := by unfold fE; rw [if_pos h0]
    rw [e1, e2, h0]
    generalize fF b = f at *
    by_cases hz : f = 0
    · subst hz
      exact ⟨by simp [rnd], by decide, by decide⟩
    · obtain ⟨a1, a2, a3⟩ := bl_spec f hz
      have hbl : bl f ≤ 52 := by
        have h1 : (2 : Nat) ^ (bl f - 1) < 2 ^ 52 := by rw [p52]; omega
        have := pow_lt_of h1
        omega
      have hl : lastE f (-1074) = -1074 := by unfold lastE; omega
      refine ⟨?_, hl, by omega⟩
      rw [rnd_fin f _ hz (by omega)]
      unfold rndM
      rw [hl]
      have := mS_up f 0
      simp at this
      simp [this]
  · have e1 : fA b = fF b + 4503599627370496 := by unfold fA; rw [if_neg h0]
    have e2 : fE b = (fP b : Int) - 1075 := by unfold fE; rw [if_neg h0]
    rw [e1, e2]
    generalize fF b = f at *
    generalize fP b = p at *
    have hbl : bl (f + 4503599627370496) = 53 := bl_of (by decide) (by show 2 ^ 52 ≤ _; rw [p52]; omega) (by rw [p53]; omega)
    have hl : lastE (f + 4503599627370496) ((p : Int) - 1075) = (p : Int) - 1075 := by unfold lastE; rw [hbl]; omega
    refine ⟨?_, hl, by rw [hbl]; omega⟩
    rw [rnd_fin _ _ (by omega) (by rw [hbl]; omega)]
    unfold rndM
    rw [hl]
    have := mS_up (f + 4503599627370496) 0
    simp at this
    rw [show (p : Int) - 1075 - ((p : Int) - 1075) = 0 by omega, this]
    omega

theorem oM_abs (z : Int) (h : z ≠ 0) : z.natAbs = (oM z).natAbs * 2 ^ tz z.natAbs := by
  have h1 := (oddOf z h).1
  have h2 := congrArg Int.natAbs h1
  rw [Int.natAbs_mul, Int.natAbs_pow] at h2
  exact h2

theorem oM_sign (z : Int) : decide (oM z < 0) = decide (z < 0) := by
  have h := sgnI_oM z
  unfold sgnI at h
  by_cases h1 : oM z < 0
  · rw [if_pos h1] at h
    by_cases h2 : z < 0
    · rw [decide_eq_true h1, decide_eq_true h2]
    · rw [if_neg h2] at h
      split at h <;> omega
  · rw [if_neg h1] at h
    by_cases h2 : z < 0
    · rw [if_pos h2] at h
      split at h <;> omega
    · rw [decide_eq_false h1, decide_eq_false h2]

/-- A number and its odd part are rounded alike. -/
theorem rnd_odd (z e : Int) : rnd (oM z).natAbs (oE z e) = rnd z.natAbs e ∧ (z ≠ 0 → lastE (oM z).natAbs (oE z e) = lastE z.natAbs e ∧ (bl (oM z).natAbs : Int) + oE z e = (bl z.natAbs : Int) + e) := by
  by_cases h : z = 0
  · subst h
    refine ⟨by rw [oM_zero]; simp [rnd], fun h => absurd rfl h⟩
  · have ha := oM_abs z h
    have hne : (oM z).natAbs ≠ 0 := by have := (oM_ne z h).1; omega
    rw [oE_ne z e h]
    generalize tz z.natAbs = k at *
    rw [ha, rnd_scale]
    refine ⟨rfl, fun _ => ?_⟩
    have hb := bl_scale (oM z).natAbs k hne
    refine ⟨?_, by rw [hb]; omega⟩
    unfold lastE
    rw [hb]
    congr 1
    omega

theorem back_facts (b : Nat) (h : b < 18446744073709551616) (hf : fFin b = true) :
    wrd (decide (fD b < 0)) (rnd (fD b).natAbs (fX b)) = (if b = 9223372036854775808 then 0 else b) ∧ rflag (fD b).natAbs (fX b) = 0 ∧ (fD b).natAbs < TOP ∧ dRt (fD b) (fX b) = true := by
  have hr := rnd_bits b hf
  have ho := rnd_odd (fM b) (fE b)
  rw [fM_abs] at ho
  have hsg := oM_sign (fM b)
  have hT : (fD b).natAbs < TOP := Nat.lt_of_le_of_lt (oM_le (fM b)) (fM_TOP b)
  have hE := fE_in b
  have hrt : dRt (fD b) (fX b) = true := by
    have := dOk_rt (fM b) (fE b) (by omega)
    show dRt (oM (fM b)) (oE (fM b) (fE b)) = true
    rw [this]
    unfold dOk
    rw [decide_eq_true (by omega)]
    by_cases h0 : fM b = 0
    · rw [decide_eq_true h0]; rfl
    · have := fM_tz b h0
      rw [decide_eq_true (p := -16384 ≤ _ ∧ _) (by omega)]
      simp
  refine ⟨?_, ?_, hT, hrt⟩
  · show wrd (decide (oM (fM b) < 0)) (rnd (oM (fM b)).natAbs (oE (fM b) (fE b))) = _
    rw [ho.1, hr.1, hsg]
    have hs : fS b = decide (9223372036854775808 ≤ b) := rfl
    by_cases h0 : fA b = 0
    · have hm : fM b = 0 := by have := fM_abs b; omega
      have hz : b % 9223372036854775808 = 0 := by rw [← hr.1, h0]; simp [rnd]
      rw [hm, hz, show decide ((0 : Int) < 0) = false by decide, wrd_false]
      split <;> omega
    · have hneg : decide (fM b < 0) = fS b := by
        have hm : fM b = sg (fS b) (fA b) := rfl
        rw [hm]
        unfold sg
        cases fS b
        · simp
        · simp; omega
      rw [hneg, hs]
      have hne : b ≠ 9223372036854775808 := by
        rintro rfl
        exact h0 (by decide)
      rw [if_neg hne]
      by_cases hb : 9223372036854775808 ≤ b
      · rw [decide_eq_true hb, wrd_true]; omega
      · rw [decide_eq_false hb, wrd_false]; omega
  · show rflag (oM (fM b)).natAbs (oE (fM b) (fE b)) = 0
    by_cases h0 : fM b = 0
    · rw [h0, oM_zero]; simp [rflag]
    · obtain ⟨h1, h2⟩ := ho.2 h0
      have hne : (oM (fM b)).natAbs ≠ 0 := by have := (oM_ne (fM b) h0).1; omega
      unfold rflag
      rw [if_neg hne, if_neg (by omega), if_pos ?_]
      rw [h1, hr.2.1, oE_ne _ _ h0]
      omega

end Go.Proofs.YtgegjhkiiejhlaaDoor

/- Quotients with one digit more that says whether something is left: rounded, they hang not on how many digits were reckoned. -/
namespace Go.Proofs.YtgegjhkiiejhlaaDoor

/-- The quotient, and one digit more, 1 if something is left. -/
def stk (N d : Nat) : Nat := 2 * (N / d) + (if N % d = 0 then 0 else 1)

/-- N by D, to the nearest, between two to the even one. -/
def cutQ (N D : Nat) : Nat := N / D + (if D < 2 * (N % D) ∨ (D = 2 * (N % D) ∧ N / D % 2 = 1) then 1 else 0)

theorem cutQ_scale (N D i : Nat) : cutQ (N * 2 ^ i) (D * 2 ^ i) = cutQ N D := by
  have hp : 0 < 2 ^ i := Nat.two_pow_pos _
  unfold cutQ
  rw [Nat.mul_div_mul_right _ _ hp, Nat.mul_mod_mul_right]
  have h1 : (D * 2 ^ i < 2 * (N % D * 2 ^ i)) ↔ D < 2 * (N % D) := by
    rw [← Nat.mul_assoc]; exact Nat.mul_lt_mul_right hp
  have h2 : (D * 2 ^ i = 2 * (N % D * 2 ^ i)) ↔ D = 2 * (N % D) := by
    rw [← Nat.mul_assoc]; exact ⟨fun h => Nat.eq_of_mul_eq_mul_right hp h, fun h => by rw [← h]⟩
  simp only [h1, h2]

/-- Cut by k + 1 digits, at least two, the digit that says whether something is left stands for what is left. -/
theorem stk_cut (N d k : Nat) (hd : 0 < d) (hk : 1 ≤ k) : cutE (stk N d) (k + 1) = cutQ N (d * 2 ^ k) := by
  obtain ⟨j, rfl⟩ : ∃ j, k = j + 1 := ⟨k - 1, by omega⟩
  have hN := Nat.div_add_mod N d
  have hr := Nat.mod_lt N hd
  have hg : 0 < 2 ^ j := Nat.two_pow_pos _
  have e1 : (2 : Nat) ^ (j + 1) = 2 * 2 ^ j := by rw [Nat.pow_succ, Nat.mul_comm]
  have e2 : (2 : Nat) ^ (j + 1 + 1) = 2 * (2 * 2 ^ j) := by rw [Nat.pow_succ, e1, Nat.mul_comm]
  have ht : (if N % d = 0 then 0 else 1) ≤ 1 := by split <;> omega
  have htz : (if N % d = 0 then 0 else 1) = 0 ↔ N % d = 0 := by split <;> simp_all
  unfold cutE cutQ stk
  rw [e2, e1]
  generalize (2 : Nat) ^ j = g at *
  generalize (if N % d = 0 then 0 else 1) = t at *
  have hq := Nat.div_add_mod (N / d) (2 * g)
  have ha := Nat.mod_lt (N / d) (show 0 < 2 * g by omega)
  have dv : N / (d * (2 * g)) = N / d / (2 * g) := (Nat.div_div_eq_div_mul N d (2 * g)).symm
  have md : N % (d * (2 * g)) = d * (N / d % (2 * g)) + N % d := by
    rw [Nat.mod_mul]; omega
  rw [dv, md]
  generalize N % d = r at *
  generalize N / d = q at *
  generalize hA : q % (2 * g) = a at *
  generalize hQ : q / (2 * g) = b at *
  have s1 : (2 * q + t) / (2 * (2 * g)) = b := by
    rw [← hq, Nat.mul_add, ← Nat.mul_assoc 2 (2 * g) b, Nat.add_assoc]
    rw [Nat.mul_add_div (by omega), Nat.div_eq_of_lt (by omega), Nat.add_zero]
  have s2 : (2 * q + t) % (2 * (2 * g)) = 2 * a + t := by
    rw [← hq, Nat.mul_add, ← Nat.mul_assoc 2 (2 * g) b, Nat.add_assoc, Nat.mul_add_mod, Nat.mod_eq_of_lt (by omega)]
  rw [s1, s2]
  congr 1
  -- where a stands beside half
  rcases Nat.lt_trichotomy a g with h | h | h
  · have : d * a + d ≤ d * g := by rw [← Nat.mul_succ]; exact Nat.mul_le_mul_left d h
    have e3 : d * (2 * g) = 2 * (d * g) := by rw [Nat.mul_left_comm]
    rw [e3]
    rw [if_neg (by omega), if_neg (by omega)]
  · subst h
    have e3 : d * (2 * a) = 2 * (d * a) := by rw [Nat.mul_left_comm]
    rw [e3]
    by_cases h0 : r = 0
    · have := htz.2 h0
      by_cases h1 : b % 2 = 1
      · rw [if_pos (Or.inr ⟨by omega, h1⟩), if_pos (Or.inr ⟨by omega, h1⟩)]
      · rw [if_neg (by omega), if_neg (by omega)]
    · have : t ≠ 0 := fun e => h0 (htz.1 e)
      rw [if_pos (Or.inl (by omega)), if_pos (Or.inl (by omega))]
  · have : d * g + d ≤ d * a := by rw [← Nat.mul_succ]; exact Nat.mul_le_mul_left d h
    have e3 : d * (2 * g) = 2 * (d * g) := by rw [Nat.mul_left_comm]
    rw [e3]
    rw [if_pos (Or.inl (by omega)), if_pos (Or.inl (by omega))]

theorem stk_bl (N d i : Nat) (hd : 0 < d) (hq : 0 < N / d) : bl (stk (N * 2 ^ i) d) = bl (stk N d) + i := by
  have hp : 0 < 2 ^ i := Nat.two_pow_pos _
  have hs : stk N d ≠ 0 := by unfold stk; omega
  obtain ⟨b1, b2, b3⟩ := bl_spec (stk N d) hs
  have h1 : 2 ≤ stk N d := by unfold stk; omega
  have hb2 : 2 ≤ bl (stk N d) := by
    rcases Nat.lt_or_ge (bl (stk N d)) 2 with h | h
    · have : bl (stk N d) = 1 := by omega
      rw [this] at b3; omega
    · exact h
  obtain ⟨c, hc⟩ : ∃ c, bl (stk N d) = c + 2 := ⟨bl (stk N d) - 2, by omega⟩
  rw [hc] at b2 b3 ⊢
  -- of whole quotients: 2^c ≤ N / d < 2^(c+1)
  have q1 : 2 ^ (c + 1) ≤ N / d * 2 := by
    rw [show c + 2 - 1 = c + 1 by omega, Nat.pow_succ] at b2
    unfold stk at b2
    rw [Nat.pow_succ]
    have ht : (if N % d = 0 then 0 else 1) ≤ 1 := by split <;> omega
    omega
  have q2 : N / d < 2 ^ (c + 1) := by
    rw [Nat.pow_succ] at b3
    unfold stk at b3
    omega
  have q3 : 2 ^ c ≤ N / d := by rw [Nat.pow_succ] at q1; omega
  have n1 : 2 ^ c * d ≤ N := (Nat.le_div_iff_mul_le hd).1 q3
  have n2 : N < 2 ^ (c + 1) * d := (Nat.div_lt_iff_lt_mul hd).1 q2
  have m1 : 2 ^ (c + i) ≤ N * 2 ^ i / d := (Nat.le_div_iff_mul_le hd).2 (by
    rw [Nat.pow_add, Nat.mul_right_comm]; exact Nat.mul_le_mul_right _ n1)
  have m2 : N * 2 ^ i / d < 2 ^ (c + 1 + i) := (Nat.div_lt_iff_lt_mul hd).2 (by
    rw [Nat.pow_add, Nat.mul_right_comm]; exact (Nat.mul_lt_mul_right hp).2 n2)
  refine bl_of (by omega) ?_ ?_
  · rw [show c + 2 + i - 1 = c + i + 1 by omega, Nat.pow_succ]
    unfold stk
    omega
  · rw [show c + 2 + i = c + 1 + i + 1 by omega, Nat.pow_succ]
    unfold stk
    have ht : (if N * 2 ^ i % d = 0 then 0 else 1) ≤ 1 := by split <;> omega
    omega

theorem stk_big {N d : Nat} (hq : 9007199254740992 ≤ N / d) : 55 ≤ bl (stk N d) := by
  have hs : stk N d ≠ 0 := by unfold stk; omega
  obtain ⟨b1, b2, b3⟩ := bl_spec (stk N d) hs
  have h : 2 ^ 54 ≤ stk N d := by
    have : (2 : Nat) ^ 54 = 2 * 9007199254740992 := by decide
    rw [this]; unfold stk; omega
  have := pow_lt_of (Nat.lt_of_le_of_lt h b3)
  omega

/-- More digits: the same, rounded. -/
theorem stk_step (N d i : Nat) (E : Int) (hd : 0 < d) (hq : 9007199254740992 ≤ N / d) :
    rnd (stk (N * 2 ^ i) d) (E - i) = rnd (stk N d) E ∧ lastE (stk (N * 2 ^ i) d) (E - i) = lastE (stk N d) E ∧ (bl (stk (N * 2 ^ i) d) : Int) + (E - i) = (bl (stk N d) : Int) + E ∧ E + 2 ≤ lastE (stk N d) E := by
  have hb := stk_bl N d i hd (by omega)
  have h55 := stk_big hq
  have hs : stk N d ≠ 0 := by unfold stk; omega
  have hs' : stk (N * 2 ^ i) d ≠ 0 := fun h => by
    rw [h] at hb
    have : bl 0 = 0 := rfl
    omega
  have hl : lastE (stk (N * 2 ^ i) d) (E - i) = lastE (stk N d) E := by unfold lastE; rw [hb]; omega
  have hbE : (bl (stk (N * 2 ^ i) d) : Int) + (E - i) = (bl (stk N d) : Int) + E := by rw [hb]; omega
  have h2 : E + 2 ≤ lastE (stk N d) E := by have := (lastE_ge (stk N d) E).2.1; omega
  refine ⟨?_, hl, hbE, h2⟩
  have hM : rndM (stk (N * 2 ^ i) d) (E - i) = rndM (stk N d) E := by
    unfold rndM
    rw [hl]
    obtain ⟨k, hk⟩ : ∃ k : Nat, lastE (stk N d) E = E + k + 1 ∧ 1 ≤ k := ⟨(lastE (stk N d) E - E - 1).toNat, by omega, by omega⟩
    rw [show E - i - lastE (stk N d) E = -((k + i + 1 : Nat) : Int) by omega, show E - lastE (stk N d) E = -((k + 1 : Nat) : Int) by omega]
    rw [mS_down _ _ (by omega), mS_down _ _ (by omega), stk_cut _ _ _ hd (by omega), stk_cut _ _ _ hd (by omega)]
    rw [Nat.pow_add, ← Nat.mul_assoc]
    exact cutQ_scale _ _ _
  unfold rnd
  rw [if_neg hs, if_neg hs', hbE, hM, hl]

/-- And the same flags, where the divisor is odd. -/
theorem stk_flag (N d i : Nat) (E : Int) (hd : d % 2 = 1) (hq : 9007199254740992 ≤ N / d) :
    rflag (oM (stk (N * 2 ^ i) d : Nat)).natAbs (oE (stk (N * 2 ^ i) d : Nat) (E - i)) = rflag (oM (stk N d : Nat)).natAbs (oE (stk N d : Nat) E) := by
  have hd0 : 0 < d := by omega
  obtain ⟨s1, s2, s3, s4⟩ := stk_step N d i E hd0 hq
  by_cases h0 : N % d = 0
  · have hN : N = N / d * d := by have := Nat.div_add_mod N d; rw [h0, Nat.add_zero, Nat.mul_comm] at this; exact this.symm
    have h1 : N * 2 ^ i % d = 0 := by rw [Nat.mul_mod, h0]; simp
    have h2 : N * 2 ^ i / d = N / d * 2 ^ i := by
      conv => lhs; rw [hN, Nat.mul_right_comm]
      exact Nat.mul_div_cancel _ hd0
    have e : stk (N * 2 ^ i) d = stk N d * 2 ^ i := by
      unfold stk; rw [if_pos h0, if_pos h1, h2]; rw [Nat.add_zero, Nat.add_zero, Nat.mul_assoc]
    have e2 : ((stk (N * 2 ^ i) d : Nat) : Int) = ((stk N d : Nat) : Int) * 2 ^ i := by rw [e, Int.natCast_mul, Int.natCast_pow]; rfl
    have := oM_scale ((stk N d : Nat) : Int) i (E - i)
    rw [e2, this.1, this.2, show E - (i : Int) + i = E by omega]
  · have h1 : N * 2 ^ i % d ≠ 0 := fun h => h0 (by
      have hdv : d ∣ N * 2 ^ i := Nat.dvd_of_mod_eq_zero h
      have hc : Nat.Coprime d (2 ^ i) := by
        apply Nat.Coprime.pow_right
        unfold Nat.Coprime
        have h4 : Nat.gcd d 2 ∣ 2 := Nat.gcd_dvd_right d 2
        have h5 : Nat.gcd d 2 ∣ d := Nat.gcd_dvd_left d 2
        have h6 : Nat.gcd d 2 ≤ 2 := Nat.le_of_dvd (by decide) h4
        have h7 : Nat.gcd d 2 ≠ 0 := fun e => by rw [e] at h4; exact absurd (Nat.eq_zero_of_zero_dvd h4) (by decide)
        have h8 : Nat.gcd d 2 ≠ 2 := fun e => by rw [e] at h5; omega
        omega
      exact Nat.mod_eq_zero_of_dvd (hc.dvd_of_dvd_mul_right hdv))
    have o1 : ((stk N d : Nat) : Int) % 2 = 1 := by unfold stk; rw [if_neg h0]; omega
    have o2 : ((stk (N * 2 ^ i) d : Nat) : Int) % 2 = 1 := by unfold stk; rw [if_neg h1]; omega
    have z1 : ∀ (v : Nat) (e : Int), (v : Int) % 2 = 1 → oM (v : Int) = v ∧ oE (v : Int) e = e := fun v e h => by
      have hne : (v : Int) ≠ 0 := by omega
      have a := (oddOf (v : Int) hne).unique (m' := (v : Int)) (k' := 0) ⟨by simp, h⟩
      exact ⟨a.1, by rw [oE_ne _ _ hne, a.2]; simp⟩
    rw [(z1 _ (E - i) o2).1, (z1 _ (E - i) o2).2, (z1 _ E o1).1, (z1 _ E o1).2, Int.natAbs_natCast, Int.natAbs_natCast]
    have n1 : stk N d ≠ 0 := by omega
    have n2 : stk (N * 2 ^ i) d ≠ 0 := by omega
    unfold rflag
    rw [if_neg n1, if_neg n2, s3, s2, s1, if_neg (show ¬ lastE (stk N d) E ≤ E - i by omega), if_neg (show ¬ lastE (stk N d) E ≤ E by omega)]

/-- However many digits, if they are enough. -/
theorem stk_any (n d p q : Nat) (c : Int) (hd : 0 < d) (hp : 9007199254740992 ≤ n * 2 ^ p / d) (hq : 9007199254740992 ≤ n * 2 ^ q / d) :
    rnd (stk (n * 2 ^ p) d) (c - p) = rnd (stk (n * 2 ^ q) d) (c - q) := by
  have h1 := (stk_step (n * 2 ^ p) d q (c - p) hd hp).1
  have h2 := (stk_step (n * 2 ^ q) d p (c - q) hd hq).1
  rw [Nat.mul_assoc, ← Nat.pow_add] at h1 h2
  rw [Nat.add_comm q p, show c - (q : Int) - p = c - p - q by omega] at h2
  rw [← h1, ← h2]
theorem stk_any_flag (n d p q : Nat) (c : Int) (hd : d % 2 = 1) (hp : 9007199254740992 ≤ n * 2 ^ p / d) (hq : 9007199254740992 ≤ n * 2 ^ q / d) :
    rflag (oM (stk (n * 2 ^ p) d : Nat)).natAbs (oE (stk (n * 2 ^ p) d : Nat) (c - p)) = rflag (oM (stk (n * 2 ^ q) d : Nat)).natAbs (oE (stk (n * 2 ^ q) d : Nat) (c - q)) := by
  have h1 := stk_flag (n * 2 ^ p) d q (c - p) hd hp
  have h2 := stk_flag (n * 2 ^ q) d p (c - q) hd hq
  rw [Nat.mul_assoc, ← Nat.pow_add] at h1 h2
  rw [Nat.add_comm q p, show c - (q : Int) - p = c - p - q by omega] at h2
  rw [← h1, ← h2]
theorem stk_both (N d c : Nat) : stk (N * 2 ^ c) (d * 2 ^ c) = stk N d := by
  have hp : 0 < 2 ^ c := Nat.two_pow_pos _
  unfold stk
  rw [Nat.mul_div_mul_right _ _ hp, Nat.mul_mod_mul_right]
  have : N % d * 2 ^ c = 0 ↔ N % d = 0 := by
    constructor
    · intro h; rcases Nat.mul_eq_zero.1 h with h | h <;> omega
    · intro h; rw [h, Nat.zero_mul]
  simp only [this]

end Go.Proofs.YtgegjhkiiejhlaaDoor

