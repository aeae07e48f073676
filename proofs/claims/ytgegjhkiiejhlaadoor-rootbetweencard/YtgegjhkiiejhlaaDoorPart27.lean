/- Part 27 of the texts. -/
import Derived.Test.YtgegjhkiiejhlaaDoorPart26
import Derived.Test.YtgegjhkiiejhlaaDoorPart25
import Derived.Test.YtgegjhkiiejhlaaDoorPart18
import Derived.Test.YtgegjhkiiejhlaaDoorPart21
import Derived.Test.YtgegjhkiiejhlaaDoorPart24
import Derived.Test.YtgegjhkiiejhlaaDoorPart15
/- The reference's Round: the walks. -/
namespace Go.Proofs.YtgegjhkiiejhlaaDoor
open Go.RowKit

set_option maxHeartbeats 4000000 in
theorem rround_z (na : Bool) (ao : Option Addr) (ca : Nat) (E : Int) (w : World) :
    Calls Tryd.prog 39 #[.agg #[.bool na, .slice ao 0 ca, .int .i64 E]] w fun r w' => r = .returned (.tuple #[.int .u64 0, .int .u8 0]) ∧ Below w.heap.size w w' := by
  go_enter Tryd.func39, Tryd.ntmps39
  go_wp2
  exact bodyPost_ret (v := .tuple #[.int .u64 0, .int .u8 0]) (by simp [results, Tryd.results39, go_sem]) rfl ⟨rfl, (Below.refl _ _).alloc (Nat.le_refl _) _⟩

set_option maxHeartbeats 4000000 in
theorem rround_s (na : Bool) (ao : Option Addr) (ca l S : Nat) (E t : Int) (w : World) (h0 : 0 < l) (g1 : decide (t < -1080) = true)
    (CT : ∀ w', Below w.heap.size w w' → Calls Tryd.prog 49 #[.agg #[.bool na, .slice ao l ca, .int .i64 E]] w' fun r w'' => r = .returned (.int .i64 t) ∧ Below w'.heap.size w' w'')
    (CS : ∀ w', Calls Tryd.prog 66 #[.int .u64 0, .bool na] w' fun r w'' => r = .returned (.int .u64 S) ∧ w' = w'') :
    Calls Tryd.prog 39 #[.agg #[.bool na, .slice ao l ca, .int .i64 E]] w fun r w' => r = .returned (.tuple #[.int .u64 S, .int .u8 3]) ∧ Below w.heap.size w w' := by
  have h0' : decide (0 < l) = true := decide_eq_true h0
  have hz : ((l : Int) == 0) = false := by simp; omega
  have KT := hide CT; have KS := hide CS
  clear CT CS
  have B0 := hide ((Below.refl w.heap.size w).alloc (Nat.le_refl _) (.cells #[.bool na, .slice ao l ca, .int .i64 E] 46))
  have X0 := hide (Box3.new w (.bool na) (.slice ao l ca) (.int .i64 E))
  go_enter Tryd.func39, Tryd.ntmps39
  go_wp2_with fail
  refine (unhide KT _ (unhide B0)).mono ?_
  rintro e w1 ⟨rfl, hb1⟩
  have x1 := (unhide X0).all hb1
  have B1 := hide ((unhide B0).trans (hb1.mono (unhide B0).size))
  have X1 := hide x1
  try clear y0 y1 y2
  have y0 := x1.c0; have y1 := x1.c1; have y2 := x1.c2
  clear hb1 x1 B0 X0
  go_wp2_with (go_at_call 66; refine (unhide KS _).mono ?_; rintro e w9 ⟨rfl, rfl⟩)
  exact bodyPost_ret (v := .tuple #[.int .u64 S, .int .u8 3]) (by simp [results, Tryd.results39, go_sem]) rfl ⟨rfl, unhide B1⟩

set_option maxHeartbeats 4000000 in
theorem rround_l (na : Bool) (ao : Option Addr) (ca l S : Nat) (E t : Int) (w : World) (h0 : 0 < l) (g1 : decide (t < -1080) = false) (g2 : decide ((1030 : Int) < t) = true)
    (CT : ∀ w', Below w.heap.size w w' → Calls Tryd.prog 49 #[.agg #[.bool na, .slice ao l ca, .int .i64 E]] w' fun r w'' => r = .returned (.int .i64 t) ∧ Below w'.heap.size w' w'')
    (CS : ∀ w', Calls Tryd.prog 66 #[.int .u64 9218868437227405312, .bool na] w' fun r w'' => r = .returned (.int .u64 S) ∧ w' = w'') :
    Calls Tryd.prog 39 #[.agg #[.bool na, .slice ao l ca, .int .i64 E]] w fun r w' => r = .returned (.tuple #[.int .u64 S, .int .u8 5]) ∧ Below w.heap.size w w' := by
  have h0' : decide (0 < l) = true := decide_eq_true h0
  have hz : ((l : Int) == 0) = false := by simp; omega
  have KT := hide CT; have KS := hide CS
  clear CT CS
  have B0 := hide ((Below.refl w.heap.size w).alloc (Nat.le_refl _) (.cells #[.bool na, .slice ao l ca, .int .i64 E] 46))
  have X0 := hide (Box3.new w (.bool na) (.slice ao l ca) (.int .i64 E))
  go_enter Tryd.func39, Tryd.ntmps39
  go_wp2_with fail
  refine (unhide KT _ (unhide B0)).mono ?_
  rintro e w1 ⟨rfl, hb1⟩
  have x1 := (unhide X0).all hb1
  have B1 := hide ((unhide B0).trans (hb1.mono (unhide B0).size))
  have X1 := hide x1
  try clear y0 y1 y2
  have y0 := x1.c0; have y1 := x1.c1; have y2 := x1.c2
  clear hb1 x1 B0 X0
  go_wp2_with fail
  refine (unhide KT _ (unhide B1)).mono ?_
  rintro e w2 ⟨rfl, hb2⟩
  have x2 := (unhide X1).all hb2
  have B2 := hide ((unhide B1).trans (hb2.mono (unhide B1).size))
  have X2 := hide x2
  try clear y0 y1 y2
  have y0 := x2.c0; have y1 := x2.c1; have y2 := x2.c2
  clear hb2 x2 B1 X1
  go_wp2_with (go_at_call 66; refine (unhide KS _).mono ?_; rintro e w9 ⟨rfl, rfl⟩)
  exact bodyPost_ret (v := .tuple #[.int .u64 S, .int .u8 5]) (by simp [results, Tryd.results39, go_sem]) rfl ⟨rfl, unhide B2⟩

set_option maxHeartbeats 8000000 in
theorem rround_n (na ex : Bool) (ao : Option Addr) (ca l S m R : Nat) (E t last V fl : Int) (w : World) (h0 : 0 < l) (g1 : decide (t < -1080) = false) (g2 : decide ((1030 : Int) < t) = false) (ht : -1080 ≤ t ∧ t ≤ 1030) (hl : max (t - 53) (-1074) = last) (hl2 : -1074 ≤ last ∧ last ≤ 980)
    (CT : ∀ w', Below w.heap.size w w' → Calls Tryd.prog 49 #[.agg #[.bool na, .slice ao l ca, .int .i64 E]] w' fun r w'' => r = .returned (.int .i64 t) ∧ Below w'.heap.size w' w'')
    (CA : ∀ w', Below w.heap.size w w' → Calls Tryd.prog 68 #[.agg #[.bool na, .slice ao l ca, .int .i64 E]] w' fun r w'' => ∃ v, r = .returned v ∧ IsDy w'' v V E ∧ Below w'.heap.size w' w'')
    (CN : ∀ w' v, IsDy w' v V E → Calls Tryd.prog 67 #[v, .int .i64 last] w' fun r w'' => r = .returned (.tuple #[.int .u64 m, .bool ex]) ∧ Below w'.heap.size w' w'')
    (CB : ∀ w', Calls Tryd.prog 69 #[.int .u64 m, .int .i64 last] w' fun r w'' => r = .returned (.int .u64 R) ∧ w' = w'')
    (CF : ∀ w', Calls Tryd.prog 70 #[.int .u64 R, .bool ex] w' fun r w'' => r = .returned (.int .u8 fl) ∧ w' = w'')
    (CS : ∀ w', Calls Tryd.prog 66 #[.int .u64 R, .bool na] w' fun r w'' => r = .returned (.int .u64 S) ∧ w' = w'')
    (hm : ((m : Int) == 9007199254740992) = false) :
    Calls Tryd.prog 39 #[.agg #[.bool na, .slice ao l ca, .int .i64 E]] w fun r w' => r = .returned (.tuple #[.int .u64 S, .int .u8 fl]) ∧ Below w.heap.size w w' := by
  have hmx := fun W ts t' => max2_run Tryd.prog W ts t' (t - 53) (-1074)
  rw [hl] at hmx
  have w1 : IntKind.i64.wrap (t - 53) = t - 53 := by simp only [IntKind.wrap_i64]; omega
  have w2 : IntKind.i64.wrap (last + 1) = last + 1 := by simp only [IntKind.wrap_i64]; omega
  have KA := hide CA; have KN := hide CN; have KB := hide CB; have KF := hide CF
  clear CA CN CB CF hl ht
  have h0' : decide (0 < l) = true := decide_eq_true h0
  have hz : ((l : Int) == 0) = false := by simp; omega
  have KT := hide CT; have KS := hide CS
  clear CT CS
  have B0 := hide ((Below.refl w.heap.size w).alloc (Nat.le_refl _) (.cells #[.bool na, .slice ao l ca, .int .i64 E] 46))
  have X0 := hide (Box3.new w (.bool na) (.slice ao l ca) (.int .i64 E))
  go_enter Tryd.func39, Tryd.ntmps39
  go_wp2_with fail
  refine (unhide KT _ (unhide B0)).mono ?_
  rintro e w1 ⟨rfl, hb1⟩
  have x1 := (unhide X0).all hb1
  have B1 := hide ((unhide B0).trans (hb1.mono (unhide B0).size))
  have X1 := hide x1
  try clear y0 y1 y2
  have y0 := x1.c0; have y1 := x1.c1; have y2 := x1.c2
  clear hb1 x1 B0 X0
  go_wp2_with fail
  refine (unhide KT _ (unhide B1)).mono ?_
  rintro e w2 ⟨rfl, hb2⟩
  have x2 := (unhide X1).all hb2
  have B2 := hide ((unhide B1).trans (hb2.mono (unhide B1).size))
  have X2 := hide x2
  try clear y0 y1 y2
  have y0 := x2.c0; have y1 := x2.c1; have y2 := x2.c2
  clear hb2 x2 B1 X1
  go_wp2_with fail
  refine (unhide KT _ (unhide B2)).mono ?_
  rintro e w3 ⟨rfl, hb3⟩
  have x3 := (unhide X2).all hb3
  have B3 := hide ((unhide B2).trans (hb3.mono (unhide B2).size))
  have X3 := hide x3
  try clear y0 y1 y2
  have y0 := x3.c0; have y1 := x3.c1; have y2 := x3.c2
  clear hb3 x3 B2 X2
  go_wp2_with fail
  refine (unhide KA _ (unhide B3)).mono ?_
  rintro e w4 ⟨v, rfl, hv, hb4⟩
  have x4 := (unhide X3).all hb4
  have B4 := hide ((unhide B3).trans (hb4.mono (unhide B3).size))
  have X4 := hide x4
  have HV := hide hv
  clear hb4 x4 B3 X3 y0 y1 y2 hv KA KT
  go_wp2_with fail
  refine (unhide KN _ _ (unhide HV)).mono ?_
  rintro e w5 ⟨rfl, hb5⟩
  have x5 := (unhide X4).all hb5
  have B5 := hide ((unhide B4).trans (hb5.mono (unhide B4).size))
  have y0 := x5.c0; have y1 := x5.c1; have y2 := x5.c2
  clear hb5 x5 B4 X4 HV KN
  go_wp2_with (first | (go_at_call 69; refine (unhide KB _).mono ?_; rintro e w6 ⟨rfl, rfl⟩) | (go_at_call 66; refine (unhide KS _).mono ?_; rintro e w9 ⟨rfl, rfl⟩) | (go_at_call 70; refine (unhide KF _).mono ?_; rintro e w9 ⟨rfl, rfl⟩))
  exact bodyPost_ret (v := .tuple #[.int .u64 S, .int .u8 fl]) (by simp [results, Tryd.results39, go_sem]) rfl ⟨rfl, unhide B5⟩

set_option maxHeartbeats 8000000 in
theorem rround_c (na ex : Bool) (ao : Option Addr) (ca l S m R : Nat) (E t last V fl : Int) (w : World) (h0 : 0 < l) (g1 : decide (t < -1080) = false) (g2 : decide ((1030 : Int) < t) = false) (ht : -1080 ≤ t ∧ t ≤ 1030) (hl : max (t - 53) (-1074) = last) (hl2 : -1074 ≤ last ∧ last ≤ 980)
    (CT : ∀ w', Below w.heap.size w w' → Calls Tryd.prog 49 #[.agg #[.bool na, .slice ao l ca, .int .i64 E]] w' fun r w'' => r = .returned (.int .i64 t) ∧ Below w'.heap.size w' w'')
    (CA : ∀ w', Below w.heap.size w w' → Calls Tryd.prog 68 #[.agg #[.bool na, .slice ao l ca, .int .i64 E]] w' fun r w'' => ∃ v, r = .returned v ∧ IsDy w'' v V E ∧ Below w'.heap.size w' w'')
    (CN : ∀ w' v, IsDy w' v V E → Calls Tryd.prog 67 #[v, .int .i64 last] w' fun r w'' => r = .returned (.tuple #[.int .u64 m, .bool ex]) ∧ Below w'.heap.size w' w'')
    (CB : ∀ w', Calls Tryd.prog 69 #[.int .u64 4503599627370496, .int .i64 (last + 1)] w' fun r w'' => r = .returned (.int .u64 R) ∧ w' = w'')
    (CF : ∀ w', Calls Tryd.prog 70 #[.int .u64 R, .bool ex] w' fun r w'' => r = .returned (.int .u8 fl) ∧ w' = w'')
    (CS : ∀ w', Calls Tryd.prog 66 #[.int .u64 R, .bool na] w' fun r w'' => r = .returned (.int .u64 S) ∧ w' = w'')
    (hm : ((m : Int) == 9007199254740992) = true) :
    Calls Tryd.prog 39 #[.agg #[.bool na, .slice ao l ca, .int .i64 E]] w fun r w' => r = .returned (.tuple #[.int .u64 S, .int .u8 fl]) ∧ Below w.heap.size w w' := by
  have hmx := fun W ts t' => max2_run Tryd.prog W ts t' (t - 53) (-1074)
  rw [hl] at hmx
  have w1 : IntKind.i64.wrap (t - 53) = t - 53 := by simp only [IntKind.wrap_i64]; omega
  have w2 : IntKind.i64.wrap (last + 1) = last + 1 := by simp only [IntKind.wrap_i64]; omega
  have KA := hide CA; have KN := hide CN; have KB := hide CB; have KF := hide CF
  clear CA CN CB CF hl ht
  have h0' : decide (0 < l) = true := decide_eq_true h0
  have hz : ((l : Int) == 0) = false := by simp; omega
  have KT := hide CT; have KS := hide CS
  clear CT CS
  have B0 := hide ((Below.refl w.heap.size w).alloc (Nat.le_refl _) (.cells #[.bool na, .slice ao l ca, .int .i64 E] 46))
  have X0 := hide (Box3.new w (.bool na) (.slice ao l ca) (.int .i64 E))
  go_enter Tryd.func39, Tryd.ntmps39
  go_wp2_with fail
  refine (unhide KT _ (unhide B0)).mono ?_
  rintro e w1 ⟨rfl, hb1⟩
  have x1 := (unhide X0).all hb1
  have B1 := hide ((unhide B0).trans (hb1.mono (unhide B0).size))
  have X1 := hide x1
  try clear y0 y1 y2
  have y0 := x1.c0; have y1 := x1.c1; have y2 := x1.c2
  clear hb1 x1 B0 X0
  go_wp2_with fail
  refine (unhide KT _ (unhide B1)).mono ?_
  rintro e w2 ⟨rfl, hb2⟩
  have x2 := (unhide X1).all hb2
  have B2 := hide ((unhide B1).trans (hb2.mono (unhide B1).size))
  have X2 := hide x2
  try clear y0 y1 y2
  have y0 := x2.c0; have y1 := x2.c1; have y2 := x2.c2
  clear hb2 x2 B1 X1
  go_wp2_with fail
  refine (unhide KT _ (unhide B2)).mono ?_
  rintro e w3 ⟨rfl, hb3⟩
  have x3 := (unhide X2).all hb3
  have B3 := hide ((unhide B2).trans (hb3.mono (unhide B2).size))
  have X3 := hide x3
  try clear y0 y1 y2
  have y0 := x3.c0; have y1 := x3.c1; have y2 := x3.c2
  clear hb3 x3 B2 X2
  go_wp2_with fail
  refine (unhide KA _ (unhide B3)).mono ?_
  rintro e w4 ⟨v, rfl, hv, hb4⟩
  have x4 := (unhide X3).all hb4
  have B4 := hide ((unhide B3).trans (hb4.mono (unhide B3).size))
  have X4 := hide x4
  have HV := hide hv
  clear hb4 x4 B3 X3 y0 y1 y2 hv KA KT
  go_wp2_with fail
  refine (unhide KN _ _ (unhide HV)).mono ?_
  rintro e w5 ⟨rfl, hb5⟩
  have x5 := (unhide X4).all hb5
  have B5 := hide ((unhide B4).trans (hb5.mono (unhide B4).size))
  have y0 := x5.c0; have y1 := x5.c1; have y2 := x5.c2
  clear hb5 x5 B4 X4 HV KN
  go_wp2_with (first | (go_at_call 69; refine (unhide KB _).mono ?_; rintro e w6 ⟨rfl, rfl⟩) | (go_at_call 66; refine (unhide KS _).mono ?_; rintro e w9 ⟨rfl, rfl⟩) | (go_at_call 70; refine (unhide KF _).mono ?_; rintro e w9 ⟨rfl, rfl⟩))
  exact bodyPost_ret (v := .tuple #[.int .u64 S, .int .u8 fl]) (by simp [results, Tryd.results39, go_sem]) rfl ⟨rfl, unhide B5⟩

end Go.Proofs.YtgegjhkiiejhlaaDoor

/- Contract of the reference's Round; the law SoftRounds, walked. -/
namespace Go.Proofs.YtgegjhkiiejhlaaDoor
open Go.RowKit

theorem fK_rung (r : Nat) (h : r ≤ 9218868437227405312) : (fK r = 3 ↔ r = 9218868437227405312) ∧ (r ≠ 9218868437227405312 → (fK r = 2 ↔ ¬ r < 4503599627370496)) := by
  have h1 : fP r = r / 4503599627370496 := by unfold fP; omega
  have h2 : fF r = r % 4503599627370496 := rfl
  unfold fK
  rw [h1, h2]
  constructor
  · constructor
    · intro hk
      split at hk
      · omega
      · split at hk
        · split at hk <;> simp at hk
        · simp at hk
    · rintro rfl; decide
  · intro hne
    have h3 : r / 4503599627370496 ≠ 2047 := by omega
    rw [if_neg h3]
    by_cases h4 : r < 4503599627370496
    · rw [if_pos (by omega)]
      constructor
      · intro hk; split at hk <;> simp at hk
      · intro h; exact absurd h4 h
    · rw [if_neg (by omega)]
      exact ⟨fun _ => h4, fun _ => rfl⟩

theorem flags_rflag (V : Nat) (E : Int) (h : V ≠ 0) : (if fK (rnd V E) = 3 then 5 else if decide (lastE V E ≤ E) = true then 0 else if fK (rnd V E) = 2 then 1 else 3) = rflag V E := by
  obtain ⟨k1, k2⟩ := fK_rung (rnd V E) (rnd_le V E)
  by_cases ht : 1024 < (bl V : Int) + E
  · have e1 : rnd V E = 9218868437227405312 := by unfold rnd; rw [if_neg h, if_pos ht]
    have e2 : rflag V E = 5 := by unfold rflag; rw [if_neg h, if_pos ht]
    rw [if_pos (k1.2 e1), e2]
  · have e2 : rflag V E = if lastE V E ≤ E then 0 else if rnd V E = 9218868437227405312 then 5 else if rnd V E < 4503599627370496 then 3 else 1 := by unfold rflag; rw [if_neg h, if_neg ht]
    rw [e2]
    by_cases g1 : lastE V E ≤ E
    · have := rnd_exact_lt V E h (by omega) g1
      rw [if_neg (fun hk => by have := k1.1 hk; omega), if_pos (decide_eq_true g1), if_pos g1]
    · rw [if_neg g1, decide_eq_false g1]
      by_cases g2 : rnd V E = 9218868437227405312
      · rw [if_pos (k1.2 g2), if_pos g2]
      · rw [if_neg (fun hk => g2 (k1.1 hk)), if_neg g2, if_neg (by decide)]
        by_cases g3 : rnd V E < 4503599627370496
        · rw [if_neg (fun hk => (k2 g2).1 hk g3), if_pos g3]
        · rw [if_pos ((k2 g2).2 g3), if_neg g3]

theorem rnd_tiny (V : Nat) (E : Int) (h : V ≠ 0) (ht : (bl V : Int) + E < -1080) : rnd V E = 0 ∧ rflag V E = 3 := by
  obtain ⟨a1, a2, a3⟩ := bl_spec V h
  have hl : lastE V E = -1074 := by unfold lastE; omega
  have h0 : rnd V E = 0 := by
    rw [rnd_fin V E h (by omega)]
    unfold rndM
    rw [hl]
    obtain ⟨k, hk⟩ : ∃ k : Nat, -1074 - E = (k : Int) := ⟨(-1074 - E).toNat, by omega⟩
    rw [show E - -1074 = -(k : Int) by omega, mS_down V k (by omega)]
    have h1 : V < 2 ^ (k - 1) := Nat.lt_of_lt_of_le a3 (pow_le2 (by omega))
    have h2 : 2 ^ k = 2 ^ (k - 1) * 2 := by
      obtain ⟨m, rfl⟩ : ∃ m, k = m + 1 := ⟨k - 1, by omega⟩
      exact Nat.pow_succ 2 m
    have h3 : V < 2 ^ k := by omega
    unfold cutE
    rw [Nat.div_eq_of_lt h3, Nat.mod_eq_of_lt h3, if_neg (by omega)]
    simp
  refine ⟨h0, ?_⟩
  unfold rflag
  rw [if_neg h, if_neg (by omega), if_neg (by omega), h0, if_neg (by decide), if_pos (by decide)]

theorem rround_right (na : Bool) (ao : Option Addr) (ca : Nat) (A : List Nat) (E : Int) (w : World) (hA : LimbsAt w ao ca A) (hr : drB na A E = true) (h60 : A.length ≤ 80) :
    Calls Tryd.prog 39 #[.agg #[.bool na, .slice ao A.length ca, .int .i64 E]] w fun r w' => r = .returned (.tuple #[.int .u64 (wrd na (rnd (val A) E) : Nat), .int .u8 (rflag (val A) E)]) ∧ Below w.heap.size w w' := by
  obtain ⟨d1, d2, d3, d4, d5⟩ := drB_bounds hr
  by_cases h0 : A = []
  · subst h0
    have hna : na = false := by
      have := (right_canon d1).2.2
      cases na
      · rfl
      · exact absurd rfl (this rfl)
    subst hna
    have e1 : rnd (val []) E = 0 := by simp [rnd, val]
    have e2 : rflag (val []) E = 0 := by simp [rflag, val]
    rw [e1, e2, wrd_false]
    exact rround_z false ao ca E w
  · have hv := val_ne d1 h0
    have hl : 0 < A.length := List.length_pos_iff.2 h0
    have hval : val A < 2 ^ (32 * 80) := val_lt_pow A hA.2.1 80 h60
    have hbl : bl (val A) ≤ 32 * 80 := by
      have h1 := bl_spec (val A) hv
      have := pow_lt_of (Nat.lt_of_le_of_lt h1.2.1 hval)
      omega
    have hbl1 := (bl_spec (val A) hv).1
    have ho := drB_val hr h0
    have htop : topR A E = (bl (val A) : Int) + E := by unfold topR; rw [if_neg (by omega), lenL_bl hA.2.1 d1]
    have CT : ∀ w', Below w.heap.size w w' → Calls Tryd.prog 49 #[.agg #[.bool na, .slice ao A.length ca, .int .i64 E]] w' fun r w'' => r = .returned (.int .i64 ((bl (val A) : Int) + E)) ∧ Below w'.heap.size w' w'' := fun w' hb => by
      have := rtop_any na ao ca A E w' (hA.below hb) (by omega) (by omega)
      rwa [htop] at this
    have CA : ∀ w', Below w.heap.size w w' → Calls Tryd.prog 68 #[.agg #[.bool na, .slice ao A.length ca, .int .i64 E]] w' fun r w'' => ∃ v, r = .returned v ∧ IsDy w'' v (val A : Int) E ∧ Below w'.heap.size w' w'' := fun w' hb => rabs_any na ao ca A E w' (hA.below hb) d2
    have hle := rnd_le (val A) E
    have CS : ∀ w', Calls Tryd.prog 66 #[.int .u64 (rnd (val A) E : Nat), .bool na] w' fun r w'' => r = .returned (.int .u64 (wrd na (rnd (val A) E) : Nat)) ∧ w' = w'' := fun w' => signed_any _ na w' (by omega)
    have hfl := flags_rflag (val A) E hv
    have htiny := rnd_tiny (val A) E hv
    have hfin := rnd_fin (val A) E hv
    have hbig : 1024 < (bl (val A) : Int) + E → rnd (val A) E = 9218868437227405312 ∧ rflag (val A) E = 5 := fun ht => by
      unfold rnd rflag
      rw [if_neg hv, if_pos ht, if_neg hv, if_pos ht]
      exact ⟨rfl, rfl⟩
    have hM := rndM_bounds (val A) E hv
    obtain ⟨l1, l2, l3⟩ := lastE_ge (val A) E
    have hmx : max ((bl (val A) : Int) + E - 53) (-1074) = lastE (val A) E := rfl
    generalize hVV : val A = V at *
    by_cases g1 : (bl V : Int) + E < -1080
    · obtain ⟨e1, e2⟩ := htiny g1
      rw [e2]
      rw [e1] at CS ⊢
      exact rround_s na ao ca A.length _ E _ w hl (decide_eq_true g1) CT CS
    · by_cases g2 : 1030 < (bl V : Int) + E
      · obtain ⟨e1, e2⟩ := hbig (by omega)
        rw [e2]
        rw [e1] at CS ⊢
        exact rround_l na ao ca A.length _ E _ w hl (decide_eq_false g1) (decide_eq_true g2) CT CS
      · have hm0 : rndM V E = mS V (E - lastE V E) := rfl
        have CN : ∀ w' v, IsDy w' v (V : Int) E → Calls Tryd.prog 67 #[v, .int .i64 (lastE V E)] w' fun r w'' => r = .returned (.tuple #[.int .u64 (rndM V E : Nat), .bool (decide (lastE V E ≤ E))]) ∧ Below w'.heap.size w' w'' := fun w' v h =>
          nearest_dy (lastE V E) h ho (B := 32 * 80) (by decide) hval (by omega) (by omega) (by rw [← hm0]; exact hM.1)
        have CF : ∀ w', Calls Tryd.prog 70 #[.int .u64 (rnd V E : Nat), .bool (decide (lastE V E ≤ E))] w' fun r w'' => r = .returned (.int .u8 (rflag V E)) ∧ w' = w'' := fun w' => by
          have := flags_any (rnd V E) (decide (lastE V E ≤ E)) w' (by omega)
          rw [hfl] at this
          exact this
        generalize rndM V E = m at *
        by_cases g3 : m = 9007199254740992
        · have CB : ∀ w', Calls Tryd.prog 69 #[.int .u64 4503599627370496, .int .i64 (lastE V E + 1)] w' fun r w'' => r = .returned (.int .u64 (rnd V E : Nat)) ∧ w' = w'' := fun w' => by
            by_cases g4 : 971 ≤ lastE V E
            · have hR : rnd V E = 9218868437227405312 := by
                by_cases g5 : 1024 < (bl V : Int) + E
                · exact (hbig g5).1
                · rw [hfin (by omega)]; omega
              rw [hR]
              exact bits_inf 4503599627370496 (lastE V E + 1) w' (by decide) (by omega)
            · have hR := hfin (by omega)
              exact bits_mid 4503599627370496 (lastE V E + 1 + 1074).toNat _ (lastE V E + 1) w' (by decide) (by decide) (by omega) (by omega) (by omega)
          exact rround_c na _ ao ca A.length _ m _ E _ (lastE V E) _ _ w hl (decide_eq_false g1) (decide_eq_false g2) (by omega) hmx (by omega) CT CA CN CB CF CS (by rw [g3]; decide)
        · have CB : ∀ w', Calls Tryd.prog 69 #[.int .u64 m, .int .i64 (lastE V E)] w' fun r w'' => r = .returned (.int .u64 (rnd V E : Nat)) ∧ w' = w'' := fun w' => by
            by_cases g4 : m < 4503599627370496
            · have hlow : lastE V E = -1074 := by
                rcases Int.lt_or_le (-1074) (lastE V E) with h | h
                · have := hM.2.1 h; omega
                · omega
              have hR := hfin (by omega)
              rw [hlow] at hR
              have hR' : rnd V E = m := by rw [hR]; simp
              rw [hR']
              exact bits_low m _ w' (by omega)
            · by_cases g5 : 972 ≤ lastE V E
              · have hR := (hbig (by omega)).1
                rw [hR]
                exact bits_inf m (lastE V E) w' (by omega) (by omega)
              · have hR := hfin (by omega)
                exact bits_mid m (lastE V E + 1074).toNat _ (lastE V E) w' (by omega) (by omega) (by omega) (by omega) hR
          exact rround_n na _ ao ca A.length _ m _ E _ (lastE V E) _ _ w hl (decide_eq_false g1) (decide_eq_false g2) (by omega) hmx (by omega) CT CA CN CB CF CS (by simp; omega)

end Go.Proofs.YtgegjhkiiejhlaaDoor

/- The reference's sum at a level, its rounding of a number at hand; its Add and Sub of layer 5. -/
namespace Go.Proofs.YtgegjhkiiejhlaaDoor
open Go.RowKit

theorem raddN {w : World} {v u : Value} {lo : Int} {W : Nat} {z1 z2 : Int} (hv : IsDy w v (oM z1) (oE z1 lo)) (hu : IsDy w u (oM z2) (oE z2 lo)) (h1 : Lvl lo W z1) (h2 : Lvl lo W z2) :
    Calls Tryd.prog 47 #[v, u] w fun r w' => ∃ q, r = .returned q ∧ IsDy w' q (oM (z1 + z2)) (oE (z1 + z2) lo) ∧ Below w.heap.size w w' := by
  obtain ⟨na, ao, ca, A, rfl, a1, a2, a3, a4, a5⟩ := hv.right h1.right.2
  obtain ⟨nb, bo, cb, B, rfl, b1, b2, b3, b4, b5⟩ := hu.right h2.right.2
  have x1 := dRt_in h1.right.1
  have x2 := dRt_in h2.right.1
  have t1 := h1.tops
  have t2 := h2.tops
  by_cases h0 : z1 = 0 ∧ z2 = 0
  · obtain ⟨rfl, rfl⟩ := h0
    rw [oM_zero] at a3 b3
    rw [oE_zero] at *
    have eZ : sumZ 0 0 0 0 = 0 := by decide
    have eU : upE 0 0 (lowE 0 0 0 0) = 0 := upE_ok _ _ _ (by rw [up_zero]; exact TOP_pos) (by decide)
    have := radd_any na nb ao bo ca cb A B 0 0 w a1 b1 a2 b2 (by omega) (by omega) (by rw [a3, b3]; exact eU) (by rw [a3, b3]; exact eU)
    rw [a3, b3, eZ, oM_zero, oE_zero] at this
    simpa [oM_zero, oE_zero] using this
  · obtain ⟨k, e1, e2, e3, e4, e5⟩ := low_level h1 h2 h0
    have g1 : upE (oM z1) (oE z1 lo) (lo + k) = 0 := upE_ok _ _ _ (Nat.lt_of_le_of_lt (le_scaled e2) t1) e4
    have g2 : upE (oM z2) (oE z2 lo) (lo + k) = 0 := upE_ok _ _ _ (Nat.lt_of_le_of_lt (le_scaled e3) t2) e5
    have := radd_any na nb ao bo ca cb A B _ _ w a1 b1 a2 b2 x1 x2 (by rw [a3, b3, e1]; exact g1) (by rw [a3, b3, e1]; exact g2)
    rw [a3, b3, e1] at this
    have hZ : sumZ (oM z1) (oE z1 lo) (oM z2) (oE z2 lo) * 2 ^ k = z1 + z2 := by
      unfold sumZ
      rw [e1, Int.add_mul, e2, e3]
    generalize sumZ (oM z1) (oE z1 lo) (oM z2) (oE z2 lo) = Z at *
    have hs := oM_scale Z k lo
    rw [hZ] at hs
    rw [hs.1, hs.2]
    exact this

theorem rround_dy {w : World} {v : Value} {m e : Int} (h : IsDy w v m e) (hm : m.natAbs < 4294967296 ^ 80) (hr : dRt m e = true) :
    Calls Tryd.prog 39 #[v] w fun r w' => r = .returned (.tuple #[.int .u64 (wrd (decide (m < 0)) (rnd m.natAbs e) : Nat), .int .u8 (rflag m.natAbs e)]) ∧ Below w.heap.size w w' := by
  have hT : m.natAbs < TOP := Nat.lt_of_lt_of_le hm (Nat.pow_le_pow_right (by decide) (by decide))
  obtain ⟨n, a, c, L, rfl, h1, h2, h3, h4, h5⟩ := h.right hT
  have hn : n = decide (m < 0) := by
    obtain ⟨n', a', c', L', e1, _, _, e4, _⟩ := h.parts
    simp only [Value.agg.injEq, Array.mk.injEq, List.cons.injEq, Value.bool.injEq] at e1
    rw [e1.1]; exact e4
  have hv : val L = m.natAbs := by rw [← h3, natAbs_sval]
  have hl : L.length ≤ 80 := (length_le_iff L h1.2.1 (right_canon h2).2.1 80).2 (by rw [hv]; exact hm)
  have := rround_right n a c L e w h1 (h5.trans hr) hl
  rw [hv, hn] at this
  rw [hn]
  exact this

end Go.Proofs.YtgegjhkiiejhlaaDoor

/- The reference of layer 6: signed, Mul. -/
namespace Go.Proofs.YtgegjhkiiejhlaaDoor
open Go.RowKit

set_option maxRecDepth 20000 in
set_option maxHeartbeats 2000000 in
theorem r6signed_any (z : Nat) (n : Bool) (w : World) (hz : z < 9223372036854775808) :
    Calls Tryd.prog 43 #[.int .u64 z, .bool n] w fun r w' => r = .returned (.int .u64 (wrd n z : Nat)) ∧ w = w' := by
  have K := hide (fun w' => rminus4_any z w' (by omega))
  cases n
  · rw [wrd_false]
    go_enter Tryd.func43, Tryd.ntmps43
    go_wp2
    go_ret
    exact ⟨rfl, rfl⟩
  · rw [← fN_wrd z hz]
    go_enter Tryd.func43, Tryd.ntmps43
    go_wp2_with fail
    refine (unhide K _).mono ?_
    rintro e wk ⟨rfl, rfl⟩
    go_wp2
    go_ret
    exact ⟨rfl, rfl⟩

/-- The reference's product of two that are not long. -/
theorem rmul6 {w : World} {v u : Value} {m1 m2 e1 e2 : Int} (hv : IsDy w v m1 e1) (hu : IsDy w u m2 e2) (h1 : m1.natAbs < 9007199254740992) (h2 : m2.natAbs < 9007199254740992) (b1 : -2000 ≤ e1 ∧ e1 ≤ 2000) (b2 : -2000 ≤ e2 ∧ e2 ≤ 2000) :
    Calls Tryd.prog 27 #[v, u] w fun r w' => ∃ q, r = .returned q ∧ IsDy w' q (oM (m1 * m2)) (oE (m1 * m2) (e1 + e2)) ∧ Below w.heap.size w w' := by
  have p30 : (9007199254740992 : Nat) ≤ 4294967296 ^ 30 := by decide +kernel
  obtain ⟨n, a, c, L, rfl, g1, g2, g3, g4, g5⟩ := hv.right (small_TOP _ (by omega))
  obtain ⟨n', a', c', L', rfl, k1, k2, k3, k4, k5⟩ := hu.right (small_TOP _ (by omega))
  have v1 : val L = m1.natAbs := by rw [← g3, natAbs_sval]
  have v2 : val L' = m2.natAbs := by rw [← k3, natAbs_sval]
  have l1 : L.length ≤ 30 := (length_le_iff L g1.2.1 (right_canon g2).2.1 30).2 (by rw [v1]; exact Nat.lt_of_lt_of_le h1 p30)
  have l2 : L'.length ≤ 30 := (length_le_iff L' k1.2.1 (right_canon k2).2.1 30).2 (by rw [v2]; exact Nat.lt_of_lt_of_le h2 p30)
  have := rmul_any n n' a a' c c' L L' e1 e2 w g1 k1 l1 l2
  rw [g3, k3] at this
  have hm : (m1 * m2).natAbs < 2 ^ 106 := by
    rw [Int.natAbs_mul]
    have : m1.natAbs * m2.natAbs < 9007199254740992 * 9007199254740992 := Nat.mul_lt_mul_of_lt_of_le h1 (Nat.le_of_lt h2) (by decide)
    exact Nat.lt_of_lt_of_le this (by decide)
  have hE : (if m1 * m2 = 0 then 0 else IntKind.i64.wrap (IntKind.i64.wrap (e1 + e2) + tz (m1 * m2).natAbs)) = oE (m1 * m2) (e1 + e2) := by
    by_cases h0 : m1 * m2 = 0
    · rw [if_pos h0, h0, oE_zero]
    · have ht : tz (m1 * m2).natAbs < 106 := tz_lt _ 106 (by omega) hm
      rw [if_neg h0, oE_ne _ _ h0, wrap_small (e1 + e2) (by omega), wrap_small _ (by omega)]
  rwa [hE] at this

/-- The product, at its numbers' own powers. -/
theorem mZ_level (a b : Nat) (ha : a < 18446744073709551616) (hb : b < 18446744073709551616) (fa : fFin a = true) (fb : fFin b = true) (a0 : fK a ≠ 0) (b0 : fK b ≠ 0) :
    oM (fZ a * fZ b) = oM (fD a * fD b) ∧ oE (fZ a * fZ b) (-2148) = oE (fD a * fD b) (fX a + fX b) := by
  obtain ⟨d1, d2⟩ := fZ_level a ha fa
  obtain ⟨d3, d4⟩ := fZ_level b hb fb
  have x1 := oM_level (fZ a) (-1074) (fZ_neg a a0).1
  have x2 := oM_level (fZ b) (-1074) (fZ_neg b b0).1
  rw [d1, d2] at x1
  rw [d3, d4] at x2
  have r1 : -1074 ≤ fX a := by rw [← d2, oE_ne _ _ (fZ_neg a a0).1]; omega
  have r2 : -1074 ≤ fX b := by rw [← d4, oE_ne _ _ (fZ_neg b b0).1]; omega
  have e : fZ a * fZ b = fD a * fD b * 2 ^ ((fX a - -1074).toNat + (fX b - -1074).toNat) := by
    rw [← x1, ← x2, Int.pow_add]
    generalize (2 : Int) ^ (fX a - -1074).toNat = P
    generalize (2 : Int) ^ (fX b - -1074).toNat = Q
    ac_rfl
  have h := oM_scale (fD a * fD b) ((fX a - -1074).toNat + (fX b - -1074).toNat) (-2148)
  rw [← e] at h
  refine ⟨h.1, ?_⟩
  rw [h.2]
  congr 1
  omega

set_option maxRecDepth 20000 in
set_option maxHeartbeats 4000000 in
theorem r6mul_n1 (a b : Nat) (kb : Int) (s t : Bool) (w : World) 
    (C1 : ∀ w', Calls Tryd.prog 23 #[.int .u64 a] w' fun r w'' => r = .returned (.int .i64 4) ∧ w' = w'')
    (C2 : ∀ w', Calls Tryd.prog 23 #[.int .u64 b] w' fun r w'' => r = .returned (.int .i64 kb) ∧ w' = w'')
    (C3 : ∀ w', Calls Tryd.prog 20 #[.int .u64 a] w' fun r w'' => r = .returned (.bool s) ∧ w' = w'')
    (C4 : ∀ w', Calls Tryd.prog 20 #[.int .u64 b] w' fun r w'' => r = .returned (.bool t) ∧ w' = w'') :
    Calls Tryd.prog 19 #[.int .u64 a, .int .u64 b] w fun r w' => r = .returned (.tuple #[.int .u64 9221120237041090560, .int .u8 0]) ∧ Below w.heap.size w w' := by
  have K1 := hide C1
  have K2 := hide C2
  have K3 := hide C3
  have K4 := hide C4
  clear C1 C2 C3 C4
  go_enter Tryd.func19, Tryd.ntmps19
  go_wp2_with fail
  refine (unhide K1 _).mono ?_
  rintro e wk ⟨rfl, rfl⟩
  go_wp2_with fail
  refine (unhide K2 _).mono ?_
  rintro e wk ⟨rfl, rfl⟩
  go_wp2_with fail
  refine (unhide K3 _).mono ?_
  rintro e wk ⟨rfl, rfl⟩
  go_wp2_with fail
  refine (unhide K4 _).mono ?_
  rintro e wk ⟨rfl, rfl⟩
  go_wp2
  exact bodyPost_ret (v := .tuple #[.int .u64 9221120237041090560, .int .u8 0]) (by simp [results, Tryd.results19, go_sem]) rfl ⟨rfl, Below.refl _ _⟩


set_option maxRecDepth 20000 in
set_option maxHeartbeats 4000000 in
theorem r6mul_n2 (a b : Nat) (ka : Int) (s t : Bool) (w : World) (h0 : (ka == 4) = false)
    (C1 : ∀ w', Calls Tryd.prog 23 #[.int .u64 a] w' fun r w'' => r = .returned (.int .i64 ka) ∧ w' = w'')
    (C2 : ∀ w', Calls Tryd.prog 23 #[.int .u64 b] w' fun r w'' => r = .returned (.int .i64 4) ∧ w' = w'')
    (C3 : ∀ w', Calls Tryd.prog 20 #[.int .u64 a] w' fun r w'' => r = .returned (.bool s) ∧ w' = w'')
    (C4 : ∀ w', Calls Tryd.prog 20 #[.int .u64 b] w' fun r w'' => r = .returned (.bool t) ∧ w' = w'') :
    Calls Tryd.prog 19 #[.int .u64 a, .int .u64 b] w fun r w' => r = .returned (.tuple #[.int .u64 9221120237041090560, .int .u8 0]) ∧ Below w.heap.size w w' := by
  have K1 := hide C1
  have K2 := hide C2
  have K3 := hide C3
  have K4 := hide C4
  clear C1 C2 C3 C4
  go_enter Tryd.func19, Tryd.ntmps19
  go_wp2_with fail
  refine (unhide K1 _).mono ?_
  rintro e wk ⟨rfl, rfl⟩
  go_wp2_with fail
  refine (unhide K2 _).mono ?_
  rintro e wk ⟨rfl, rfl⟩
  go_wp2_with fail
  refine (unhide K3 _).mono ?_
  rintro e wk ⟨rfl, rfl⟩
  go_wp2_with fail
  refine (unhide K4 _).mono ?_
  rintro e wk ⟨rfl, rfl⟩
  go_wp2
  exact bodyPost_ret (v := .tuple #[.int .u64 9221120237041090560, .int .u8 0]) (by simp [results, Tryd.results19, go_sem]) rfl ⟨rfl, Below.refl _ _⟩


set_option maxRecDepth 20000 in
set_option maxHeartbeats 4000000 in
theorem r6mul_iz (a b : Nat) (s t : Bool) (w : World) 
    (C1 : ∀ w', Calls Tryd.prog 23 #[.int .u64 a] w' fun r w'' => r = .returned (.int .i64 3) ∧ w' = w'')
    (C2 : ∀ w', Calls Tryd.prog 23 #[.int .u64 b] w' fun r w'' => r = .returned (.int .i64 0) ∧ w' = w'')
    (C3 : ∀ w', Calls Tryd.prog 20 #[.int .u64 a] w' fun r w'' => r = .returned (.bool s) ∧ w' = w'')
    (C4 : ∀ w', Calls Tryd.prog 20 #[.int .u64 b] w' fun r w'' => r = .returned (.bool t) ∧ w' = w'') :
    Calls Tryd.prog 19 #[.int .u64 a, .int .u64 b] w fun r w' => r = .returned (.tuple #[.int .u64 9221120237041090560, .int .u8 16]) ∧ Below w.heap.size w w' := by
  have K1 := hide C1
  have K2 := hide C2
  have K3 := hide C3
  have K4 := hide C4
  clear C1 C2 C3 C4
  go_enter Tryd.func19, Tryd.ntmps19
  go_wp2_with fail
  refine (unhide K1 _).mono ?_
  rintro e wk ⟨rfl, rfl⟩
  go_wp2_with fail
  refine (unhide K2 _).mono ?_
  rintro e wk ⟨rfl, rfl⟩
  go_wp2_with fail
  refine (unhide K3 _).mono ?_
  rintro e wk ⟨rfl, rfl⟩
  go_wp2_with fail
  refine (unhide K4 _).mono ?_
  rintro e wk ⟨rfl, rfl⟩
  go_wp2
  exact bodyPost_ret (v := .tuple #[.int .u64 9221120237041090560, .int .u8 16]) (by simp [results, Tryd.results19, go_sem]) rfl ⟨rfl, Below.refl _ _⟩


set_option maxRecDepth 20000 in
set_option maxHeartbeats 4000000 in
theorem r6mul_zi (a b : Nat) (s t : Bool) (w : World) 
    (C1 : ∀ w', Calls Tryd.prog 23 #[.int .u64 a] w' fun r w'' => r = .returned (.int .i64 0) ∧ w' = w'')
    (C2 : ∀ w', Calls Tryd.prog 23 #[.int .u64 b] w' fun r w'' => r = .returned (.int .i64 3) ∧ w' = w'')
    (C3 : ∀ w', Calls Tryd.prog 20 #[.int .u64 a] w' fun r w'' => r = .returned (.bool s) ∧ w' = w'')
    (C4 : ∀ w', Calls Tryd.prog 20 #[.int .u64 b] w' fun r w'' => r = .returned (.bool t) ∧ w' = w'') :
    Calls Tryd.prog 19 #[.int .u64 a, .int .u64 b] w fun r w' => r = .returned (.tuple #[.int .u64 9221120237041090560, .int .u8 16]) ∧ Below w.heap.size w w' := by
  have K1 := hide C1
  have K2 := hide C2
  have K3 := hide C3
  have K4 := hide C4
  clear C1 C2 C3 C4
  go_enter Tryd.func19, Tryd.ntmps19
  go_wp2_with fail
  refine (unhide K1 _).mono ?_
  rintro e wk ⟨rfl, rfl⟩
  go_wp2_with fail
  refine (unhide K2 _).mono ?_
  rintro e wk ⟨rfl, rfl⟩
  go_wp2_with fail
  refine (unhide K3 _).mono ?_
  rintro e wk ⟨rfl, rfl⟩
  go_wp2_with fail
  refine (unhide K4 _).mono ?_
  rintro e wk ⟨rfl, rfl⟩
  go_wp2
  exact bodyPost_ret (v := .tuple #[.int .u64 9221120237041090560, .int .u8 16]) (by simp [results, Tryd.results19, go_sem]) rfl ⟨rfl, Below.refl _ _⟩


set_option maxRecDepth 20000 in
set_option maxHeartbeats 4000000 in
theorem r6mul_i (a b : Nat) (kb : Int) (s t : Bool) (g : Bool → Nat) (w : World) (h0 : (kb == 4) = false) (h1 : (kb == 0) = false)
    (C1 : ∀ w', Calls Tryd.prog 23 #[.int .u64 a] w' fun r w'' => r = .returned (.int .i64 3) ∧ w' = w'')
    (C2 : ∀ w', Calls Tryd.prog 23 #[.int .u64 b] w' fun r w'' => r = .returned (.int .i64 kb) ∧ w' = w'')
    (C3 : ∀ w', Calls Tryd.prog 20 #[.int .u64 a] w' fun r w'' => r = .returned (.bool s) ∧ w' = w'')
    (C4 : ∀ w', Calls Tryd.prog 20 #[.int .u64 b] w' fun r w'' => r = .returned (.bool t) ∧ w' = w'')
    (C5 : ∀ w' n, Calls Tryd.prog 43 #[.int .u64 9218868437227405312, .bool n] w' fun r w'' => r = .returned (.int .u64 (g n : Nat)) ∧ w' = w'') :
    Calls Tryd.prog 19 #[.int .u64 a, .int .u64 b] w fun r w' => r = .returned (.tuple #[.int .u64 (g (s ^^ t) : Nat), .int .u8 0]) ∧ Below w.heap.size w w' := by
  have K1 := hide C1
  have K2 := hide C2
  have K3 := hide C3
  have K4 := hide C4
  have K5 := hide C5
  clear C1 C2 C3 C4 C5
  go_enter Tryd.func19, Tryd.ntmps19
  go_wp2_with fail
  refine (unhide K1 _).mono ?_
  rintro e wk ⟨rfl, rfl⟩
  go_wp2_with fail
  refine (unhide K2 _).mono ?_
  rintro e wk ⟨rfl, rfl⟩
  go_wp2_with fail
  refine (unhide K3 _).mono ?_
  rintro e wk ⟨rfl, rfl⟩
  go_wp2_with fail
  refine (unhide K4 _).mono ?_
  rintro e wk ⟨rfl, rfl⟩
  cases s <;> cases t
  all_goals
    go_wp2_with fail
    refine (unhide K5 _ _).mono ?_
    rintro e wk ⟨rfl, rfl⟩
    go_wp2
    exact bodyPost_ret (by simp [results, Tryd.results19, go_sem]) rfl ⟨rfl, Below.refl _ _⟩


set_option maxRecDepth 20000 in
set_option maxHeartbeats 4000000 in
theorem r6mul_j (a b : Nat) (ka : Int) (s t : Bool) (g : Bool → Nat) (w : World) (h0 : (ka == 4) = false) (h1 : (ka == 0) = false) (h2 : (ka == 3) = false)
    (C1 : ∀ w', Calls Tryd.prog 23 #[.int .u64 a] w' fun r w'' => r = .returned (.int .i64 ka) ∧ w' = w'')
    (C2 : ∀ w', Calls Tryd.prog 23 #[.int .u64 b] w' fun r w'' => r = .returned (.int .i64 3) ∧ w' = w'')
    (C3 : ∀ w', Calls Tryd.prog 20 #[.int .u64 a] w' fun r w'' => r = .returned (.bool s) ∧ w' = w'')
    (C4 : ∀ w', Calls Tryd.prog 20 #[.int .u64 b] w' fun r w'' => r = .returned (.bool t) ∧ w' = w'')
    (C5 : ∀ w' n, Calls Tryd.prog 43 #[.int .u64 9218868437227405312, .bool n] w' fun r w'' => r = .returned (.int .u64 (g n : Nat)) ∧ w' = w'') :
    Calls Tryd.prog 19 #[.int .u64 a, .int .u64 b] w fun r w' => r = .returned (.tuple #[.int .u64 (g (s ^^ t) : Nat), .int .u8 0]) ∧ Below w.heap.size w w' := by
  have K1 := hide C1
  have K2 := hide C2
  have K3 := hide C3
  have K4 := hide C4
  have K5 := hide C5
  clear C1 C2 C3 C4 C5
  go_enter Tryd.func19, Tryd.ntmps19
  go_wp2_with fail
  refine (unhide K1 _).mono ?_
  rintro e wk ⟨rfl, rfl⟩
  go_wp2_with fail
  refine (unhide K2 _).mono ?_
  rintro e wk ⟨rfl, rfl⟩
  go_wp2_with fail
  refine (unhide K3 _).mono ?_
  rintro e wk ⟨rfl, rfl⟩
  go_wp2_with fail
  refine (unhide K4 _).mono ?_
  rintro e wk ⟨rfl, rfl⟩
  cases s <;> cases t
  all_goals
    go_wp2_with fail
    refine (unhide K5 _ _).mono ?_
    rintro e wk ⟨rfl, rfl⟩
    go_wp2
    exact bodyPost_ret (by simp [results, Tryd.results19, go_sem]) rfl ⟨rfl, Below.refl _ _⟩


set_option maxRecDepth 20000 in
set_option maxHeartbeats 4000000 in
theorem r6mul_z (a b : Nat) (kb : Int) (s t : Bool) (g : Bool → Nat) (w : World) (h0 : (kb == 4) = false) (h1 : (kb == 3) = false)
    (C1 : ∀ w', Calls Tryd.prog 23 #[.int .u64 a] w' fun r w'' => r = .returned (.int .i64 0) ∧ w' = w'')
    (C2 : ∀ w', Calls Tryd.prog 23 #[.int .u64 b] w' fun r w'' => r = .returned (.int .i64 kb) ∧ w' = w'')
    (C3 : ∀ w', Calls Tryd.prog 20 #[.int .u64 a] w' fun r w'' => r = .returned (.bool s) ∧ w' = w'')
    (C4 : ∀ w', Calls Tryd.prog 20 #[.int .u64 b] w' fun r w'' => r = .returned (.bool t) ∧ w' = w'')
    (C5 : ∀ w' n, Calls Tryd.prog 43 #[.int .u64 0, .bool n] w' fun r w'' => r = .returned (.int .u64 (g n : Nat)) ∧ w' = w'') :
    Calls Tryd.prog 19 #[.int .u64 a, .int .u64 b] w fun r w' => r = .returned (.tuple #[.int .u64 (g (s ^^ t) : Nat), .int .u8 0]) ∧ Below w.heap.size w w' := by
  have K1 := hide C1
  have K2 := hide C2
  have K3 := hide C3
  have K4 := hide C4
  have K5 := hide C5
  clear C1 C2 C3 C4 C5
  go_enter Tryd.func19, Tryd.ntmps19
  go_wp2_with fail
  refine (unhide K1 _).mono ?_
  rintro e wk ⟨rfl, rfl⟩
  go_wp2_with fail
  refine (unhide K2 _).mono ?_
  rintro e wk ⟨rfl, rfl⟩
  go_wp2_with fail
  refine (unhide K3 _).mono ?_
  rintro e wk ⟨rfl, rfl⟩
  go_wp2_with fail
  refine (unhide K4 _).mono ?_
  rintro e wk ⟨rfl, rfl⟩
  cases s <;> cases t
  all_goals
    go_wp2_with fail
    refine (unhide K5 _ _).mono ?_
    rintro e wk ⟨rfl, rfl⟩
    go_wp2
    exact bodyPost_ret (by simp [results, Tryd.results19, go_sem]) rfl ⟨rfl, Below.refl _ _⟩


set_option maxRecDepth 20000 in
set_option maxHeartbeats 4000000 in
theorem r6mul_y (a b : Nat) (ka : Int) (s t : Bool) (g : Bool → Nat) (w : World) (h0 : (ka == 4) = false) (h1 : (ka == 3) = false) (h2 : (ka == 0) = false)
    (C1 : ∀ w', Calls Tryd.prog 23 #[.int .u64 a] w' fun r w'' => r = .returned (.int .i64 ka) ∧ w' = w'')
    (C2 : ∀ w', Calls Tryd.prog 23 #[.int .u64 b] w' fun r w'' => r = .returned (.int .i64 0) ∧ w' = w'')
    (C3 : ∀ w', Calls Tryd.prog 20 #[.int .u64 a] w' fun r w'' => r = .returned (.bool s) ∧ w' = w'')
    (C4 : ∀ w', Calls Tryd.prog 20 #[.int .u64 b] w' fun r w'' => r = .returned (.bool t) ∧ w' = w'')
    (C5 : ∀ w' n, Calls Tryd.prog 43 #[.int .u64 0, .bool n] w' fun r w'' => r = .returned (.int .u64 (g n : Nat)) ∧ w' = w'') :
    Calls Tryd.prog 19 #[.int .u64 a, .int .u64 b] w fun r w' => r = .returned (.tuple #[.int .u64 (g (s ^^ t) : Nat), .int .u8 0]) ∧ Below w.heap.size w w' := by
  have K1 := hide C1
  have K2 := hide C2
  have K3 := hide C3
  have K4 := hide C4
  have K5 := hide C5
  clear C1 C2 C3 C4 C5
  go_enter Tryd.func19, Tryd.ntmps19
  go_wp2_with fail
  refine (unhide K1 _).mono ?_
  rintro e wk ⟨rfl, rfl⟩
  go_wp2_with fail
  refine (unhide K2 _).mono ?_
  rintro e wk ⟨rfl, rfl⟩
  go_wp2_with fail
  refine (unhide K3 _).mono ?_
  rintro e wk ⟨rfl, rfl⟩
  go_wp2_with fail
  refine (unhide K4 _).mono ?_
  rintro e wk ⟨rfl, rfl⟩
  cases s <;> cases t
  all_goals
    go_wp2_with fail
    refine (unhide K5 _ _).mono ?_
    rintro e wk ⟨rfl, rfl⟩
    go_wp2
    exact bodyPost_ret (by simp [results, Tryd.results19, go_sem]) rfl ⟨rfl, Below.refl _ _⟩


set_option maxRecDepth 20000 in
set_option maxHeartbeats 4000000 in
theorem r6mul_f (a b : Nat) (ka kb : Int) (s t : Bool) (z1 z2 z3 X1 X2 X3 fl : Int) (o : Nat) (w : World) (h0 : (ka == 4) = false) (h1 : (ka == 3) = false) (h2 : (ka == 0) = false) (h3 : (kb == 4) = false) (h4 : (kb == 3) = false) (h5 : (kb == 0) = false)
    (C1 : ∀ w', Calls Tryd.prog 23 #[.int .u64 a] w' fun r w'' => r = .returned (.int .i64 ka) ∧ w' = w'')
    (C2 : ∀ w', Calls Tryd.prog 23 #[.int .u64 b] w' fun r w'' => r = .returned (.int .i64 kb) ∧ w' = w'')
    (C3 : ∀ w', Calls Tryd.prog 20 #[.int .u64 a] w' fun r w'' => r = .returned (.bool s) ∧ w' = w'')
    (C4 : ∀ w', Calls Tryd.prog 20 #[.int .u64 b] w' fun r w'' => r = .returned (.bool t) ∧ w' = w'')
    (C5 : ∀ w', Calls Tryd.prog 24 #[.int .u64 a] w' fun r w'' => ∃ u, r = .returned u ∧ IsDy w'' u z1 X1 ∧ Below w'.heap.size w' w'')
    (C6 : ∀ w', Calls Tryd.prog 24 #[.int .u64 b] w' fun r w'' => ∃ u, r = .returned u ∧ IsDy w'' u z2 X2 ∧ Below w'.heap.size w' w'')
    (C7 : ∀ w' v u, IsDy w' v z1 X1 → IsDy w' u z2 X2 → Calls Tryd.prog 27 #[v, u] w' fun r w'' => ∃ q, r = .returned q ∧ IsDy w'' q z3 X3 ∧ Below w'.heap.size w' w'')
    (C8 : ∀ w' v, IsDy w' v z3 X3 → Calls Tryd.prog 39 #[v] w' fun r w'' => r = .returned (.tuple #[.int .u64 (o : Nat), .int .u8 fl]) ∧ Below w'.heap.size w' w'') :
    Calls Tryd.prog 19 #[.int .u64 a, .int .u64 b] w fun r w' => r = .returned (.tuple #[.int .u64 (o : Nat), .int .u8 fl]) ∧ Below w.heap.size w w' := by
  have K1 := hide C1
  have K2 := hide C2
  have K3 := hide C3
  have K4 := hide C4
  have K5 := hide C5
  have K6 := hide C6
  have K7 := hide C7
  have K8 := hide C8
  clear C1 C2 C3 C4 C5 C6 C7 C8
  go_enter Tryd.func19, Tryd.ntmps19
  go_wp2_with fail
  refine (unhide K1 _).mono ?_
  rintro e wk ⟨rfl, rfl⟩
  go_wp2_with fail
  refine (unhide K2 _).mono ?_
  rintro e wk ⟨rfl, rfl⟩
  go_wp2_with fail
  refine (unhide K3 _).mono ?_
  rintro e wk ⟨rfl, rfl⟩
  go_wp2_with fail
  refine (unhide K4 _).mono ?_
  rintro e wk ⟨rfl, rfl⟩
  go_wp2_with fail
  refine (unhide K5 _).mono ?_
  rintro e w1 ⟨v, rfl, hv, hb1⟩
  obtain ⟨n1, a1, c1, L1, rfl, i1⟩ := hv
  have HV := hide (show IsDy w1 (.agg #[.bool n1, .slice a1 L1.length c1, .int .i64 X1]) z1 X1 from ⟨n1, a1, c1, L1, rfl, i1⟩)
  have B1 := hide hb1
  clear i1 hb1 K3 K1 K2 K4 K5
  go_wp2_with fail
  refine (unhide K6 _).mono ?_
  rintro e w2 ⟨v, rfl, hv, hb1⟩
  obtain ⟨n2, a2, c2, L2, rfl, i2⟩ := hv
  have HU := hide (show IsDy w2 (.agg #[.bool n2, .slice a2 L2.length c2, .int .i64 X2]) z2 X2 from ⟨n2, a2, c2, L2, rfl, i2⟩)
  have HV2 := hide ((unhide HV).below hb1)
  have B2 := hide ((unhide B1).trans (hb1.mono (unhide B1).size))
  clear i2 hb1 K6 B1 HV
  go_wp2_with fail
  refine (unhide K7 _ _ _ (unhide HV2) (unhide HU)).mono ?_
  rintro e w3 ⟨v, rfl, hv, hb1⟩
  obtain ⟨n3, a3, c3, L3, rfl, i3⟩ := hv
  have HX := hide (show IsDy w3 (.agg #[.bool n3, .slice a3 L3.length c3, .int .i64 X3]) z3 X3 from ⟨n3, a3, c3, L3, rfl, i3⟩)
  have B3 := hide ((unhide B2).trans (hb1.mono (unhide B2).size))
  clear i3 hb1 K7 B2 HV2 HU
  generalize L3.length = l3 at *
  go_wp2_with fail
  refine (unhide K8 _ _ (unhide HX)).mono ?_
  rintro e w4 ⟨rfl, hb1⟩
  have B4 := hide ((unhide B3).trans (hb1.mono (unhide B3).size))
  clear hb1 K8 B3
  go_wp2
  exact bodyPost_ret (v := .tuple #[.int .u64 o, .int .u8 fl]) (by simp [results, Tryd.results19, go_sem]) rfl ⟨rfl, unhide B4⟩


theorem fD_lt (b : Nat) : (fD b).natAbs < 9007199254740992 := by
  have : (oM (fM b)).natAbs ≤ (fM b).natAbs := oM_le _
  have h3 := fM_lt b
  show (oM (fM b)).natAbs < _
  omega
theorem fX_in (b : Nat) (hb : b < 18446744073709551616) (hf : fFin b = true) (h0 : fK b ≠ 0) : -1074 ≤ fX b ∧ fX b ≤ 1024 := by
  obtain ⟨β, x1, x2, x3, x4⟩ := odd_mag b hb hf h0
  have hz := fZ_lt b hf
  rw [fZ_abs, x2] at hz
  have hβ : β < 2098 := by
    have h1 : 2 ^ β ≤ (fD b).natAbs * 2 ^ β := Nat.le_mul_of_pos_left _ (by omega)
    exact pow_lt_of (Nat.lt_of_le_of_lt h1 hz)
  omega

/-- The reference's product of any two. -/
theorem r6mul_any (a b : Nat) (w : World) (ha : a < 18446744073709551616) (hb : b < 18446744073709551616) :
    Calls Tryd.prog 19 #[.int .u64 a, .int .u64 b] w fun r w' => r = .returned (.tuple #[.int .u64 (mV a b : Nat), .int .u8 (mF a b)]) ∧ Below w.heap.size w w' := by
  have C1 := fun w' => rkind_any a w' ha
  have C2 := fun w' => rkind_any b w' hb
  have C3 := fun w' => rneg4_any a w' ha
  have C4 := fun w' => rneg4_any b w' hb
  have CI := fun w' n => r6signed_any 9218868437227405312 n w' (by decide)
  have CZ := fun w' n => r6signed_any 0 n w' (by decide)
  by_cases a4 : fK a = 4
  · rw [show mV a b = 9221120237041090560 by unfold mV; rw [if_pos (Or.inl a4)], show mF a b = 0 by unfold mF; rw [if_pos (Or.inl a4)]]
    rw [a4] at C1
    exact r6mul_n1 a b _ _ _ w C1 C2 C3 C4
  by_cases b4 : fK b = 4
  · rw [show mV a b = 9221120237041090560 by unfold mV; rw [if_pos (Or.inr b4)], show mF a b = 0 by unfold mF; rw [if_pos (Or.inr b4)]]
    rw [b4] at C2
    exact r6mul_n2 a b _ _ _ w (by simp [a4]) C1 C2 C3 C4
  have n4 : ¬ (fK a = 4 ∨ fK b = 4) := by omega
  by_cases h3 : fK a = 3 ∨ fK b = 3
  · by_cases h0 : fK a = 0 ∨ fK b = 0
    · rw [show mV a b = 9221120237041090560 by unfold mV; rw [if_neg n4, if_pos h3, if_pos h0], show mF a b = 16 by unfold mF; rw [if_neg n4, if_pos h3, if_pos h0]]
      by_cases a3 : fK a = 3
      · have b0 : fK b = 0 := by omega
        rw [a3] at C1
        rw [b0] at C2
        exact r6mul_iz a b _ _ w C1 C2 C3 C4
      · have b3 : fK b = 3 := by omega
        have a0 : fK a = 0 := by omega
        rw [a0] at C1
        rw [b3] at C2
        exact r6mul_zi a b _ _ w C1 C2 C3 C4
    · rw [show mV a b = wrd (fS a ^^ fS b) 9218868437227405312 by unfold mV; rw [if_neg n4, if_pos h3, if_neg h0], show mF a b = 0 by unfold mF; rw [if_neg n4, if_pos h3, if_neg h0]]
      by_cases a3 : fK a = 3
      · rw [a3] at C1
        exact r6mul_i a b _ _ _ (fun n => wrd n 9218868437227405312) w (by simp [b4]) (by simp; omega) C1 C2 C3 C4 CI
      · have b3 : fK b = 3 := by omega
        rw [b3] at C2
        exact r6mul_j a b _ _ _ (fun n => wrd n 9218868437227405312) w (by simp [a4]) (by simp; omega) (by simp [a3]) C1 C2 C3 C4 CI
  · by_cases h0 : fK a = 0 ∨ fK b = 0
    · have hz : rv (fR a) * rv (fR b) = 0 := by
        rcases h0 with h | h
        · rw [(rv_eq0 _).2 ((fK_zero a).1 h), Nat.zero_mul]
        · rw [(rv_eq0 _).2 ((fK_zero b).1 h), Nat.mul_zero]
      rw [show mV a b = wrd (fS a ^^ fS b) 0 by unfold mV; rw [if_neg n4, if_neg h3, hz, rnd_0], show mF a b = 0 by unfold mF; rw [if_neg n4, if_neg h3, if_pos h0]]
      by_cases a0 : fK a = 0
      · rw [a0] at C1
        exact r6mul_z a b _ _ _ (fun n => wrd n 0) w (by simp [b4]) (by simp; omega) C1 C2 C3 C4 CZ
      · have b0 : fK b = 0 := by omega
        rw [b0] at C2
        exact r6mul_y a b _ _ _ (fun n => wrd n 0) w (by simp [a4]) (by simp; omega) (by simp [a0]) C1 C2 C3 C4 CZ
    · have fa := fin_of a (fun e => h3 (Or.inl e)) a4
      have fb := fin_of b (fun e => h3 (Or.inr e)) b4
      have a0 : fK a ≠ 0 := by omega
      have b0 : fK b ≠ 0 := by omega
      obtain ⟨l1, l2⟩ := mZ_level a b ha hb fa fb a0 b0
      obtain ⟨z0, z1⟩ := mZ_neg a b a0 b0
      have x1 := fX_in a ha fa a0
      have x2 := fX_in b hb fb b0
      have C7 : ∀ w' v u, IsDy w' v (fD a) (fX a) → IsDy w' u (fD b) (fX b) → _ := fun w' v u hv hu => rmul6 hv hu (fD_lt a) (fD_lt b) (by omega) (by omega)
      rw [← l1, ← l2] at C7
      have l3 := mZ_Lvl a b fa fb
      have hbd : (oM (fZ a * fZ b)).natAbs < 4294967296 ^ 80 := by
        rw [l1]
        refine Nat.lt_of_le_of_lt (oM_le _) ?_
        rw [Int.natAbs_mul]
        have : (fD a).natAbs * (fD b).natAbs < 9007199254740992 * 9007199254740992 := Nat.mul_lt_mul_of_lt_of_le (fD_lt a) (Nat.le_of_lt (fD_lt b)) (by decide)
        exact Nat.lt_of_lt_of_le this (by decide +kernel)
      have C8 : ∀ w' v, IsDy w' v (oM (fZ a * fZ b)) (oE (fZ a * fZ b) (-2148)) → _ := fun w' v hv => rround_dy hv hbd l3.right.1
      rw [(rnd_odd (fZ a * fZ b) (-2148)).1, oM_sign, z1, Int.natAbs_mul, fZ_abs, fZ_abs] at C8
      rw [(mV_fin a b fa fb a0 b0).1, (mV_fin a b fa fb a0 b0).2]
      exact r6mul_f a b _ _ _ _ _ _ _ _ _ _ _ _ w (by simp [a4]) (by simp; omega) (by simp [a0]) (by simp [b4]) (by simp; omega) (by simp [b0]) C1 C2 C3 C4 (fun w' => rvalue_any a w' ha) (fun w' => rvalue_any b w' hb) C7 C8

end Go.Proofs.YtgegjhkiiejhlaaDoor

/- Halfway between two numbers; products of such. -/
namespace Go.Proofs.YtgegjhkiiejhlaaDoor
open Go.RowKit

/-- Two numbers that are next to each other: their sum has few digits. -/
theorem pair7 (r : Nat) (h : 4503599627370496 ≤ r) : ∃ c k : Nat, rv r + rv (r + 1) = c * 2 ^ k ∧ 0 < c ∧ c < 18014398509481984 := by
  obtain ⟨M, hM⟩ : ∃ M, M = 4503599627370496 + r % 4503599627370496 := ⟨_, rfl⟩
  obtain ⟨k, hk⟩ : ∃ k, r / 4503599627370496 = k + 1 := ⟨r / 4503599627370496 - 1, by omega⟩
  have e : r = M + k * 4503599627370496 := by omega
  have h1 := rv_of M k (by omega) (fun _ => by omega)
  have h2 := rv_of (M + 1) k (by omega) (fun _ => by omega)
  rw [← e] at h1
  rw [show M + 1 + k * 4503599627370496 = r + 1 by omega] at h2
  exact ⟨2 * M + 1, k, by rw [h1, h2, ← Nat.add_mul]; congr 1; omega, by omega, by omega⟩
theorem odd_pair (z c k : Nat) (h : z = c * 2 ^ k) : (oM (z : Int)).natAbs ≤ c := by
  have e : (z : Int) = (c : Int) * 2 ^ k := by rw [h, Int.natCast_mul, Int.natCast_pow]; rfl
  rw [e, (oM_scale (c : Int) k 0).1]
  have := oM_le (c : Int)
  omega

/-- A product, at its numbers' own powers. -/
theorem mul_level7 (z1 z2 lo1 lo2 : Int) (h1 : z1 ≠ 0) (h2 : z2 ≠ 0) (l1 : lo1 ≤ oE z1 lo1) (l2 : lo2 ≤ oE z2 lo2) :
    oM (z1 * z2) = oM (oM z1 * oM z2) ∧ oE (z1 * z2) (lo1 + lo2) = oE (oM z1 * oM z2) (oE z1 lo1 + oE z2 lo2) := by
  have x1 := oM_level z1 lo1 h1
  have x2 := oM_level z2 lo2 h2
  obtain ⟨i, hi⟩ : ∃ i : Nat, oE z1 lo1 = lo1 + i := ⟨(oE z1 lo1 - lo1).toNat, by omega⟩
  obtain ⟨j, hj⟩ : ∃ j : Nat, oE z2 lo2 = lo2 + j := ⟨(oE z2 lo2 - lo2).toNat, by omega⟩
  rw [hi, show (lo1 + (i : Int) - lo1).toNat = i by omega] at x1
  rw [hj, show (lo2 + (j : Int) - lo2).toNat = j by omega] at x2
  have e : z1 * z2 = oM z1 * oM z2 * 2 ^ (i + j) := by
    rw [Int.pow_add, show oM z1 * oM z2 * (2 ^ i * 2 ^ j) = oM z1 * 2 ^ i * (oM z2 * 2 ^ j) by ac_rfl, x1, x2]
  have s := oM_scale (oM z1 * oM z2) (i + j) (lo1 + lo2)
  rw [← e] at s
  refine ⟨s.1, ?_⟩
  rw [s.2, hi, hj]
  congr 1
  omega
theorem oE_ge (z lo : Int) (h : z ≠ 0) : lo ≤ oE z lo := by
  rw [oE_ne _ _ h]; omega

/-- The reference's product of two that are not long. -/
theorem rmul7 {w : World} {v u : Value} {m1 m2 e1 e2 : Int} (hv : IsDy w v m1 e1) (hu : IsDy w u m2 e2) (h1 : m1.natAbs < 1152921504606846976) (h2 : m2.natAbs < 1152921504606846976) (b1 : -3000 ≤ e1 ∧ e1 ≤ 3000) (b2 : -3000 ≤ e2 ∧ e2 ≤ 3000) :
    Calls Tryd.prog 27 #[v, u] w fun r w' => ∃ q, r = .returned q ∧ IsDy w' q (oM (m1 * m2)) (oE (m1 * m2) (e1 + e2)) ∧ Below w.heap.size w w' := by
  have p30 : (1152921504606846976 : Nat) ≤ 4294967296 ^ 30 := by decide +kernel
  obtain ⟨n, a, c, L, rfl, g1, g2, g3, g4, g5⟩ := hv.right (small_TOP _ (by omega))
  obtain ⟨n', a', c', L', rfl, k1, k2, k3, k4, k5⟩ := hu.right (small_TOP _ (by omega))
  have v1 : val L = m1.natAbs := by rw [← g3, natAbs_sval]
  have v2 : val L' = m2.natAbs := by rw [← k3, natAbs_sval]
  have l1 : L.length ≤ 30 := (length_le_iff L g1.2.1 (right_canon g2).2.1 30).2 (by rw [v1]; exact Nat.lt_of_lt_of_le h1 p30)
  have l2 : L'.length ≤ 30 := (length_le_iff L' k1.2.1 (right_canon k2).2.1 30).2 (by rw [v2]; exact Nat.lt_of_lt_of_le h2 p30)
  have := rmul_any n n' a a' c c' L L' e1 e2 w g1 k1 l1 l2
  rw [g3, k3] at this
  have hm : (m1 * m2).natAbs < 2 ^ 120 := by
    rw [Int.natAbs_mul]
    have : m1.natAbs * m2.natAbs < 1152921504606846976 * 1152921504606846976 := Nat.mul_lt_mul_of_lt_of_le h1 (Nat.le_of_lt h2) (by decide)
    exact Nat.lt_of_lt_of_le this (by decide)
  have hE : (if m1 * m2 = 0 then 0 else IntKind.i64.wrap (IntKind.i64.wrap (e1 + e2) + tz (m1 * m2).natAbs)) = oE (m1 * m2) (e1 + e2) := by
    by_cases h0 : m1 * m2 = 0
    · rw [if_pos h0, h0, oE_zero]
    · have ht : tz (m1 * m2).natAbs < 120 := tz_lt _ 120 (by omega) hm
      rw [if_neg h0, oE_ne _ _ h0, wrap_small (e1 + e2) (by omega), wrap_small _ (by omega)]
  rwa [hE] at this

/-- The reference's half. -/
theorem rhalfN {w : World} {v : Value} {lo : Int} {W : Nat} {z : Int} (hv : IsDy w v (oM z) (oE z lo)) (h1 : Lvl lo W z) (h0 : z ≠ 0) :
    Calls Tryd.prog 46 #[v, .int .i64 (-1)] w fun r w' => ∃ q, r = .returned q ∧ IsDy w' q (oM z) (oE z (lo - 1)) ∧ Below w.heap.size w w' := by
  obtain ⟨na, ao, ca, A, rfl, a1, a2, a3, a4, a5⟩ := hv.right h1.right.2
  have x1 := dRt_in h1.right.1
  have := rscale_any na ao ca A _ (-1) w a1 a2 x1 (by decide)
  rw [a3, oM_oM, oE_oM _ _ h0] at this
  have hx : oE z (lo - 1) = oE z lo + -1 := by rw [oE_ne _ _ h0, oE_ne _ _ h0]; omega
  rw [hx]
  exact this

set_option maxRecDepth 20000 in
set_option maxHeartbeats 4000000 in
theorem half_ways (a b : Nat) (z1 X1 z2 X2 z3 X3 z4 X4 : Int) (w : World)
    (C1 : ∀ w', Calls Tryd.prog 24 #[.int .u64 a] w' fun r w'' => ∃ u, r = .returned u ∧ IsDy w'' u z1 X1 ∧ Below w'.heap.size w' w'')
    (C2 : ∀ w', Calls Tryd.prog 24 #[.int .u64 b] w' fun r w'' => ∃ u, r = .returned u ∧ IsDy w'' u z2 X2 ∧ Below w'.heap.size w' w'')
    (C3 : ∀ w' v u, IsDy w' v z1 X1 → IsDy w' u z2 X2 → Calls Tryd.prog 47 #[v, u] w' fun r w'' => ∃ q, r = .returned q ∧ IsDy w'' q z3 X3 ∧ Below w'.heap.size w' w'')
    (C4 : ∀ w' v, IsDy w' v z3 X3 → Calls Tryd.prog 46 #[v, .int .i64 (-1)] w' fun r w'' => ∃ q, r = .returned q ∧ IsDy w'' q z4 X4 ∧ Below w'.heap.size w' w'') :
    Calls Tryd.prog 25 #[.int .u64 a, .int .u64 b] w fun r w' => ∃ u, r = .returned u ∧ IsDy w' u z4 X4 ∧ Below w.heap.size w w' := by
  have K1 := hide C1; have K2 := hide C2; have K3 := hide C3; have K4 := hide C4
  clear C1 C2 C3 C4
  have x0 := hide (Box3.new w (.bool false) (.slice none 0 0) (.int .i64 0))
  have B0 := hide (show Below w.heap.size w (w.alloc (.cells #[.bool false, .slice none 0 0, .int .i64 0] 46)) from (Below.refl _ _).alloc (Nat.le_refl _) _)
  go_enter Tryd.func25, Tryd.ntmps25
  go_wp2_with fail
  refine (unhide K1 _).mono ?_
  rintro e w1 ⟨v, rfl, ⟨n1, a1, c1, L1, rfl, i1⟩, hb⟩
  have H1 := hide (show IsDy w1 (.agg #[.bool n1, .slice a1 L1.length c1, .int .i64 X1]) z1 X1 from ⟨n1, a1, c1, L1, rfl, i1⟩)
  have x1 := hide ((unhide x0).all hb); have B1 := hide ((unhide B0).trans (hb.mono (unhide B0).size))
  clear hb i1 K1 x0 B0
  generalize L1.length = l1 at *
  go_wp2_with fail
  refine (unhide K2 _).mono ?_
  rintro e w2 ⟨v, rfl, ⟨n2, a2, c2, L2, rfl, i2⟩, hb⟩
  have H2 := hide (show IsDy w2 (.agg #[.bool n2, .slice a2 L2.length c2, .int .i64 X2]) z2 X2 from ⟨n2, a2, c2, L2, rfl, i2⟩)
  have H1 := hide ((unhide H1).below hb)
  have x2 := hide ((unhide x1).all hb); have B2 := hide ((unhide B1).trans (hb.mono (unhide B1).size))
  clear hb i2 K2 x1 B1
  generalize L2.length = l2 at *
  go_wp2_with fail
  refine (unhide K3 _ _ _ (unhide H1) (unhide H2)).mono ?_
  rintro e w3 ⟨v, rfl, ⟨n3, a3, c3, L3, rfl, i3⟩, hb⟩
  have H3 := hide (show IsDy w3 (.agg #[.bool n3, .slice a3 L3.length c3, .int .i64 X3]) z3 X3 from ⟨n3, a3, c3, L3, rfl, i3⟩)
  have x3 := hide ((unhide x2).all hb); have B3 := hide ((unhide B2).trans (hb.mono (unhide B2).size))
  clear hb i3 K3 x2 B2 H1 H2
  generalize L3.length = l3 at *
  go_wp2_with fail
  refine (unhide K4 _ _ (unhide H3)).mono ?_
  rintro e w4 ⟨v, rfl, ⟨n4, a4, c4, L4, rfl, i4⟩, hb⟩
  have H4 := hide (show IsDy w4 (.agg #[.bool n4, .slice a4 L4.length c4, .int .i64 X4]) z4 X4 from ⟨n4, a4, c4, L4, rfl, i4⟩)
  have x4 := (unhide x3).all hb
  have B4 := hide ((unhide B3).trans (hb.mono (unhide B3).size))
  have X := hide x4
  have f0 := x4.free 0; have f1 := x4.free 1; have f2 := x4.free 2
  have y0 := x4.c0; have y1 := x4.c1; have y2 := x4.c2
  clear hb i4 K4 x3 B3 H3 x4
  generalize L4.length = l4 at *
  go_wp2
  have z := (unhide X).put (.bool n4) (.slice a4 l4 c4) (.int .i64 X4)
  have d0 := z.c0; have d1 := z.c1; have d2 := z.c2
  exact bodyPost_ret (v := .agg #[.bool n4, .slice a4 l4 c4, .int .i64 X4]) (by simp [results, Tryd.results25, go_sem, d0, d1, d2]) rfl ⟨_, rfl, (unhide H4).put3 (unhide X) _ _ _, below_put3 (unhide B4) (Nat.le_refl _) _ _ _⟩

end Go.Proofs.YtgegjhkiiejhlaaDoor

