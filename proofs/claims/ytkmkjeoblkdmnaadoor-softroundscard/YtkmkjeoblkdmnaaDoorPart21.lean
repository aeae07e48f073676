/- Part 21 of the texts. -/
import Derived.Test.YtkmkjeoblkdmnaaDoorPart20
import Derived.Test.YtkmkjeoblkdmnaaDoorChecked
import Derived.Test.YtkmkjeoblkdmnaaDoorPart02
import Derived.ProofKit
import Derived.SizedLaws
import Derived.Lib.SmallJoins
import Derived.Test.YtkmkjeoblkdmnaaDoorRows
import Derived.Test.YtkmkjeoblkdmnaaDoorPart12
import Derived.Lib.LaidTab
import Derived.OpenShut
import Derived.Deep.DeepHandedRow
/- Contract of the reference's Round; the law SoftRounds, walked. -/
namespace Go.Proofs.YtkmkjeoblkdmnaaDoor
open Go.RowKit

theorem fK_rung (r : Nat) (h : r ≤ 9218868437227405312) : (fK r = 3 ↔ r = 9218868437227405312) ∧ (r ≠ 9218868437227405312 → (fK r = 2 ↔ ¬ r < 4503599627370496)) := by
  have h1 : fP r = r / 4503599627370496 := by unfold fP; omega
  have h2 : fF r = r % 4503599627370496 := rfl
  unfold fK
  rw [h1, h2]
  constructor
  · constructor
    · intro hk
      split at hk
      · omega
      · split at hk
        · split at hk <;> simp at hk
        · simp at hk
    · rintro rfl; decide
  · intro hne
    have h3 : r / 4503599627370496 ≠ 2047 := by omega
    rw [if_neg h3]
    by_cases h4 : r < 4503599627370496
    · rw [if_pos (by omega)]
      constructor
      · intro hk; split at hk <;> simp at hk
      · intro h; exact absurd h4 h
    · rw [if_neg (by omega)]
      exact ⟨fun _ => h4, fun _ => rfl⟩

theorem flags_rflag (V : Nat) (E : Int) (h : V ≠ 0) : (if fK (rnd V E) = 3 then 5 else if decide (lastE V E ≤ E) = true then 0 else if fK (rnd V E) = 2 then 1 else 3) = rflag V E := by
  obtain ⟨k1, k2⟩ := fK_rung (rnd V E) (rnd_le V E)
  by_cases ht : 1024 < (bl V : Int) + E
  · have e1 : rnd V E = 9218868437227405312 := by unfold rnd; rw [if_neg h, if_pos ht]
    have e2 : rflag V E = 5 := by unfold rflag; rw [if_neg h, if_pos ht]
    rw [if_pos (k1.2 e1), e2]
  · have e2 : rflag V E = if lastE V E ≤ E then 0 else if rnd V E = 9218868437227405312 then 5 else if rnd V E < 4503599627370496 then 3 else 1 := by unfold rflag; rw [if_neg h, if_neg ht]
    rw [e2]
    by_cases g1 : lastE V E ≤ E
    · have := rnd_exact_lt V E h (by omega) g1
      rw [if_neg (fun hk => by have := k1.1 hk; omega), if_pos (decide_eq_true g1), if_pos g1]
    · rw [if_neg g1, decide_eq_false g1]
      by_cases g2 : rnd V E = 9218868437227405312
      · rw [if_pos (k1.2 g2), if_pos g2]
      · rw [if_neg (fun hk => g2 (k1.1 hk)), if_neg g2, if_neg (by decide)]
        by_cases g3 : rnd V E < 4503599627370496
        · rw [if_neg (fun hk => (k2 g2).1 hk g3), if_pos g3]
        · rw [if_pos ((k2 g2).2 g3), if_neg g3]

theorem rnd_tiny (V : Nat) (E : Int) (h : V ≠ 0) (ht : (bl V : Int) + E < -1080) : rnd V E = 0 ∧ rflag V E = 3 := by
  obtain ⟨a1, a2, a3⟩ := bl_spec V h
  have hl : lastE V E = -1074 := by unfold lastE; omega
  have h0 : rnd V E = 0 := by
    rw [rnd_fin V E h (by omega)]
    unfold rndM
    rw [hl]
    obtain ⟨k, hk⟩ : ∃ k : Nat, -1074 - E = (k : Int) := ⟨(-1074 - E).toNat, by omega⟩
    rw [show E - -1074 = -(k : Int) by omega, mS_down V k (by omega)]
    have h1 : V < 2 ^ (k - 1) := Nat.lt_of_lt_of_le a3 (pow_le2 (by omega))
    have h2 : 2 ^ k = 2 ^ (k - 1) * 2 := by
      obtain ⟨m, rfl⟩ : ∃ m, k = m + 1 := ⟨k - 1, by omega⟩
      exact Nat.pow_succ 2 m
    have h3 : V < 2 ^ k := by omega
    unfold cutE
    rw [Nat.div_eq_of_lt h3, Nat.mod_eq_of_lt h3, if_neg (by omega)]
    simp
  refine ⟨h0, ?_⟩
  unfold rflag
  rw [if_neg h, if_neg (by omega), if_neg (by omega), h0, if_neg (by decide), if_pos (by decide)]

theorem rround_right (na : Bool) (ao : Option Addr) (ca : Nat) (A : List Nat) (E : Int) (w : World) (hA : LimbsAt w ao ca A) (hr : drB na A E = true) (h60 : A.length ≤ 60) :
    Calls Tryd.prog 23 #[.agg #[.bool na, .slice ao A.length ca, .int .i64 E]] w fun r w' => r = .returned (.tuple #[.int .u64 (wrd na (rnd (val A) E) : Nat), .int .u8 (rflag (val A) E)]) ∧ Below w.heap.size w w' := by
  obtain ⟨d1, d2, d3, d4, d5⟩ := drB_bounds hr
  by_cases h0 : A = []
  · subst h0
    have hna : na = false := by
      have := (right_canon d1).2.2
      cases na
      · rfl
      · exact absurd rfl (this rfl)
    subst hna
    have e1 : rnd (val []) E = 0 := by simp [rnd, val]
    have e2 : rflag (val []) E = 0 := by simp [rflag, val]
    rw [e1, e2, wrd_false]
    exact rround_z false ao ca E w
  · have hv := val_ne d1 h0
    have hl : 0 < A.length := List.length_pos_iff.2 h0
    have hval : val A < 2 ^ (32 * 60) := val_lt_pow A hA.2.1 60 h60
    have hbl : bl (val A) ≤ 32 * 60 := by
      have h1 := bl_spec (val A) hv
      have := pow_lt_of (Nat.lt_of_le_of_lt h1.2.1 hval)
      omega
    have hbl1 := (bl_spec (val A) hv).1
    have ho := drB_val hr h0
    have htop : topR A E = (bl (val A) : Int) + E := by unfold topR; rw [if_neg (by omega), lenL_bl hA.2.1 d1]
    have CT : ∀ w', Below w.heap.size w w' → Calls Tryd.prog 26 #[.agg #[.bool na, .slice ao A.length ca, .int .i64 E]] w' fun r w'' => r = .returned (.int .i64 ((bl (val A) : Int) + E)) ∧ Below w'.heap.size w' w'' := fun w' hb => by
      have := rtop_any na ao ca A E w' (hA.below hb) (by omega) (by omega)
      rwa [htop] at this
    have CA : ∀ w', Below w.heap.size w w' → Calls Tryd.prog 45 #[.agg #[.bool na, .slice ao A.length ca, .int .i64 E]] w' fun r w'' => ∃ v, r = .returned v ∧ IsDy w'' v (val A : Int) E ∧ Below w'.heap.size w' w'' := fun w' hb => rabs_any na ao ca A E w' (hA.below hb) d2
    have hle := rnd_le (val A) E
    have CS : ∀ w', Calls Tryd.prog 43 #[.int .u64 (rnd (val A) E : Nat), .bool na] w' fun r w'' => r = .returned (.int .u64 (wrd na (rnd (val A) E) : Nat)) ∧ w' = w'' := fun w' => signed_any _ na w' (by omega)
    have hfl := flags_rflag (val A) E hv
    have htiny := rnd_tiny (val A) E hv
    have hfin := rnd_fin (val A) E hv
    have hbig : 1024 < (bl (val A) : Int) + E → rnd (val A) E = 9218868437227405312 ∧ rflag (val A) E = 5 := fun ht => by
      unfold rnd rflag
      rw [if_neg hv, if_pos ht, if_neg hv, if_pos ht]
      exact ⟨rfl, rfl⟩
    have hM := rndM_bounds (val A) E hv
    obtain ⟨l1, l2, l3⟩ := lastE_ge (val A) E
    have hmx : max ((bl (val A) : Int) + E - 53) (-1074) = lastE (val A) E := rfl
    generalize hVV : val A = V at *
    by_cases g1 : (bl V : Int) + E < -1080
    · obtain ⟨e1, e2⟩ := htiny g1
      rw [e2]
      rw [e1] at CS ⊢
      exact rround_s na ao ca A.length _ E _ w hl (decide_eq_true g1) CT CS
    · by_cases g2 : 1030 < (bl V : Int) + E
      · obtain ⟨e1, e2⟩ := hbig (by omega)
        rw [e2]
        rw [e1] at CS ⊢
        exact rround_l na ao ca A.length _ E _ w hl (decide_eq_false g1) (decide_eq_true g2) CT CS
      · have hm0 : rndM V E = mS V (E - lastE V E) := rfl
        have CN : ∀ w' v, IsDy w' v (V : Int) E → Calls Tryd.prog 44 #[v, .int .i64 (lastE V E)] w' fun r w'' => r = .returned (.tuple #[.int .u64 (rndM V E : Nat), .bool (decide (lastE V E ≤ E))]) ∧ Below w'.heap.size w' w'' := fun w' v h =>
          nearest_dy (lastE V E) h ho (B := 32 * 60) (by decide) hval (by omega) (by omega) (by rw [← hm0]; exact hM.1)
        have CF : ∀ w', Calls Tryd.prog 47 #[.int .u64 (rnd V E : Nat), .bool (decide (lastE V E ≤ E))] w' fun r w'' => r = .returned (.int .u8 (rflag V E)) ∧ w' = w'' := fun w' => by
          have := flags_any (rnd V E) (decide (lastE V E ≤ E)) w' (by omega)
          rw [hfl] at this
          exact this
        generalize rndM V E = m at *
        by_cases g3 : m = 9007199254740992
        · have CB : ∀ w', Calls Tryd.prog 46 #[.int .u64 4503599627370496, .int .i64 (lastE V E + 1)] w' fun r w'' => r = .returned (.int .u64 (rnd V E : Nat)) ∧ w' = w'' := fun w' => by
            by_cases g4 : 971 ≤ lastE V E
            · have hR : rnd V E = 9218868437227405312 := by
                by_cases g5 : 1024 < (bl V : Int) + E
                · exact (hbig g5).1
                · rw [hfin (by omega)]; omega
              rw [hR]
              exact bits_inf 4503599627370496 (lastE V E + 1) w' (by decide) (by omega)
            · have hR := hfin (by omega)
              exact bits_mid 4503599627370496 (lastE V E + 1 + 1074).toNat _ (lastE V E + 1) w' (by decide) (by decide) (by omega) (by omega) (by omega)
          exact rround_c na _ ao ca A.length _ m _ E _ (lastE V E) _ _ w hl (decide_eq_false g1) (decide_eq_false g2) (by omega) hmx (by omega) CT CA CN CB CF CS (by rw [g3]; decide)
        · have CB : ∀ w', Calls Tryd.prog 46 #[.int .u64 m, .int .i64 (lastE V E)] w' fun r w'' => r = .returned (.int .u64 (rnd V E : Nat)) ∧ w' = w'' := fun w' => by
            by_cases g4 : m < 4503599627370496
            · have hlow : lastE V E = -1074 := by
                rcases Int.lt_or_le (-1074) (lastE V E) with h | h
                · have := hM.2.1 h; omega
                · omega
              have hR := hfin (by omega)
              rw [hlow] at hR
              have hR' : rnd V E = m := by rw [hR]; simp
              rw [hR']
              exact bits_low m _ w' (by omega)
            · by_cases g5 : 972 ≤ lastE V E
              · have hR := (hbig (by omega)).1
                rw [hR]
                exact bits_inf m (lastE V E) w' (by omega) (by omega)
              · have hR := hfin (by omega)
                exact bits_mid m (lastE V E + 1074).toNat _ (lastE V E) w' (by omega) (by omega) (by omega) (by omega) hR
          exact rround_n na _ ao ca A.length _ m _ E _ (lastE V E) _ _ w hl (decide_eq_false g1) (decide_eq_false g2) (by omega) hmx (by omega) CT CA CN CB CF CS (by simp; omega)

end Go.Proofs.YtkmkjeoblkdmnaaDoor

/- The law SoftRounds, walked. -/
namespace Go.Proofs.YtkmkjeoblkdmnaaDoor
open Go.RowKit

set_option maxHeartbeats 4000000 in
theorem softRounds_br (na : Bool) (ao : Option Addr) (ca l : Nat) (E : Int) (w : World) (g1 : decide ((60 : Int) < l) = true)
    (CR : ∀ w', Below w.heap.size w w' → Calls Tryd.prog 21 #[.agg #[.bool na, .slice ao l ca, .int .i64 E]] w' fun r w'' => r = .returned (.bool true) ∧ Below w'.heap.size w' w'')
    (CW : ∀ w', Below w.heap.size w w' → Calls Tryd.prog 17 #[] w' fun r w'' => r = .returned (.bool true) ∧ Below w'.heap.size w' w'') :
    Calls Tryd.prog 5 #[.agg #[.bool na, .slice ao l ca, .int .i64 E]] w fun r w' => r = .returned (.bool true) ∧ Below w.heap.size w w' := by
  have KR := hide CR; have KW := hide CW
  clear CR CW
  have B0 := hide ((Below.refl w.heap.size w).alloc (Nat.le_refl _) (.cells #[.bool na, .slice ao l ca, .int .i64 E] 32))
  have X0 := hide (Box3.new w (.bool na) (.slice ao l ca) (.int .i64 E))
  go_enter Tryd.func5, Tryd.ntmps5
  go_wp2_with fail
  refine (unhide KR _ (unhide B0)).mono ?_
  rintro e w1 ⟨rfl, hb1⟩
  have x1 := (unhide X0).all hb1
  have B1 := hide ((unhide B0).trans (hb1.mono (unhide B0).size))
  have X1 := hide x1
  try clear y0 y1 y2
  have y0 := x1.c0; have y1 := x1.c1; have y2 := x1.c2
  clear hb1 x1 B0 X0
  go_wp2_with fail
  refine (unhide KW _ (unhide B1)).mono ?_
  rintro e w2 ⟨rfl, hb2⟩
  have x2 := (unhide X1).all hb2
  have B2 := hide ((unhide B1).trans (hb2.mono (unhide B1).size))
  have X2 := hide x2
  try clear y0 y1 y2
  have y0 := x2.c0; have y1 := x2.c1; have y2 := x2.c2
  clear hb2 x2 B1 X1
  go_wp2
  go_ret
  exact ⟨rfl, unhide B2⟩

set_option maxHeartbeats 4000000 in
theorem softRounds_bw (na : Bool) (ao : Option Addr) (ca l : Nat) (E : Int) (w : World) (g1 : decide ((60 : Int) < l) = true)
    (CR : ∀ w', Below w.heap.size w w' → Calls Tryd.prog 21 #[.agg #[.bool na, .slice ao l ca, .int .i64 E]] w' fun r w'' => r = .returned (.bool false) ∧ Below w'.heap.size w' w'')
    (CO : ∀ w', Below w.heap.size w w' → Calls Tryd.prog 22 #[.agg #[.bool na, .slice ao l ca, .int .i64 E]] w' fun r w'' => r = .returned (.tuple #[.int .u64 0, .int .u8 0, .int .i64 1]) ∧ Below w'.heap.size w' w'')
    (CW : ∀ w', Below w.heap.size w w' → Calls Tryd.prog 17 #[] w' fun r w'' => r = .returned (.bool true) ∧ Below w'.heap.size w' w'') :
    Calls Tryd.prog 5 #[.agg #[.bool na, .slice ao l ca, .int .i64 E]] w fun r w' => r = .returned (.bool true) ∧ Below w.heap.size w w' := by
  have KR := hide CR; have KO := hide CO; have KW := hide CW
  clear CR CO CW
  have B0 := hide ((Below.refl w.heap.size w).alloc (Nat.le_refl _) (.cells #[.bool na, .slice ao l ca, .int .i64 E] 32))
  have X0 := hide (Box3.new w (.bool na) (.slice ao l ca) (.int .i64 E))
  go_enter Tryd.func5, Tryd.ntmps5
  go_wp2_with fail
  refine (unhide KR _ (unhide B0)).mono ?_
  rintro e w1 ⟨rfl, hb1⟩
  have x1 := (unhide X0).all hb1
  have B1 := hide ((unhide B0).trans (hb1.mono (unhide B0).size))
  have X1 := hide x1
  try clear y0 y1 y2
  have y0 := x1.c0; have y1 := x1.c1; have y2 := x1.c2
  clear hb1 x1 B0 X0
  go_wp2_with fail
  refine (unhide KO _ (unhide B1)).mono ?_
  rintro e w2 ⟨rfl, hb2⟩
  have x2 := (unhide X1).all hb2
  have B2 := hide ((unhide B1).trans (hb2.mono (unhide B1).size))
  have X2 := hide x2
  try clear y0 y1 y2
  have y0 := x2.c0; have y1 := x2.c1; have y2 := x2.c2
  clear hb2 x2 B1 X1
  go_wp2_with fail
  refine (unhide KR _ (unhide B2)).mono ?_
  rintro e w3 ⟨rfl, hb3⟩
  have x3 := (unhide X2).all hb3
  have B3 := hide ((unhide B2).trans (hb3.mono (unhide B2).size))
  have X3 := hide x3
  try clear y0 y1 y2
  have y0 := x3.c0; have y1 := x3.c1; have y2 := x3.c2
  clear hb3 x3 B2 X2
  go_wp2_with fail
  refine (unhide KW _ (unhide B3)).mono ?_
  rintro e w4 ⟨rfl, hb4⟩
  have x4 := (unhide X3).all hb4
  have B4 := hide ((unhide B3).trans (hb4.mono (unhide B3).size))
  have X4 := hide x4
  try clear y0 y1 y2
  have y0 := x4.c0; have y1 := x4.c1; have y2 := x4.c2
  clear hb4 x4 B3 X3
  go_wp2
  go_ret
  exact ⟨rfl, unhide B4⟩

set_option maxHeartbeats 4000000 in
theorem softRounds_sr (na : Bool) (ao : Option Addr) (ca l R : Nat) (E fl : Int) (w : World) (g1 : decide ((60 : Int) < l) = false)
    (CR : ∀ w', Below w.heap.size w w' → Calls Tryd.prog 21 #[.agg #[.bool na, .slice ao l ca, .int .i64 E]] w' fun r w'' => r = .returned (.bool true) ∧ Below w'.heap.size w' w'')
    (CO : ∀ w', Below w.heap.size w w' → Calls Tryd.prog 22 #[.agg #[.bool na, .slice ao l ca, .int .i64 E]] w' fun r w'' => r = .returned (.tuple #[.int .u64 R, .int .u8 fl, .int .i64 0]) ∧ Below w'.heap.size w' w'')
    (CQ : ∀ w', Below w.heap.size w w' → Calls Tryd.prog 23 #[.agg #[.bool na, .slice ao l ca, .int .i64 E]] w' fun r w'' => r = .returned (.tuple #[.int .u64 R, .int .u8 fl]) ∧ Below w'.heap.size w' w'')
    (CW : ∀ w', Below w.heap.size w w' → Calls Tryd.prog 17 #[] w' fun r w'' => r = .returned (.bool true) ∧ Below w'.heap.size w' w'') :
    Calls Tryd.prog 5 #[.agg #[.bool na, .slice ao l ca, .int .i64 E]] w fun r w' => r = .returned (.bool true) ∧ Below w.heap.size w w' := by
  have KR := hide CR; have KO := hide CO; have KQ := hide CQ; have KW := hide CW
  clear CR CO CQ CW
  have B0 := hide ((Below.refl w.heap.size w).alloc (Nat.le_refl _) (.cells #[.bool na, .slice ao l ca, .int .i64 E] 32))
  have X0 := hide (Box3.new w (.bool na) (.slice ao l ca) (.int .i64 E))
  go_enter Tryd.func5, Tryd.ntmps5
  go_wp2_with fail
  refine (unhide KO _ (unhide B0)).mono ?_
  rintro e w1 ⟨rfl, hb1⟩
  have x1 := (unhide X0).all hb1
  have B1 := hide ((unhide B0).trans (hb1.mono (unhide B0).size))
  have X1 := hide x1
  try clear y0 y1 y2
  have y0 := x1.c0; have y1 := x1.c1; have y2 := x1.c2
  clear hb1 x1 B0 X0
  go_wp2_with fail
  refine (unhide KR _ (unhide B1)).mono ?_
  rintro e w2 ⟨rfl, hb2⟩
  have x2 := (unhide X1).all hb2
  have B2 := hide ((unhide B1).trans (hb2.mono (unhide B1).size))
  have X2 := hide x2
  try clear y0 y1 y2
  have y0 := x2.c0; have y1 := x2.c1; have y2 := x2.c2
  clear hb2 x2 B1 X1
  go_wp2_with fail
  refine (unhide KQ _ (unhide B2)).mono ?_
  rintro e w3 ⟨rfl, hb3⟩
  have x3 := (unhide X2).all hb3
  have B3 := hide ((unhide B2).trans (hb3.mono (unhide B2).size))
  have X3 := hide x3
  try clear y0 y1 y2
  have y0 := x3.c0; have y1 := x3.c1; have y2 := x3.c2
  clear hb3 x3 B2 X2
  go_wp2_with fail
  refine (unhide KW _ (unhide B3)).mono ?_
  rintro e w4 ⟨rfl, hb4⟩
  have x4 := (unhide X3).all hb4
  have B4 := hide ((unhide B3).trans (hb4.mono (unhide B3).size))
  have X4 := hide x4
  try clear y0 y1 y2
  have y0 := x4.c0; have y1 := x4.c1; have y2 := x4.c2
  clear hb4 x4 B3 X3
  go_wp2
  go_ret
  exact ⟨rfl, unhide B4⟩

set_option maxHeartbeats 4000000 in
theorem softRounds_sw (na : Bool) (ao : Option Addr) (ca l : Nat) (E : Int) (w : World) (g1 : decide ((60 : Int) < l) = false)
    (CR : ∀ w', Below w.heap.size w w' → Calls Tryd.prog 21 #[.agg #[.bool na, .slice ao l ca, .int .i64 E]] w' fun r w'' => r = .returned (.bool false) ∧ Below w'.heap.size w' w'')
    (CO : ∀ w', Below w.heap.size w w' → Calls Tryd.prog 22 #[.agg #[.bool na, .slice ao l ca, .int .i64 E]] w' fun r w'' => r = .returned (.tuple #[.int .u64 0, .int .u8 0, .int .i64 1]) ∧ Below w'.heap.size w' w'')
    (CW : ∀ w', Below w.heap.size w w' → Calls Tryd.prog 17 #[] w' fun r w'' => r = .returned (.bool true) ∧ Below w'.heap.size w' w'') :
    Calls Tryd.prog 5 #[.agg #[.bool na, .slice ao l ca, .int .i64 E]] w fun r w' => r = .returned (.bool true) ∧ Below w.heap.size w w' := by
  have KR := hide CR; have KO := hide CO; have KW := hide CW
  clear CR CO CW
  have B0 := hide ((Below.refl w.heap.size w).alloc (Nat.le_refl _) (.cells #[.bool na, .slice ao l ca, .int .i64 E] 32))
  have X0 := hide (Box3.new w (.bool na) (.slice ao l ca) (.int .i64 E))
  go_enter Tryd.func5, Tryd.ntmps5
  go_wp2_with fail
  refine (unhide KO _ (unhide B0)).mono ?_
  rintro e w1 ⟨rfl, hb1⟩
  have x1 := (unhide X0).all hb1
  have B1 := hide ((unhide B0).trans (hb1.mono (unhide B0).size))
  have X1 := hide x1
  try clear y0 y1 y2
  have y0 := x1.c0; have y1 := x1.c1; have y2 := x1.c2
  clear hb1 x1 B0 X0
  go_wp2_with fail
  refine (unhide KR _ (unhide B1)).mono ?_
  rintro e w2 ⟨rfl, hb2⟩
  have x2 := (unhide X1).all hb2
  have B2 := hide ((unhide B1).trans (hb2.mono (unhide B1).size))
  have X2 := hide x2
  try clear y0 y1 y2
  have y0 := x2.c0; have y1 := x2.c1; have y2 := x2.c2
  clear hb2 x2 B1 X1
  go_wp2_with fail
  refine (unhide KW _ (unhide B2)).mono ?_
  rintro e w3 ⟨rfl, hb3⟩
  have x3 := (unhide X2).all hb3
  have B3 := hide ((unhide B2).trans (hb3.mono (unhide B2).size))
  have X3 := hide x3
  try clear y0 y1 y2
  have y0 := x3.c0; have y1 := x3.c1; have y2 := x3.c2
  clear hb3 x3 B2 X2
  go_wp2
  go_ret
  exact ⟨rfl, unhide B3⟩

theorem softRounds_walk (na : Bool) (ao : Option Addr) (ca : Nat) (A : List Nat) (E : Int) (w : World) (hA : LimbsAt w ao ca A) (la : A.length ≤ 35184372087808) (_bx : -9223372036854775808 ≤ E ∧ E ≤ 9223372036854775807) (hT : Tab w) :
    Calls Tryd.prog 5 #[.agg #[.bool na, .slice ao A.length ca, .int .i64 E]] w fun r w' => r = .returned (.bool true) ∧ Below w.heap.size w w' := by
  have CR := fun w' (hb : Below w.heap.size w w') => dright_any na ao ca A E w' (hA.below hb) (by omega)
  have CW := fun w' (hb : Below w.heap.size w w') => awake4_any w' (hT.all hb)
  cases hr : drB na A E
  · rw [hr] at CR
    have CO := fun w' (hb : Below w.heap.size w w') => round_wrong na ao ca A E w' (hA.below hb) (by omega) hr (hT.all hb)
    by_cases hl : 60 < A.length
    · exact softRounds_bw na ao ca A.length E w (decide_eq_true (by omega)) CR CO CW
    · exact softRounds_sw na ao ca A.length E w (decide_eq_false (by omega)) CR CO CW
  · rw [hr] at CR
    by_cases hl : 60 < A.length
    · exact softRounds_br na ao ca A.length E w (decide_eq_true (by omega)) CR CW
    · exact softRounds_sr na ao ca A.length _ E _ w (decide_eq_false (by omega)) CR (fun w' hb => round_right na ao ca A E w' (hA.below hb) hr (hT.all hb)) (fun w' hb => rround_right na ao ca A E w' (hA.below hb) hr (by omega)) CW

end Go.Proofs.YtkmkjeoblkdmnaaDoor

/- A struct of a sign and limbs that came in, opened. -/
namespace Go.Proofs.YtkmkjeoblkdmnaaDoor
open Go.ChangeShapes Go.WideShapes Go.ChangeAt Go.RowKit Go.Joins

theorem Tryd.own : ownKnob Tryd.prog.godebug = none := by kernel_rfl
theorem Tryd.laidOut : laidOutB Tryd.prog = true := by kernel_rfl
theorem Tryd.cellsW : Tryd.prog.cellsOf 30 = 2 := by kernel_rfl
theorem Tryd.cellsU : Tryd.prog.cellsOf 75 = 1 := by kernel_rfl
theorem Tryd.bytesU : Tryd.prog.bytesOf 75 = 4 := by kernel_rfl

theorem bounds_of_u32 {x : Int} (h : (Lit.int .u32 x).wf = true) : 0 ≤ x ∧ x < 4294967296 := by
  simp [Lit.wf, IntKind.min, IntKind.max, IntKind.signed, IntKind.bits] at h
  omega

theorem limbs_of_ints {W : World} {a : Addr} {len cap : Nat} {zs : List Int} (hl : len ≤ cap) (hz : zs.length = cap) (hc : ∀ i, i < zs.length → W.cell? (a.add i) = some (.int .u32 (zs.getD i 0))) (hw : ∀ n ∈ zs, (Lit.int .u32 n).wf = true) :
    LimbsAt W (some a) cap ((zs.take len).map Int.toNat) ∧ ((zs.take len).map Int.toNat).length = len := by
  have hlen : ((zs.take len).map Int.toNat).length = len := by simp; omega
  refine ⟨⟨by omega, ?_, ?_⟩, hlen⟩
  · intro x hx
    obtain ⟨y, hy, rfl⟩ := List.mem_map.1 hx
    have := bounds_of_u32 (hw y (List.mem_of_mem_take hy))
    omega
  · rcases Nat.eq_zero_or_pos len with rfl | hp
    · left; simp
    · right
      obtain ⟨b, off, spot⟩ := a
      have h0 := hc 0 (by omega)
      have hspot : spot = none := by simpa [Addr.add] using World.cell?_spot h0
      subst hspot
      have hb : b < W.heap.size := by
        have := World.block_lt_of_cell? W _ h0
        simpa [Addr.add] using this
      refine ⟨b, off, rfl, hb, fun i hi => ?_⟩
      have h1 := hc i (by omega)
      have h2 : (0 : Int) ≤ zs[i]'(by omega) := (bounds_of_u32 (hw _ (List.getElem_mem _))).1
      have h3 : (⟨b, off, none⟩ : Addr).add i = ⟨b, off + i, none⟩ := by simp [Addr.add]
      rw [h3] at h1
      rw [h1]
      have e : ((zs.take len).map Int.toNat)[i]?.getD 0 = (zs[i]'(by omega)).toNat := by
        rw [List.getElem?_map, List.getElem?_take, if_pos (by omega), List.getElem?_eq_getElem (by omega)]; rfl
      rw [e, List.getD_eq_getElem?_getD, List.getElem?_eq_getElem (by omega)]
      simp only [Option.getD_some, Option.some.injEq, Value.int.injEq, true_and]
      omega

/-- A number that came in: its sign, its limbs, where they lie; by the row's own reach they are not too many. -/
theorem open_whole {H : Type} {enc : TypeId × Value → H} {W : World} {base : Nat} {v : Value} {d : DataW H} {p : List MemPlace} (hval : Value.okWide Tryd.prog W .any base 30 v) (h : DataW.Trod enc Tryd.prog W 0 (fun _ => true) true 30 v d p)
    (hs : ∀ n ∈ d.weights Tryd.prog 30, n ≤ reachBytes) :
    ∃ neg ao cap L, v = .agg #[.bool neg, .slice ao L.length cap] ∧ LimbsAt W ao cap L ∧ L.length ≤ 35184372087808 := by
  obtain ⟨c0, c1, y0, y1, m, rfl, rfl, rfl, hy0, hy1⟩ := open_agg2 Tryd.underlying30 (by kernel_rfl) Tryd.cellsW hval h
  obtain ⟨neg, e0, rfl⟩ := DataW.trod_bool Tryd.underlying4 hy0
  simp at e0
  subst e0
  rcases open_ints Tryd.underlying28 Tryd.underlying75 Tryd.cellsU hy1 with ⟨hcs, _⟩ | ⟨a, len, cap, zs, hcs, _, hl, hm, hz, rfl, hcell, hwz⟩
  · simp at hcs
    subst hcs
    exact ⟨neg, none, 0, [], rfl, LimbsAt.nil _ _ _, by simp⟩
  · simp at hcs
    subst hcs
    obtain ⟨h1, h2⟩ := limbs_of_ints hl (by simpa using hz) hcell hwz
    refine ⟨neg, some a, cap, _, by rw [h2], h1, ?_⟩
    have hk := hs ((zs.length) * 4) (by
      simp only [DataW.weights, Tryd.underlying30, DataW.weightsEach, List.map, Tryd.underlying28, List.nil_append, List.append_nil, List.mem_cons, Tryd.bytesU, lits, List.length_map, List.length_take, List.length_drop]
      left
      omega)
    simp only [reachBytes] at hk
    rw [h2]
    have : zs.length = cap := by simpa using hz
    omega

end Go.Proofs.YtkmkjeoblkdmnaaDoor

/- The bounds of an int or int64 that came in. -/
namespace Go.Proofs.YtkmkjeoblkdmnaaDoor

theorem bounds_of_i64 {x : Int} (h : (Lit.int .i64 x).wf = true) : -9223372036854775808 ≤ x ∧ x ≤ 9223372036854775807 := by
  simp [Lit.wf, IntKind.min, IntKind.max, IntKind.signed, IntKind.bits] at h
  omega

end Go.Proofs.YtkmkjeoblkdmnaaDoor

/- A dyadic number that came in, opened; the library's table, as the row lays it. -/
namespace Go.Proofs.YtkmkjeoblkdmnaaDoor
open Go.ChangeShapes Go.WideShapes Go.ChangeAt Go.RowKit Go.Joins

theorem Tryd.cellsD : Tryd.prog.cellsOf 32 = 3 := by kernel_rfl
theorem Tryd.cellsI : Tryd.prog.cellsOf 3 = 1 := by kernel_rfl
theorem Tryd.cellsB : Tryd.prog.cellsOf 4 = 1 := by kernel_rfl
theorem Tryd.cellsS : Tryd.prog.cellsOf 28 = 1 := by kernel_rfl

theorem Tryd.tabName : Tryd.prog.globalNamed "math/bits.deBruijn32tab" = some 1 := by kernel_rfl
theorem Tryd.tabType : (Tryd.prog.globals[1]?).map (·.type) = some 90 := by kernel_rfl
theorem Tryd.tabCells : Tryd.prog.cellsOf 90 = 32 := by kernel_rfl
theorem Tryd.byteCells : Tryd.prog.cellsOf 5 = 1 := by kernel_rfl

theorem tab_getD : ∀ j, j < Lib.deBruijn32tab.length → (List.map Int.ofNat Lib.deBruijn32tab).getD j 0 = ((Lib.deBruijn32tab.getD j 0 : Nat) : Int) := by decide

/-- What the rows' list gives: the table's cells. -/
theorem tab_of_laid {W : World} (h : laidMetH Tryd.prog [("math/bits.deBruijn32tab", Rows.laid_math_bits_deBruijn32tab)] W) : Tab W := by
  have ht := Lib.tabIs_of_head (zs := Lib.deBruijn32tab.map Int.ofNat) (rest := []) Tryd.tabName Tryd.tabType Tryd.underlying90 Tryd.underlying5 Tryd.byteCells Tryd.tabCells h
  intro j hj
  have := ht.cell Tryd.tabName j (by simpa using hj)
  rw [this]
  congr 2
  exact tab_getD j hj

/-- A dyadic number that came in. -/
theorem open_dyadic {H : Type} {enc : TypeId × Value → H} {W : World} {base : Nat} {v : Value} {d : DataW H} {p : List MemPlace} (hval : Value.okWide Tryd.prog W .any base 32 v) (h : DataW.Trod enc Tryd.prog W 0 (fun _ => true) true 32 v d p)
    (hs : ∀ n ∈ d.weights Tryd.prog 32, n ≤ reachBytes) :
    ∃ (neg : Bool) (ao : Option Addr) (cap : Nat) (L : List Nat) (e : Int), v = .agg #[.bool neg, .slice ao L.length cap, .int .i64 e] ∧ LimbsAt W ao cap L ∧ L.length ≤ 35184372087808 ∧ (-9223372036854775808 ≤ e ∧ e ≤ 9223372036854775807) := by
  obtain ⟨cs, rfl, hsz⟩ := okWide_struct Tryd.underlying32 hval
  obtain ⟨c0, c1, c2, rfl⟩ := array3 (hsz.trans Tryd.cellsD)
  obtain ⟨fuel, hf⟩ := h
  obtain ⟨y0, y1, n, hx, _, h0, h1⟩ := trod_struct2 Tryd.underlying32 hf
  simp only [Prod.mk.injEq] at hx
  obtain ⟨rfl, rfl⟩ := hx
  have h0' : DataW.trod enc Tryd.prog W 0 (fun _ => true) true n 30 [c0, c1] = some y0 := by simpa [Value.cells, Tryd.cellsW] using h0
  have h1' : DataW.trod enc Tryd.prog W 0 (fun _ => true) true n 3 [c2] = some y1 := by simpa [Value.cells, Tryd.cellsI] using h1
  clear h0 h1
  obtain ⟨e, e1, e2, we⟩ := DataW.trod_int Tryd.underlying3 h1'
  simp at e1
  subst e1
  obtain ⟨z0, z1, m, hz, _, g0, g1⟩ := trod_struct2 Tryd.underlying30 h0'
  subst hz
  have g0' : DataW.trod enc Tryd.prog W 0 (fun _ => true) true m 4 [c0] = some z0 := by simpa [Tryd.cellsB] using g0
  have g1' : DataW.trod enc Tryd.prog W 0 (fun _ => true) true m 28 [c1] = some z1 := by simpa [Tryd.cellsS] using g1
  clear g0 g1
  obtain ⟨neg, e0, _⟩ := DataW.trod_bool Tryd.underlying4 g0'
  simp at e0
  subst e0
  have be := bounds_of_i64 we
  rcases open_ints Tryd.underlying28 Tryd.underlying75 Tryd.cellsU g1' with ⟨hcs, _⟩ | ⟨a, len, cap, zs, hcs, _, hl, hm, hzz, rfl, hcell, hwz⟩
  · simp at hcs
    subst hcs
    exact ⟨neg, none, 0, [], e, rfl, LimbsAt.nil _ _ _, by simp, be⟩
  · simp at hcs
    subst hcs
    obtain ⟨l1, l2⟩ := limbs_of_ints hl (by simpa using hzz) hcell hwz
    refine ⟨neg, some a, cap, _, e, by rw [l2], l1, ?_, be⟩
    have hk := hs ((zs.length) * 4) (by
      simp only [DataW.weights, Tryd.underlying32, Tryd.underlying30, DataW.weightsEach, List.map, Tryd.underlying28, List.append_nil, List.mem_cons, List.mem_append, Tryd.bytesU, lits, List.length_map, List.length_take, List.length_drop]
      refine .inl (.inr (.inl ?_))
      have : zs.length = cap := by simpa using hzz
      omega)
    simp only [reachBytes] at hk
    rw [l2]
    have : zs.length = cap := by simpa using hzz
    omega

end Go.Proofs.YtkmkjeoblkdmnaaDoor

