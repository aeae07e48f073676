/- Part 22 of the texts. -/
import Derived.Test.YtkmkjeoblkdmnaaDoorPart21
import Derived.Test.YtkmkjeoblkdmnaaDoorChecked
import Derived.Test.YtkmkjeoblkdmnaaDoorPart02
import Derived.ProofKit
import Derived.SizedLaws
import Derived.Lib.SmallJoins
import Derived.Test.YtkmkjeoblkdmnaaDoorRows
import Derived.Test.YtkmkjeoblkdmnaaDoorPart12
import Derived.Lib.LaidTab
import Derived.OpenShut
import Derived.Deep.DeepHandedRow
/- A finite number's neighbours; neither is nearer. -/
namespace Go.Proofs.YtkmkjeoblkdmnaaDoor
open Go.RowKit

def nOut (n : Bool) (r : Nat) : Nat := wrd n (r + 1)
def nIn (n : Bool) (r : Nat) : Nat := if r = 0 then wrd (!n) 1 else wrd n (r - 1)

theorem wrd_lt (n : Bool) (r : Nat) (h : r < 9223372036854775808) : wrd n r < 18446744073709551616 := by
  cases n
  · rw [wrd_false]; omega
  · rw [wrd_true]; omega

theorem fN_wrd2 (n : Bool) (r : Nat) (h : r < 9223372036854775808) : fN (wrd n r) = wrd (!n) r := by
  unfold fN
  cases n
  · rw [wrd_false, if_neg (by omega)]; exact (wrd_true r).symm
  · rw [wrd_true, if_pos (by omega), Nat.add_sub_cancel]; exact (wrd_false r).symm

theorem fK_wrd (n : Bool) (r : Nat) (h : r < 9218868437227405312) : fK (wrd n r) ≠ 4 ∧ (fK (wrd n r) = 0 ↔ r = 0) := by
  unfold fK
  rw [fP_wrd n r (by omega), fF_wrd n r (by omega), if_neg (by omega)]
  by_cases c : r / 4503599627370496 = 0
  · rw [if_pos c]
    by_cases c2 : r % 4503599627370496 = 0
    · rw [if_pos c2]; exact ⟨by decide, fun _ => by omega, fun _ => rfl⟩
    · rw [if_neg c2]; exact ⟨by decide, fun h => by simp at h, fun h => by omega⟩
  · rw [if_neg c]; exact ⟨by decide, fun h => by simp at h, fun h => by omega⟩

theorem fU_false (r : Nat) (h : r < 9218868437227405312) : fU (wrd false r) = nOut false r := by
  obtain ⟨k1, k2⟩ := fK_wrd false r h
  unfold fU nOut
  have hs := fS_wrd false r (by omega)
  have hne : wrd false r ≠ 9218868437227405312 := by rw [wrd_false]; omega
  rw [if_neg (fun hh => hh.elim k1 hne), hs]
  by_cases h0 : r = 0
  · rw [if_pos (k2.2 h0), h0, wrd_false]
  · rw [if_neg (fun hh => h0 (k2.1 hh)), if_neg (by decide), wrd_false, wrd_false]

theorem fU_true (r : Nat) (h : r < 9218868437227405312) : fU (wrd true r) = nIn true r := by
  obtain ⟨k1, k2⟩ := fK_wrd true r h
  unfold fU nIn
  have hs := fS_wrd true r (by omega)
  have hne : wrd true r ≠ 9218868437227405312 := by rw [wrd_true]; omega
  rw [if_neg (fun hh => hh.elim k1 hne), hs]
  by_cases h0 : r = 0
  · rw [if_pos (k2.2 h0), if_pos h0]; exact (wrd_false 1).symm
  · rw [if_neg (fun hh => h0 (k2.1 hh)), if_pos rfl, if_neg h0, wrd_true, wrd_true]; omega

theorem fN_out (n : Bool) (r : Nat) (h : r < 9218868437227405312) : fN (nOut n r) = nOut (!n) r := fN_wrd2 n (r + 1) (by omega)
theorem fN_in (n : Bool) (r : Nat) (h : r < 9218868437227405312) : fN (nIn n r) = nIn (!n) r := by
  unfold nIn
  by_cases h0 : r = 0
  · rw [if_pos h0, if_pos h0]; exact fN_wrd2 (!n) 1 (by decide)
  · rw [if_neg h0, if_neg h0]; exact fN_wrd2 n (r - 1) (by omega)

theorem nIn_fin (n : Bool) (r : Nat) (h : r < 9218868437227405312) : fFin (nIn n r) = true := by
  unfold nIn
  split
  · rw [fFin_wrd _ _ (by decide)]; rfl
  · rw [fFin_wrd _ _ (by omega)]; exact decide_eq_true (by omega)
theorem nIn_lt (n : Bool) (r : Nat) (h : r < 9218868437227405312) : nIn n r < 18446744073709551616 := by
  unfold nIn
  split
  · exact wrd_lt _ _ (by decide)
  · exact wrd_lt _ _ (by omega)

theorem sg_sub (n : Bool) (x y : Nat) : (sg n x - sg n y).natAbs = ((x : Int) - (y : Int)).natAbs := by
  unfold sg; cases n <;> simp <;> omega
theorem sg_add (n : Bool) (x y : Nat) : (sg n x - sg (!n) y).natAbs = x + y := by
  unfold sg; cases n <;> simp <;> omega

/-- Neither neighbour is nearer. -/
theorem near_dist {na : Bool} {A : List Nat} {E : Int} (t : Bool) (hf : Fits A) (hr : drB na A E = true) (ht : decide (topR A E < -2000) = t) (hfin : rnd (val A) E < 9218868437227405312) :
    (rnd (val A) E + 1 < 9218868437227405312 → (nZ t (sval na A) E - nB (nLo t E) (wrd na (rnd (val A) E))).natAbs ≤ (nZ t (sval na A) E - nB (nLo t E) (nOut na (rnd (val A) E))).natAbs) ∧
    (nZ t (sval na A) E - nB (nLo t E) (wrd na (rnd (val A) E))).natAbs ≤ (nZ t (sval na A) E - nB (nLo t E) (nIn na (rnd (val A) E))).natAbs := by
  obtain ⟨d1, d2, d3, d4, d5⟩ := drB_bounds hr
  have hlow : nLo t E ≤ -1074 := by unfold nLo; split <;> omega
  obtain ⟨c, hc⟩ : ∃ c : Nat, -1074 - nLo t E = (c : Int) := ⟨(-1074 - nLo t E).toNat, by omega⟩
  have e0 := nB_wrd (nLo t E) na (rnd (val A) E) c hfin hc
  have hzero : rnd (val A) E = 0 → nZ t (sval na A) E = 0 → (nZ t (sval na A) E - nB (nLo t E) (wrd na (rnd (val A) E))).natAbs = 0 := fun h1 h2 => by
    rw [e0, h1, h2, rv_zero]
    simp [sg]
  cases t
  · have e1 : nZ false (sval na A) E = up (sval na A) E (min E (-1074)) := rfl
    by_cases hA : A = []
    · subst hA
      have h1 : rnd (val []) E = 0 := by simp [rnd, val]
      have h2 : nZ false (sval na []) E = 0 := by rw [e1, sval_nil, up_zero]
      rw [hzero h1 h2]
      exact ⟨fun _ => Nat.zero_le _, Nat.zero_le _⟩
    · have hv := val_ne d1 hA
      have htop : (bl (val A) : Int) + E ≤ 1024 := by
        by_cases g : 1024 < (bl (val A) : Int) + E
        · exfalso
          have : rnd (val A) E = 9218868437227405312 := by unfold rnd; rw [if_neg hv, if_pos g]
          omega
        · omega
      obtain ⟨a, ha⟩ : ∃ a : Nat, E - nLo false E = (a : Int) := ⟨(E - nLo false E).toNat, by
        have : nLo false E = min E (-1074) := rfl
        omega⟩
      have hz : nZ false (sval na A) E = sg na (val A * 2 ^ a) := by
        rw [e1, up_sval]
        have : nLo false E = min E (-1074) := rfl
        rw [← this, ha, Int.toNat_natCast]
      obtain ⟨n1, n2⟩ := near_num (val A) E (nLo false E) hv htop a c ha hc
      rw [hz, e0, sg_sub]
      refine ⟨fun hlt => ?_, ?_⟩
      · unfold nOut
        rw [nB_wrd (nLo false E) na _ c hlt hc, sg_sub]
        exact n1
      · unfold nIn
        by_cases h0 : rnd (val A) E = 0
        · rw [if_pos h0, nB_wrd (nLo false E) (!na) 1 c (by decide) hc, sg_add, h0, rv_zero, Nat.zero_mul]
          have hle : ∀ D Y : Nat, ((D : Int) - ((0 : Nat) : Int)).natAbs ≤ D + Y := fun D Y => by omega
          exact hle _ _
        · rw [if_neg h0, nB_wrd (nLo false E) na _ c (by omega) hc, sg_sub]
          exact n2 (by omega)
  · have h2 : nZ true (sval na A) E = 0 := rfl
    have h1 : rnd (val A) E = 0 := by
      have ht' := of_decide_eq_true ht
      unfold topR at ht'
      by_cases h0 : A.length = 0
      · rw [if_pos h0] at ht'; omega
      · rw [if_neg h0, lenL_bl hf d1] at ht'
        have hA0 : A ≠ [] := fun e => h0 (by rw [e]; rfl)
        exact (rnd_tiny (val A) E (val_ne d1 hA0) (by omega)).1
    rw [hzero h1 h2]
    exact ⟨fun _ => Nat.zero_le _, Nat.zero_le _⟩

end Go.Proofs.YtkmkjeoblkdmnaaDoor

/- The law SoftNearest, walked. -/
namespace Go.Proofs.YtkmkjeoblkdmnaaDoor
open Go.RowKit

set_option maxHeartbeats 8000000 in
theorem softNearest_b (na : Bool) (ao : Option Addr) (ca l : Nat) (E : Int) (w : World) (g1 : decide ((60 : Int) < l) = true)
    (CW : ∀ w', Below w.heap.size w w' → Calls Tryd.prog 17 #[] w' fun r w'' => r = .returned (.bool true) ∧ Below w'.heap.size w' w'') :
    Calls Tryd.prog 8 #[.agg #[.bool na, .slice ao l ca, .int .i64 E]] w fun r w' => r = .returned (.bool true) ∧ Below w.heap.size w w' := by
  have KCW := hide CW
  clear CW
  have B0 := hide ((Below.refl w.heap.size w).alloc (Nat.le_refl _) (.cells #[.bool na, .slice ao l ca, .int .i64 E] 32))
  have X0 := hide (Box3.new w (.bool na) (.slice ao l ca) (.int .i64 E))
  go_enter Tryd.func8, Tryd.ntmps8
  go_wp2_with fail
  refine (unhide KCW _ (unhide B0)).mono ?_
  rintro e w1 ⟨rfl, hb1⟩
  have x1 := (unhide X0).all hb1
  have B1 := hide ((unhide B0).trans (hb1.mono (unhide B0).size))
  have X1 := hide x1
  try clear y0 y1 y2
  have y0 := x1.c0; have y1 := x1.c1; have y2 := x1.c2
  clear hb1 x1 B0 X0
  go_wp2
  go_ret
  exact ⟨rfl, unhide B1⟩

set_option maxHeartbeats 8000000 in
theorem softNearest_w (na : Bool) (ao : Option Addr) (ca l : Nat) (E : Int) (w : World) (g1 : decide ((60 : Int) < l) = false)
    (CR : ∀ w', Below w.heap.size w w' → Calls Tryd.prog 21 #[.agg #[.bool na, .slice ao l ca, .int .i64 E]] w' fun r w'' => r = .returned (.bool false) ∧ Below w'.heap.size w' w'')
    (CW : ∀ w', Below w.heap.size w w' → Calls Tryd.prog 17 #[] w' fun r w'' => r = .returned (.bool true) ∧ Below w'.heap.size w' w'') :
    Calls Tryd.prog 8 #[.agg #[.bool na, .slice ao l ca, .int .i64 E]] w fun r w' => r = .returned (.bool true) ∧ Below w.heap.size w w' := by
  have KCR := hide CR
  have KCW := hide CW
  clear CR CW
  have B0 := hide ((Below.refl w.heap.size w).alloc (Nat.le_refl _) (.cells #[.bool na, .slice ao l ca, .int .i64 E] 32))
  have X0 := hide (Box3.new w (.bool na) (.slice ao l ca) (.int .i64 E))
  go_enter Tryd.func8, Tryd.ntmps8
  go_wp2_with fail
  refine (unhide KCR _ (unhide B0)).mono ?_
  rintro e w1 ⟨rfl, hb1⟩
  have x1 := (unhide X0).all hb1
  have B1 := hide ((unhide B0).trans (hb1.mono (unhide B0).size))
  have X1 := hide x1
  try clear y0 y1 y2
  have y0 := x1.c0; have y1 := x1.c1; have y2 := x1.c2
  clear hb1 x1 B0 X0
  go_wp2_with fail
  refine (unhide KCW _ (unhide B1)).mono ?_
  rintro e w2 ⟨rfl, hb2⟩
  have x2 := (unhide X1).all hb2
  have B2 := hide ((unhide B1).trans (hb2.mono (unhide B1).size))
  have X2 := hide x2
  try clear y0 y1 y2
  have y0 := x2.c0; have y1 := x2.c1; have y2 := x2.c2
  clear hb2 x2 B1 X1
  go_wp2
  go_ret
  exact ⟨rfl, unhide B2⟩

set_option maxHeartbeats 8000000 in
theorem softNearest_i (na : Bool) (ao : Option Addr) (ca l R : Nat) (E f t : Int) (w : World) (g1 : decide ((60 : Int) < l) = false) (g2 : decide ((1024 : Int) ≤ t) = true)
    (CR : ∀ w', Below w.heap.size w w' → Calls Tryd.prog 21 #[.agg #[.bool na, .slice ao l ca, .int .i64 E]] w' fun r w'' => r = .returned (.bool true) ∧ Below w'.heap.size w' w'')
    (CO : ∀ w', Below w.heap.size w w' → Calls Tryd.prog 22 #[.agg #[.bool na, .slice ao l ca, .int .i64 E]] w' fun r w'' => r = .returned (.tuple #[.int .u64 R, .int .u8 f, .int .i64 0]) ∧ Below w'.heap.size w' w'')
    (CF : ∀ w', Calls Tryd.prog 14 #[.int .u64 R] w' fun r w'' => r = .returned (.bool false) ∧ w' = w'')
    (CT : ∀ w', Below w.heap.size w w' → Calls Tryd.prog 26 #[.agg #[.bool na, .slice ao l ca, .int .i64 E]] w' fun r w'' => r = .returned (.int .i64 t) ∧ Below w'.heap.size w' w'')
    (CW : ∀ w', Below w.heap.size w w' → Calls Tryd.prog 17 #[] w' fun r w'' => r = .returned (.bool true) ∧ Below w'.heap.size w' w'') :
    Calls Tryd.prog 8 #[.agg #[.bool na, .slice ao l ca, .int .i64 E]] w fun r w' => r = .returned (.bool true) ∧ Below w.heap.size w w' := by
  have KCR := hide CR
  have KCO := hide CO
  have KCF := hide CF
  have KCT := hide CT
  have KCW := hide CW
  clear CR CO CF CT CW
  have B0 := hide ((Below.refl w.heap.size w).alloc (Nat.le_refl _) (.cells #[.bool na, .slice ao l ca, .int .i64 E] 32))
  have X0 := hide (Box3.new w (.bool na) (.slice ao l ca) (.int .i64 E))
  go_enter Tryd.func8, Tryd.ntmps8
  go_wp2_with fail
  refine (unhide KCR _ (unhide B0)).mono ?_
  rintro e w1 ⟨rfl, hb1⟩
  have x1 := (unhide X0).all hb1
  have B1 := hide ((unhide B0).trans (hb1.mono (unhide B0).size))
  have X1 := hide x1
  try clear y0 y1 y2
  have y0 := x1.c0; have y1 := x1.c1; have y2 := x1.c2
  clear hb1 x1 B0 X0
  go_wp2_with fail
  refine (unhide KCO _ (unhide B1)).mono ?_
  rintro e w2 ⟨rfl, hb2⟩
  have x2 := (unhide X1).all hb2
  have B2 := hide ((unhide B1).trans (hb2.mono (unhide B1).size))
  have X2 := hide x2
  try clear y0 y1 y2
  have y0 := x2.c0; have y1 := x2.c1; have y2 := x2.c2
  clear hb2 x2 B1 X1
  go_wp2_with (go_at_call 14; refine (unhide KCF _).mono ?_; rintro e wf ⟨rfl, rfl⟩)
  refine (unhide KCT _ (unhide B2)).mono ?_
  rintro e w3 ⟨rfl, hb3⟩
  have x3 := (unhide X2).all hb3
  have B3 := hide ((unhide B2).trans (hb3.mono (unhide B2).size))
  have X3 := hide x3
  try clear y0 y1 y2
  have y0 := x3.c0; have y1 := x3.c1; have y2 := x3.c2
  clear hb3 x3 B2 X2
  go_wp2_with fail
  refine (unhide KCW _ (unhide B3)).mono ?_
  rintro e w4 ⟨rfl, hb4⟩
  have x4 := (unhide X3).all hb4
  have B4 := hide ((unhide B3).trans (hb4.mono (unhide B3).size))
  have X4 := hide x4
  try clear y0 y1 y2
  have y0 := x4.c0; have y1 := x4.c1; have y2 := x4.c2
  clear hb4 x4 B3 X3
  go_wp2
  go_ret
  exact ⟨rfl, unhide B4⟩

set_option maxHeartbeats 8000000 in
theorem softNearest_mtt (na : Bool) (ao : Option Addr) (ca l R U P Q V : Nat) (E f M0 X0 M1 X1 c1 M2 X2 c2 : Int) (w : World) (g1 : decide ((60 : Int) < l) = false) (h1 : decide (c1 < 0) = false) (h2 : decide (c2 < 0) = false)
    (CR : ∀ w', Below w.heap.size w w' → Calls Tryd.prog 21 #[.agg #[.bool na, .slice ao l ca, .int .i64 E]] w' fun r w'' => r = .returned (.bool true) ∧ Below w'.heap.size w' w'')
    (CO : ∀ w', Below w.heap.size w w' → Calls Tryd.prog 22 #[.agg #[.bool na, .slice ao l ca, .int .i64 E]] w' fun r w'' => r = .returned (.tuple #[.int .u64 R, .int .u8 f, .int .i64 0]) ∧ Below w'.heap.size w' w'')
    (CF : ∀ w', Calls Tryd.prog 14 #[.int .u64 R] w' fun r w'' => r = .returned (.bool true) ∧ w' = w'')
    (C0 : ∀ w', Below w.heap.size w w' → Calls Tryd.prog 27 #[.agg #[.bool na, .slice ao l ca, .int .i64 E], .int .u64 R] w' fun r w'' => ∃ v, r = .returned v ∧ IsDy w'' v M0 X0 ∧ Below w'.heap.size w' w'')
    (CU1 : ∀ w', Calls Tryd.prog 28 #[.int .u64 R] w' fun r w'' => r = .returned (.int .u64 U) ∧ Below w'.heap.size w' w'')
    (CM1 : ∀ w', Calls Tryd.prog 15 #[.int .u64 R] w' fun r w'' => r = .returned (.int .u64 P) ∧ w' = w'')
    (CU2 : ∀ w', Calls Tryd.prog 28 #[.int .u64 P] w' fun r w'' => r = .returned (.int .u64 Q) ∧ Below w'.heap.size w' w'')
    (CM2 : ∀ w', Calls Tryd.prog 15 #[.int .u64 Q] w' fun r w'' => r = .returned (.int .u64 V) ∧ w' = w'')
    (CF1 : ∀ w', Calls Tryd.prog 14 #[.int .u64 U] w' fun r w'' => r = .returned (.bool true) ∧ w' = w'')
    (CF2 : ∀ w', Calls Tryd.prog 14 #[.int .u64 V] w' fun r w'' => r = .returned (.bool true) ∧ w' = w'')
    (CD1 : ∀ w', Below w.heap.size w w' → Calls Tryd.prog 27 #[.agg #[.bool na, .slice ao l ca, .int .i64 E], .int .u64 U] w' fun r w'' => ∃ v, r = .returned v ∧ IsDy w'' v M1 X1 ∧ Below w'.heap.size w' w'')
    (CC1 : ∀ w' v u, IsDy w' v M1 X1 → IsDy w' u M0 X0 → Calls Tryd.prog 24 #[v, u] w' fun r w'' => r = .returned (.int .i64 c1) ∧ Below w'.heap.size w' w'')
    (CD2 : ∀ w', Below w.heap.size w w' → Calls Tryd.prog 27 #[.agg #[.bool na, .slice ao l ca, .int .i64 E], .int .u64 V] w' fun r w'' => ∃ v, r = .returned v ∧ IsDy w'' v M2 X2 ∧ Below w'.heap.size w' w'')
    (CC2 : ∀ w' v u, IsDy w' v M2 X2 → IsDy w' u M0 X0 → Calls Tryd.prog 24 #[v, u] w' fun r w'' => r = .returned (.int .i64 c2) ∧ Below w'.heap.size w' w'')
    (CW : ∀ w', Below w.heap.size w w' → Calls Tryd.prog 17 #[] w' fun r w'' => r = .returned (.bool true) ∧ Below w'.heap.size w' w'') :
    Calls Tryd.prog 8 #[.agg #[.bool na, .slice ao l ca, .int .i64 E]] w fun r w' => r = .returned (.bool true) ∧ Below w.heap.size w w' := by
  have KCR := hide CR
  have KCO := hide CO
  have KCF := hide CF
  have KC0 := hide C0
  have KCU1 := hide CU1
  have KCM1 := hide CM1
  have KCU2 := hide CU2
  have KCM2 := hide CM2
  have KCF1 := hide CF1
  have KCF2 := hide CF2
  have KCD1 := hide CD1
  have KCC1 := hide CC1
  have KCD2 := hide CD2
  have KCC2 := hide CC2
  have KCW := hide CW
  clear CR CO CF C0 CU1 CM1 CU2 CM2 CF1 CF2 CD1 CC1 CD2 CC2 CW
  have B0 := hide ((Below.refl w.heap.size w).alloc (Nat.le_refl _) (.cells #[.bool na, .slice ao l ca, .int .i64 E] 32))
  have X0 := hide (Box3.new w (.bool na) (.slice ao l ca) (.int .i64 E))
  go_enter Tryd.func8, Tryd.ntmps8
  go_wp2_with fail
  refine (unhide KCR _ (unhide B0)).mono ?_
  rintro e w1 ⟨rfl, hb1⟩
  have x1 := (unhide X0).all hb1
  have B1 := hide ((unhide B0).trans (hb1.mono (unhide B0).size))
  have X1 := hide x1
  try clear y0 y1 y2
  have y0 := x1.c0; have y1 := x1.c1; have y2 := x1.c2
  clear hb1 x1 B0 X0
  go_wp2_with fail
  refine (unhide KCO _ (unhide B1)).mono ?_
  rintro e w2 ⟨rfl, hb2⟩
  have x2 := (unhide X1).all hb2
  have B2 := hide ((unhide B1).trans (hb2.mono (unhide B1).size))
  have X2 := hide x2
  try clear y0 y1 y2
  have y0 := x2.c0; have y1 := x2.c1; have y2 := x2.c2
  clear hb2 x2 B1 X1
  go_wp2_with (go_at_call 14; refine (unhide KCF _).mono ?_; rintro e wf ⟨rfl, rfl⟩)
  refine (unhide KC0 _ (unhide B2)).mono ?_
  rintro e w3 ⟨v3, rfl, hv3, hb3⟩
  obtain ⟨n3, a3, c3, L3, rfl, j3⟩ := hv3
  have hb4 : Below w3.heap.size w3 (w3.alloc (.cells #[.bool n3, .slice a3 L3.length c3, .int .i64 X0] 32)) := (Below.refl _ _).alloc (Nat.le_refl _) _
  have b3 := (unhide B2).trans (hb3.mono (unhide B2).size)
  have F4 := hide (show Below w.heap.size w (w3.alloc (.cells #[.bool n3, .slice a3 L3.length c3, .int .i64 X0] 32)) ∧ Box3 (w3.alloc (.cells #[.bool n3, .slice a3 L3.length c3, .int .i64 X0] 32)) w.heap.size (.bool na) (.slice ao l ca) (.int .i64 E) ∧ Box3 (w3.alloc (.cells #[.bool n3, .slice a3 L3.length c3, .int .i64 X0] 32)) w3.heap.size (.bool n3) (.slice a3 L3.length c3) (.int .i64 X0) ∧ IsDy (w3.alloc (.cells #[.bool n3, .slice a3 L3.length c3, .int .i64 X0] 32)) (.agg #[.bool n3, .slice a3 L3.length c3, .int .i64 X0]) M0 X0 from
    ⟨b3.trans (hb4.mono b3.size), ((unhide X2).all hb3).all hb4, Box3.new _ _ _ _, (show IsDy w3 (.agg #[.bool n3, .slice a3 L3.length c3, .int .i64 X0]) M0 X0 from ⟨n3, a3, c3, L3, rfl, j3⟩).below hb4⟩)
  clear hb3 hb4 b3 j3 B2 X2 y0 y1 y2 KC0 KCR KCO KCF
  generalize L3.length = l3 at *
  go_upto_region 9 with (fail)
  refine at_world (fun W => Below w.heap.size w W ∧ Box3 W w.heap.size (.bool na) (.slice ao l ca) (.int .i64 E) ∧ Box3 W w3.heap.size (.bool n3) (.slice a3 l3 c3) (.int .i64 X0) ∧ IsDy W (.agg #[.bool n3, .slice a3 l3 c3, .int .i64 X0]) M0 X0) (unhide F4) ?_
  clear F4
  generalize w3.heap.size = g at *
  rintro W4 ⟨b4, x4, z4, i4⟩
  have B4 := hide b4; have X4 := hide x4; have Z4 := hide z4; have I4 := hide i4
  clear b4 x4 z4 i4
  go_wp2_with fail
  refine (unhide KCU1 _).mono ?_
  rintro e w5 ⟨rfl, hb5⟩
  have B5 := hide ((unhide B4).trans (hb5.mono (unhide B4).size)); have X5 := hide ((unhide X4).all hb5); have Z5 := hide ((unhide Z4).all hb5); have I5 := hide ((unhide I4).below hb5)
  clear hb5 B4 X4 Z4 I4 KCU1
  go_wp2_with fail
  refine (unhide KCM1 _).mono ?_
  rintro e w5' ⟨rfl, rfl⟩
  clear KCM1
  go_wp2_with fail
  refine (unhide KCU2 _).mono ?_
  rintro e w6 ⟨rfl, hb6⟩
  have B6 := hide ((unhide B5).trans (hb6.mono (unhide B5).size)); have X6 := hide ((unhide X5).all hb6); have Z6 := hide ((unhide Z5).all hb6); have I6 := hide ((unhide I5).below hb6)
  clear hb6 B5 X5 Z5 I5 KCU2
  go_wp2_with fail
  refine (unhide KCM2 _).mono ?_
  rintro e w6' ⟨rfl, rfl⟩
  clear KCM2
  go_upto_region 11 with (fail)
  refine at_world (fun W => Below w.heap.size w W ∧ Box3 W w.heap.size (.bool na) (.slice ao l ca) (.int .i64 E) ∧ Box3 W g (.bool n3) (.slice a3 l3 c3) (.int .i64 X0) ∧ IsDy W (.agg #[.bool n3, .slice a3 l3 c3, .int .i64 X0]) M0 X0) ⟨unhide B6, unhide X6, unhide Z6, unhide I6⟩ ?_
  clear B6 X6 Z6 I6
  rintro W0 ⟨b0, x0, z0, i0⟩
  have hK : ∀ w', Below W0.heap.size W0 w' → Below W0.heap.size W0 w' ∧ w'.cell? ⟨w.heap.size, 0, none⟩ = some (.bool na) ∧ w'.cell? ⟨w.heap.size, 1, none⟩ = some (.slice ao l ca) ∧ w'.cell? ⟨w.heap.size, 2, none⟩ = some (.int .i64 E) ∧ w'.cell? ⟨g, 0, none⟩ = some (.bool n3) ∧ w'.cell? ⟨g, 1, none⟩ = some (.slice a3 l3 c3) ∧ w'.cell? ⟨g, 2, none⟩ = some (.int .i64 X0) := fun w' h => ⟨h, (x0.all h).c0, (x0.all h).c1, (x0.all h).c2, (z0.all h).c0, (z0.all h).c1, (z0.all h).c2⟩
  have HK := hide hK; have BB := hide b0; have I0 := hide i0
  have KD1 := hide (fun w' (h : Below W0.heap.size W0 w') => unhide KCD1 w' ((unhide BB).trans (h.mono (unhide BB).size)))
  clear KCD1
  have KD2 := hide (fun w' (h : Below W0.heap.size W0 w') => unhide KCD2 w' ((unhide BB).trans (h.mono (unhide BB).size)))
  clear KCD2
  clear hK b0 x0 z0 i0
  go_region_held3 (fun w' => Below W0.heap.size W0 w' ∧ w'.cell? ⟨w.heap.size, 0, none⟩ = some (.bool na) ∧ w'.cell? ⟨w.heap.size, 1, none⟩ = some (.slice ao l ca) ∧ w'.cell? ⟨w.heap.size, 2, none⟩ = some (.int .i64 E) ∧ w'.cell? ⟨g, 0, none⟩ = some (.bool n3) ∧ w'.cell? ⟨g, 1, none⟩ = some (.slice a3 l3 c3) ∧ w'.cell? ⟨g, 2, none⟩ = some (.int .i64 X0))
    (first | assumption | exact unhide HK _ (Below.refl _ _).drew | exact unhide HK _ (by assumption) | fail "NO KEEP")
    (first | (go_at_call 14; refine (unhide KCF1 _).mono ?_; rintro e wf ⟨rfl, rfl⟩; clear KCF1) | (go_at_call 14; refine (unhide KCF2 _).mono ?_; rintro e wf ⟨rfl, rfl⟩; clear KCF2) | (go_at_call 27; refine (unhide KD1 _ (And.left (by assumption))).mono ?_; rintro e wd ⟨u1, rfl, ⟨n1', a1', c1', L1', rfl, j1⟩, hb1⟩; have hB : Below W0.heap.size W0 wd := Below.trans (And.left (by assumption)) (hb1.mono (Below.size (And.left (by assumption)))); have J1 := hide (show IsDy wd (.agg #[.bool n1', .slice a1' L1'.length c1', .int .i64 X1]) M1 X1 from ⟨n1', a1', c1', L1', rfl, j1⟩); clear KD1 hb1 j1) | (go_at_call 24; refine (unhide KCC1 _ _ _ (unhide J1) ((unhide I0).below (And.left (by assumption)))).mono ?_; rintro e wc ⟨rfl, hb1⟩; have hB : Below W0.heap.size W0 wc := Below.trans (And.left (by assumption)) (hb1.mono (Below.size (And.left (by assumption)))); clear KCC1 J1 hb1) | (go_at_call 27; refine (unhide KD2 _ (And.left (by assumption))).mono ?_; rintro e wd ⟨u2, rfl, ⟨n2', a2', c2', L2', rfl, j2⟩, hb1⟩; have hB : Below W0.heap.size W0 wd := Below.trans (And.left (by assumption)) (hb1.mono (Below.size (And.left (by assumption)))); have J2 := hide (show IsDy wd (.agg #[.bool n2', .slice a2' L2'.length c2', .int .i64 X2]) M2 X2 from ⟨n2', a2', c2', L2', rfl, j2⟩); clear KD2 hb1 j2) | (go_at_call 24; refine (unhide KCC2 _ _ _ (unhide J2) ((unhide I0).below (And.left (by assumption)))).mono ?_; rintro e wc ⟨rfl, hb1⟩; have hB : Below W0.heap.size W0 wc := Below.trans (And.left (by assumption)) (hb1.mono (Below.size (And.left (by assumption)))); clear KCC2 J2 hb1) | fail "NO ARM")
  go_wp2_with fail
  refine (unhide KCW _ ((unhide BB).trans (Below.mono (And.left (by assumption)) (unhide BB).size))).mono ?_
  rintro e w9 ⟨rfl, hb9⟩
  have B9 := hide (((unhide BB).trans (Below.mono (And.left (by assumption)) (unhide BB).size)).trans (hb9.mono ((unhide BB).trans (Below.mono (And.left (by assumption)) (unhide BB).size)).size))
  clear hb9
  go_wp2
  go_ret
  exact ⟨rfl, unhide B9⟩

set_option maxHeartbeats 8000000 in
theorem softNearest_mft (na : Bool) (ao : Option Addr) (ca l R U P Q V : Nat) (E f M0 X0 M2 X2 c2 : Int) (w : World) (g1 : decide ((60 : Int) < l) = false) (h2 : decide (c2 < 0) = false)
    (CR : ∀ w', Below w.heap.size w w' → Calls Tryd.prog 21 #[.agg #[.bool na, .slice ao l ca, .int .i64 E]] w' fun r w'' => r = .returned (.bool true) ∧ Below w'.heap.size w' w'')
    (CO : ∀ w', Below w.heap.size w w' → Calls Tryd.prog 22 #[.agg #[.bool na, .slice ao l ca, .int .i64 E]] w' fun r w'' => r = .returned (.tuple #[.int .u64 R, .int .u8 f, .int .i64 0]) ∧ Below w'.heap.size w' w'')
    (CF : ∀ w', Calls Tryd.prog 14 #[.int .u64 R] w' fun r w'' => r = .returned (.bool true) ∧ w' = w'')
    (C0 : ∀ w', Below w.heap.size w w' → Calls Tryd.prog 27 #[.agg #[.bool na, .slice ao l ca, .int .i64 E], .int .u64 R] w' fun r w'' => ∃ v, r = .returned v ∧ IsDy w'' v M0 X0 ∧ Below w'.heap.size w' w'')
    (CU1 : ∀ w', Calls Tryd.prog 28 #[.int .u64 R] w' fun r w'' => r = .returned (.int .u64 U) ∧ Below w'.heap.size w' w'')
    (CM1 : ∀ w', Calls Tryd.prog 15 #[.int .u64 R] w' fun r w'' => r = .returned (.int .u64 P) ∧ w' = w'')
    (CU2 : ∀ w', Calls Tryd.prog 28 #[.int .u64 P] w' fun r w'' => r = .returned (.int .u64 Q) ∧ Below w'.heap.size w' w'')
    (CM2 : ∀ w', Calls Tryd.prog 15 #[.int .u64 Q] w' fun r w'' => r = .returned (.int .u64 V) ∧ w' = w'')
    (CF1 : ∀ w', Calls Tryd.prog 14 #[.int .u64 U] w' fun r w'' => r = .returned (.bool false) ∧ w' = w'')
    (CF2 : ∀ w', Calls Tryd.prog 14 #[.int .u64 V] w' fun r w'' => r = .returned (.bool true) ∧ w' = w'')
    (CD2 : ∀ w', Below w.heap.size w w' → Calls Tryd.prog 27 #[.agg #[.bool na, .slice ao l ca, .int .i64 E], .int .u64 V] w' fun r w'' => ∃ v, r = .returned v ∧ IsDy w'' v M2 X2 ∧ Below w'.heap.size w' w'')
    (CC2 : ∀ w' v u, IsDy w' v M2 X2 → IsDy w' u M0 X0 → Calls Tryd.prog 24 #[v, u] w' fun r w'' => r = .returned (.int .i64 c2) ∧ Below w'.heap.size w' w'')
    (CW : ∀ w', Below w.heap.size w w' → Calls Tryd.prog 17 #[] w' fun r w'' => r = .returned (.bool true) ∧ Below w'.heap.size w' w'') :
    Calls Tryd.prog 8 #[.agg #[.bool na, .slice ao l ca, .int .i64 E]] w fun r w' => r = .returned (.bool true) ∧ Below w.heap.size w w' := by
  have KCR := hide CR
  have KCO := hide CO
  have KCF := hide CF
  have KC0 := hide C0
  have KCU1 := hide CU1
  have KCM1 := hide CM1
  have KCU2 := hide CU2
  have KCM2 := hide CM2
  have KCF1 := hide CF1
  have KCF2 := hide CF2
  have KCD2 := hide CD2
  have KCC2 := hide CC2
  have KCW := hide CW
  clear CR CO CF C0 CU1 CM1 CU2 CM2 CF1 CF2 CD2 CC2 CW
  have B0 := hide ((Below.refl w.heap.size w).alloc (Nat.le_refl _) (.cells #[.bool na, .slice ao l ca, .int .i64 E] 32))
  have X0 := hide (Box3.new w (.bool na) (.slice ao l ca) (.int .i64 E))
  go_enter Tryd.func8, Tryd.ntmps8
  go_wp2_with fail
  refine (unhide KCR _ (unhide B0)).mono ?_
  rintro e w1 ⟨rfl, hb1⟩
  have x1 := (unhide X0).all hb1
  have B1 := hide ((unhide B0).trans (hb1.mono (unhide B0).size))
  have X1 := hide x1
  try clear y0 y1 y2
  have y0 := x1.c0; have y1 := x1.c1; have y2 := x1.c2
  clear hb1 x1 B0 X0
  go_wp2_with fail
  refine (unhide KCO _ (unhide B1)).mono ?_
  rintro e w2 ⟨rfl, hb2⟩
  have x2 := (unhide X1).all hb2
  have B2 := hide ((unhide B1).trans (hb2.mono (unhide B1).size))
  have X2 := hide x2
  try clear y0 y1 y2
  have y0 := x2.c0; have y1 := x2.c1; have y2 := x2.c2
  clear hb2 x2 B1 X1
  go_wp2_with (go_at_call 14; refine (unhide KCF _).mono ?_; rintro e wf ⟨rfl, rfl⟩)
  refine (unhide KC0 _ (unhide B2)).mono ?_
  rintro e w3 ⟨v3, rfl, hv3, hb3⟩
  obtain ⟨n3, a3, c3, L3, rfl, j3⟩ := hv3
  have hb4 : Below w3.heap.size w3 (w3.alloc (.cells #[.bool n3, .slice a3 L3.length c3, .int .i64 X0] 32)) := (Below.refl _ _).alloc (Nat.le_refl _) _
  have b3 := (unhide B2).trans (hb3.mono (unhide B2).size)
  have F4 := hide (show Below w.heap.size w (w3.alloc (.cells #[.bool n3, .slice a3 L3.length c3, .int .i64 X0] 32)) ∧ Box3 (w3.alloc (.cells #[.bool n3, .slice a3 L3.length c3, .int .i64 X0] 32)) w.heap.size (.bool na) (.slice ao l ca) (.int .i64 E) ∧ Box3 (w3.alloc (.cells #[.bool n3, .slice a3 L3.length c3, .int .i64 X0] 32)) w3.heap.size (.bool n3) (.slice a3 L3.length c3) (.int .i64 X0) ∧ IsDy (w3.alloc (.cells #[.bool n3, .slice a3 L3.length c3, .int .i64 X0] 32)) (.agg #[.bool n3, .slice a3 L3.length c3, .int .i64 X0]) M0 X0 from
    ⟨b3.trans (hb4.mono b3.size), ((unhide X2).all hb3).all hb4, Box3.new _ _ _ _, (show IsDy w3 (.agg #[.bool n3, .slice a3 L3.length c3, .int .i64 X0]) M0 X0 from ⟨n3, a3, c3, L3, rfl, j3⟩).below hb4⟩)
  clear hb3 hb4 b3 j3 B2 X2 y0 y1 y2 KC0 KCR KCO KCF
  generalize L3.length = l3 at *
  go_upto_region 9 with (fail)
  refine at_world (fun W => Below w.heap.size w W ∧ Box3 W w.heap.size (.bool na) (.slice ao l ca) (.int .i64 E) ∧ Box3 W w3.heap.size (.bool n3) (.slice a3 l3 c3) (.int .i64 X0) ∧ IsDy W (.agg #[.bool n3, .slice a3 l3 c3, .int .i64 X0]) M0 X0) (unhide F4) ?_
  clear F4
  generalize w3.heap.size = g at *
  rintro W4 ⟨b4, x4, z4, i4⟩
  have B4 := hide b4; have X4 := hide x4; have Z4 := hide z4; have I4 := hide i4
  clear b4 x4 z4 i4
  go_wp2_with fail
  refine (unhide KCU1 _).mono ?_
  rintro e w5 ⟨rfl, hb5⟩
  have B5 := hide ((unhide B4).trans (hb5.mono (unhide B4).size)); have X5 := hide ((unhide X4).all hb5); have Z5 := hide ((unhide Z4).all hb5); have I5 := hide ((unhide I4).below hb5)
  clear hb5 B4 X4 Z4 I4 KCU1
  go_wp2_with fail
  refine (unhide KCM1 _).mono ?_
  rintro e w5' ⟨rfl, rfl⟩
  clear KCM1
  go_wp2_with fail
  refine (unhide KCU2 _).mono ?_
  rintro e w6 ⟨rfl, hb6⟩
  have B6 := hide ((unhide B5).trans (hb6.mono (unhide B5).size)); have X6 := hide ((unhide X5).all hb6); have Z6 := hide ((unhide Z5).all hb6); have I6 := hide ((unhide I5).below hb6)
  clear hb6 B5 X5 Z5 I5 KCU2
  go_wp2_with fail
  refine (unhide KCM2 _).mono ?_
  rintro e w6' ⟨rfl, rfl⟩
  clear KCM2
  go_upto_region 11 with (fail)
  refine at_world (fun W => Below w.heap.size w W ∧ Box3 W w.heap.size (.bool na) (.slice ao l ca) (.int .i64 E) ∧ Box3 W g (.bool n3) (.slice a3 l3 c3) (.int .i64 X0) ∧ IsDy W (.agg #[.bool n3, .slice a3 l3 c3, .int .i64 X0]) M0 X0) ⟨unhide B6, unhide X6, unhide Z6, unhide I6⟩ ?_
  clear B6 X6 Z6 I6
  rintro W0 ⟨b0, x0, z0, i0⟩
  have hK : ∀ w', Below W0.heap.size W0 w' → Below W0.heap.size W0 w' ∧ w'.cell? ⟨w.heap.size, 0, none⟩ = some (.bool na) ∧ w'.cell? ⟨w.heap.size, 1, none⟩ = some (.slice ao l ca) ∧ w'.cell? ⟨w.heap.size, 2, none⟩ = some (.int .i64 E) ∧ w'.cell? ⟨g, 0, none⟩ = some (.bool n3) ∧ w'.cell? ⟨g, 1, none⟩ = some (.slice a3 l3 c3) ∧ w'.cell? ⟨g, 2, none⟩ = some (.int .i64 X0) := fun w' h => ⟨h, (x0.all h).c0, (x0.all h).c1, (x0.all h).c2, (z0.all h).c0, (z0.all h).c1, (z0.all h).c2⟩
  have HK := hide hK; have BB := hide b0; have I0 := hide i0
  have KD2 := hide (fun w' (h : Below W0.heap.size W0 w') => unhide KCD2 w' ((unhide BB).trans (h.mono (unhide BB).size)))
  clear KCD2
  clear hK b0 x0 z0 i0
  refine wp_region_held_drew (S := (fun w' => Below W0.heap.size W0 w' ∧ w'.cell? ⟨w.heap.size, 0, none⟩ = some (.bool na) ∧ w'.cell? ⟨w.heap.size, 1, none⟩ = some (.slice ao l ca) ∧ w'.cell? ⟨w.heap.size, 2, none⟩ = some (.int .i64 E) ∧ w'.cell? ⟨g, 0, none⟩ = some (.bool n3) ∧ w'.cell? ⟨g, 1, none⟩ = some (.slice a3 l3 c3) ∧ w'.cell? ⟨g, 2, none⟩ = some (.int .i64 X0))) (by kernel_rfl) ?_ (fun hHeld => ?_)
  · exact unhide HK _ (Below.refl _ _).drew
  refine wpAnyH_take (i := 0) (oi := { dst := some 46, op := Op.move (Operand.tmp 7), type := 23, pos := "law.go:91", after := #[], guard := none }) (v := (.int .u64 U)) rfl (by kernel_rfl) (by kernel_rfl) (by kernel_rfl) (fun _ _ _ h => h) (Or.inl ⟨by rfl, ?_⟩) (by assumption) ?_
  · (intro w hSw; (try dsimp only at hSw); go_simp)
  simp only [Act.put, List.setIfInBounds_toArray, List.set_cons_zero, List.set_cons_succ]
  refine wpAnyH_ready (rs := [1]) (by kernel_rfl) (by simp) ?_
  refine AllReadyH.cons (o := { dst := some 47, op := Op.call { callee := Callee.value (Operand.func 14), args := #[Operand.tmp 46], argTypes := #[23] }, type := 4, pos := "law.go:91", after := #[{ on := 0, ground := Ground.data }], guard := none }) rfl (fun K hK => ?_) AllReadyH.nil
  go_simp
  refine (unhide KCF1 _).mono ?_
  rintro e wf ⟨rfl, rfl⟩
  go_wp2_with fail
  refine hK.out _ _ ?_ (fun hHeld => ?_)
  · exact by assumption
  clear hK K
  refine wpAnyH_take (i := 2) (oi := { dst := some 48, op := Op.move (Operand.tmp 47), type := 4, pos := "law.go:91", after := #[{ on := 1, ground := Ground.data }, { on := 1, ground := Ground.chain }], guard := none }) (v := (.bool false)) rfl (by kernel_rfl) (by kernel_rfl) (by kernel_rfl) (fun _ _ _ h => h) (Or.inl ⟨by rfl, ?_⟩) (by assumption) ?_
  · (intro w hSw; (try dsimp only at hSw); go_simp)
  simp only [Act.put, List.setIfInBounds_toArray, List.set_cons_zero, List.set_cons_succ]
  refine wpAnyH_take (i := 3) (oi := { dst := some 49, op := Op.load 32 (Operand.tmp 1), type := 32, pos := "law.go:91", after := #[{ on := 2, ground := Ground.guard }], guard := some (2, true) }) (v := undef) rfl (by kernel_rfl) (by kernel_rfl) (by kernel_rfl) (fun _ _ _ h => h) (Or.inr ⟨by rfl, rfl⟩) (by assumption) ?_
  simp only [Act.put, List.setIfInBounds_toArray, List.set_cons_zero, List.set_cons_succ]
  refine wpAnyH_take (i := 4) (oi := { dst := some 50, op := Op.move (Operand.tmp 7), type := 23, pos := "law.go:91", after := #[{ on := 2, ground := Ground.guard }], guard := some (2, true) }) (v := undef) rfl (by kernel_rfl) (by kernel_rfl) (by kernel_rfl) (fun _ _ _ h => h) (Or.inr ⟨by rfl, rfl⟩) (by assumption) ?_
  simp only [Act.put, List.setIfInBounds_toArray, List.set_cons_zero, List.set_cons_succ]
  refine wpAnyH_take (i := 5) (oi := { dst := some 51, op := Op.call { callee := Callee.value (Operand.func 27), args := #[Operand.tmp 49, Operand.tmp 50], argTypes := #[32, 23] }, type := 32, pos := "law.go:91", after := #[{ on := 3, ground := Ground.data }, { on := 4, ground := Ground.data }, { on := 2, ground := Ground.chain }, { on := 2, ground := Ground.guard }], guard := some (2, true) }) (v := undef) rfl (by kernel_rfl) (by kernel_rfl) (by kernel_rfl) (fun _ _ _ h => h) (Or.inr ⟨by rfl, rfl⟩) (by assumption) ?_
  simp only [Act.put, List.setIfInBounds_toArray, List.set_cons_zero, List.set_cons_succ]
  refine wpAnyH_take (i := 6) (oi := { dst := some 52, op := Op.load 32 (Operand.tmp 6), type := 32, pos := "law.go:91", after := #[{ on := 2, ground := Ground.guard }], guard := some (2, true) }) (v := undef) rfl (by kernel_rfl) (by kernel_rfl) (by kernel_rfl) (fun _ _ _ h => h) (Or.inr ⟨by rfl, rfl⟩) (by assumption) ?_
  simp only [Act.put, List.setIfInBounds_toArray, List.set_cons_zero, List.set_cons_succ]
  refine wpAnyH_take (i := 7) (oi := { dst := some 53, op := Op.call { callee := Callee.value (Operand.func 24), args := #[Operand.tmp 51, Operand.tmp 52], argTypes := #[32, 32] }, type := 3, pos := "law.go:91", after := #[{ on := 5, ground := Ground.data }, { on := 6, ground := Ground.data }, { on := 5, ground := Ground.chain }, { on := 2, ground := Ground.guard }], guard := some (2, true) }) (v := undef) rfl (by kernel_rfl) (by kernel_rfl) (by kernel_rfl) (fun _ _ _ h => h) (Or.inr ⟨by rfl, rfl⟩) (by assumption) ?_
  simp only [Act.put, List.setIfInBounds_toArray, List.set_cons_zero, List.set_cons_succ]
  refine wpAnyH_take (i := 8) (oi := { dst := some 54, op := Op.binOp BinOp.lss 3 (Operand.tmp 53) (Operand.const (Value.int IntKind.i64 0)) 3, type := 4, pos := "law.go:91", after := #[{ on := 7, ground := Ground.data }, { on := 2, ground := Ground.guard }], guard := some (2, true) }) (v := undef) rfl (by kernel_rfl) (by kernel_rfl) (by kernel_rfl) (fun _ _ _ h => h) (Or.inr ⟨by rfl, rfl⟩) (by assumption) ?_
  simp only [Act.put, List.setIfInBounds_toArray, List.set_cons_zero, List.set_cons_succ]
  refine wpAnyH_take (i := 9) (oi := { dst := some 55, op := Op.pick (Operand.tmp 48) (Operand.tmp 54) (Operand.const (Value.bool false)), type := 4, pos := "law.go:91", after := #[{ on := 2, ground := Ground.data }, { on := 8, ground := Ground.data }], guard := none }) (v := (.bool false)) rfl (by kernel_rfl) (by kernel_rfl) (by kernel_rfl) (fun _ _ _ h => h) (Or.inl ⟨by rfl, ?_⟩) (by assumption) ?_
  · (intro w hSw; (try dsimp only at hSw); go_simp)
  simp only [Act.put, List.setIfInBounds_toArray, List.set_cons_zero, List.set_cons_succ]
  refine wpAnyH_take (i := 10) (oi := { dst := some 56, op := Op.move (Operand.tmp 55), type := 4, pos := "law.go:91", after := #[{ on := 9, ground := Ground.data }, { on := 7, ground := Ground.chain }], guard := none }) (v := (.bool false)) rfl (by kernel_rfl) (by kernel_rfl) (by kernel_rfl) (fun _ _ _ h => h) (Or.inl ⟨by rfl, ?_⟩) (by assumption) ?_
  · (intro w hSw; (try dsimp only at hSw); go_simp)
  simp only [Act.put, List.setIfInBounds_toArray, List.set_cons_zero, List.set_cons_succ]
  refine wpAnyH_take (i := 11) (oi := { dst := some 57, op := Op.move (Operand.tmp 8), type := 23, pos := "law.go:91", after := #[{ on := 10, ground := Ground.guard }], guard := some (10, false) }) (v := (.int .u64 V)) rfl (by kernel_rfl) (by kernel_rfl) (by kernel_rfl) (fun _ _ _ h => h) (Or.inl ⟨by rfl, ?_⟩) (by assumption) ?_
  · (intro w hSw; (try dsimp only at hSw); go_simp)
  simp only [Act.put, List.setIfInBounds_toArray, List.set_cons_zero, List.set_cons_succ]
  refine wpAnyH_ready (rs := [12]) (by kernel_rfl) (by simp) ?_
  refine AllReadyH.cons (o := { dst := some 58, op := Op.call { callee := Callee.value (Operand.func 14), args := #[Operand.tmp 57], argTypes := #[23] }, type := 4, pos := "law.go:91", after := #[{ on := 11, ground := Ground.data }, { on := 10, ground := Ground.chain }, { on := 10, ground := Ground.guard }], guard := some (10, false) }) rfl (fun K hK => ?_) AllReadyH.nil
  go_simp
  refine (unhide KCF2 _).mono ?_
  rintro e wf ⟨rfl, rfl⟩
  go_wp2_with fail
  refine hK.out _ _ ?_ (fun hHeld => ?_)
  · exact by assumption
  clear hK K
  refine wpAnyH_take (i := 13) (oi := { dst := some 59, op := Op.move (Operand.tmp 58), type := 4, pos := "law.go:91", after := #[{ on := 12, ground := Ground.data }, { on := 12, ground := Ground.chain }, { on := 10, ground := Ground.guard }], guard := some (10, false) }) (v := (.bool true)) rfl (by kernel_rfl) (by kernel_rfl) (by kernel_rfl) (fun _ _ _ h => h) (Or.inl ⟨by rfl, ?_⟩) (by assumption) ?_
  · (intro w hSw; (try dsimp only at hSw); go_simp)
  simp only [Act.put, List.setIfInBounds_toArray, List.set_cons_zero, List.set_cons_succ]
  refine wpAnyH_take (i := 14) (oi := { dst := some 60, op := Op.load 32 (Operand.tmp 1), type := 32, pos := "law.go:91", after := #[{ on := 13, ground := Ground.guard }], guard := some (13, true) }) (v := (.agg #[.bool na, .slice ao l ca, .int .i64 E])) rfl (by kernel_rfl) (by kernel_rfl) (by kernel_rfl) (fun _ _ _ h => h) (Or.inl ⟨by rfl, ?_⟩) (by assumption) ?_
  · (intro w hSw; (try dsimp only at hSw); go_simp)
  simp only [Act.put, List.setIfInBounds_toArray, List.set_cons_zero, List.set_cons_succ]
  refine wpAnyH_take (i := 15) (oi := { dst := some 61, op := Op.move (Operand.tmp 8), type := 23, pos := "law.go:91", after := #[{ on := 13, ground := Ground.guard }], guard := some (13, true) }) (v := (.int .u64 V)) rfl (by kernel_rfl) (by kernel_rfl) (by kernel_rfl) (fun _ _ _ h => h) (Or.inl ⟨by rfl, ?_⟩) (by assumption) ?_
  · (intro w hSw; (try dsimp only at hSw); go_simp)
  simp only [Act.put, List.setIfInBounds_toArray, List.set_cons_zero, List.set_cons_succ]
  refine wpAnyH_take (i := 17) (oi := { dst := some 63, op := Op.load 32 (Operand.tmp 6), type := 32, pos := "law.go:91", after := #[{ on := 13, ground := Ground.guard }], guard := some (13, true) }) (v := (.agg #[.bool n3, .slice a3 l3 c3, .int .i64 X0])) rfl (by kernel_rfl) (by kernel_rfl) (by kernel_rfl) (fun _ _ _ h => h) (Or.inl ⟨by rfl, ?_⟩) (by assumption) ?_
  · (intro w hSw; (try dsimp only at hSw); go_simp)
  simp only [Act.put, List.setIfInBounds_toArray, List.set_cons_zero, List.set_cons_succ]
  refine wpAnyH_ready (rs := [16]) (by kernel_rfl) (by simp) ?_
  refine AllReadyH.cons (o := { dst := some 62, op := Op.call { callee := Callee.value (Operand.func 27), args := #[Operand.tmp 60, Operand.tmp 61], argTypes := #[32, 23] }, type := 32, pos := "law.go:91", after := #[{ on := 14, ground := Ground.data }, { on := 15, ground := Ground.data }, { on := 13, ground := Ground.chain }, { on := 13, ground := Ground.guard }], guard := some (13, true) }) rfl (fun K hK => ?_) AllReadyH.nil
  go_simp
  refine (unhide KD2 _ (And.left (by assumption))).mono ?_
  rintro e wd ⟨u2, rfl, ⟨n2', a2', c2', L2', rfl, j2⟩, hb1⟩; have hB : Below W0.heap.size W0 wd := Below.trans (And.left (by assumption)) (hb1.mono (Below.size (And.left (by assumption)))); have J2 := hide (show IsDy wd (.agg #[.bool n2', .slice a2' L2'.length c2', .int .i64 X2]) M2 X2 from ⟨n2', a2', c2', L2', rfl, j2⟩); clear hb1 j2
  go_wp2_with fail
  refine hK.out _ _ ?_ (fun hHeld => ?_)
  · exact unhide HK _ hB
  clear hK K
  refine wpAnyH_ready (rs := [18]) (by kernel_rfl) (by simp) ?_
  refine AllReadyH.cons (o := { dst := some 64, op := Op.call { callee := Callee.value (Operand.func 24), args := #[Operand.tmp 62, Operand.tmp 63], argTypes := #[32, 32] }, type := 3, pos := "law.go:91", after := #[{ on := 16, ground := Ground.data }, { on := 17, ground := Ground.data }, { on := 16, ground := Ground.chain }, { on := 13, ground := Ground.guard }], guard := some (13, true) }) rfl (fun K hK => ?_) AllReadyH.nil
  go_simp
  refine (unhide KCC2 _ _ _ (unhide J2) ((unhide I0).below (And.left (by assumption)))).mono ?_
  rintro e wc ⟨rfl, hb1⟩; have hC : Below W0.heap.size W0 wc := Below.trans (And.left (by assumption)) (hb1.mono (Below.size (And.left (by assumption)))); clear hb1
  go_wp2_with fail
  refine hK.out _ _ ?_ (fun hHeld => ?_)
  · exact unhide HK _ hC
  clear hK K
  refine wpAnyH_take (i := 19) (oi := { dst := some 65, op := Op.binOp BinOp.lss 3 (Operand.tmp 64) (Operand.const (Value.int IntKind.i64 0)) 3, type := 4, pos := "law.go:91", after := #[{ on := 18, ground := Ground.data }, { on := 13, ground := Ground.guard }], guard := some (13, true) }) (v := (.bool false)) rfl (by kernel_rfl) (by kernel_rfl) (by kernel_rfl) (fun _ _ _ h => h) (Or.inl ⟨by rfl, ?_⟩) (by assumption) ?_
  · (intro w hSw; (try dsimp only at hSw); go_simp)
  simp only [Act.put, List.setIfInBounds_toArray, List.set_cons_zero, List.set_cons_succ]
  refine wpAnyH_take (i := 20) (oi := { dst := some 66, op := Op.pick (Operand.tmp 59) (Operand.tmp 65) (Operand.const (Value.bool false)), type := 4, pos := "law.go:91", after := #[{ on := 13, ground := Ground.data }, { on := 19, ground := Ground.data }, { on := 10, ground := Ground.guard }], guard := some (10, false) }) (v := (.bool false)) rfl (by kernel_rfl) (by kernel_rfl) (by kernel_rfl) (fun _ _ _ h => h) (Or.inl ⟨by rfl, ?_⟩) (by assumption) ?_
  · (intro w hSw; (try dsimp only at hSw); go_simp)
  simp only [Act.put, List.setIfInBounds_toArray, List.set_cons_zero, List.set_cons_succ]
  refine wpAnyH_take (i := 21) (oi := { dst := some 67, op := Op.pick (Operand.tmp 56) (Operand.const (Value.bool true)) (Operand.tmp 66), type := 4, pos := "law.go:91", after := #[{ on := 10, ground := Ground.data }, { on := 20, ground := Ground.data }], guard := none }) (v := (.bool false)) rfl (by kernel_rfl) (by kernel_rfl) (by kernel_rfl) (fun _ _ _ h => h) (Or.inl ⟨by rfl, ?_⟩) (by assumption) ?_
  · (intro w hSw; (try dsimp only at hSw); go_simp)
  simp only [Act.put, List.setIfInBounds_toArray, List.set_cons_zero, List.set_cons_succ]
  refine wpAnyH_done (by kernel_rfl) ?_ _
  go_wp2_with fail
  refine (unhide KCW _ ((unhide BB).trans (Below.mono (And.left (by assumption)) (unhide BB).size))).mono ?_
  rintro e w9 ⟨rfl, hb9⟩
  have B9 := hide (((unhide BB).trans (Below.mono (And.left (by assumption)) (unhide BB).size)).trans (hb9.mono ((unhide BB).trans (Below.mono (And.left (by assumption)) (unhide BB).size)).size))
  clear hb9
  go_wp2
  go_ret
  exact ⟨rfl, unhide B9⟩

set_option maxHeartbeats 8000000 in
theorem softNearest_mtf (na : Bool) (ao : Option Addr) (ca l R U P Q V : Nat) (E f M0 X0 M1 X1 c1 : Int) (w : World) (g1 : decide ((60 : Int) < l) = false) (h1 : decide (c1 < 0) = false)
    (CR : ∀ w', Below w.heap.size w w' → Calls Tryd.prog 21 #[.agg #[.bool na, .slice ao l ca, .int .i64 E]] w' fun r w'' => r = .returned (.bool true) ∧ Below w'.heap.size w' w'')
    (CO : ∀ w', Below w.heap.size w w' → Calls Tryd.prog 22 #[.agg #[.bool na, .slice ao l ca, .int .i64 E]] w' fun r w'' => r = .returned (.tuple #[.int .u64 R, .int .u8 f, .int .i64 0]) ∧ Below w'.heap.size w' w'')
    (CF : ∀ w', Calls Tryd.prog 14 #[.int .u64 R] w' fun r w'' => r = .returned (.bool true) ∧ w' = w'')
    (C0 : ∀ w', Below w.heap.size w w' → Calls Tryd.prog 27 #[.agg #[.bool na, .slice ao l ca, .int .i64 E], .int .u64 R] w' fun r w'' => ∃ v, r = .returned v ∧ IsDy w'' v M0 X0 ∧ Below w'.heap.size w' w'')
    (CU1 : ∀ w', Calls Tryd.prog 28 #[.int .u64 R] w' fun r w'' => r = .returned (.int .u64 U) ∧ Below w'.heap.size w' w'')
    (CM1 : ∀ w', Calls Tryd.prog 15 #[.int .u64 R] w' fun r w'' => r = .returned (.int .u64 P) ∧ w' = w'')
    (CU2 : ∀ w', Calls Tryd.prog 28 #[.int .u64 P] w' fun r w'' => r = .returned (.int .u64 Q) ∧ Below w'.heap.size w' w'')
    (CM2 : ∀ w', Calls Tryd.prog 15 #[.int .u64 Q] w' fun r w'' => r = .returned (.int .u64 V) ∧ w' = w'')
    (CF1 : ∀ w', Calls Tryd.prog 14 #[.int .u64 U] w' fun r w'' => r = .returned (.bool true) ∧ w' = w'')
    (CF2 : ∀ w', Calls Tryd.prog 14 #[.int .u64 V] w' fun r w'' => r = .returned (.bool false) ∧ w' = w'')
    (CD1 : ∀ w', Below w.heap.size w w' → Calls Tryd.prog 27 #[.agg #[.bool na, .slice ao l ca, .int .i64 E], .int .u64 U] w' fun r w'' => ∃ v, r = .returned v ∧ IsDy w'' v M1 X1 ∧ Below w'.heap.size w' w'')
    (CC1 : ∀ w' v u, IsDy w' v M1 X1 → IsDy w' u M0 X0 → Calls Tryd.prog 24 #[v, u] w' fun r w'' => r = .returned (.int .i64 c1) ∧ Below w'.heap.size w' w'')
    (CW : ∀ w', Below w.heap.size w w' → Calls Tryd.prog 17 #[] w' fun r w'' => r = .returned (.bool true) ∧ Below w'.heap.size w' w'') :
    Calls Tryd.prog 8 #[.agg #[.bool na, .slice ao l ca, .int .i64 E]] w fun r w' => r = .returned (.bool true) ∧ Below w.heap.size w w' := by
  have KCR := hide CR
  have KCO := hide CO
  have KCF := hide CF
  have KC0 := hide C0
  have KCU1 := hide CU1
  have KCM1 := hide CM1
  have KCU2 := hide CU2
  have KCM2 := hide CM2
  have KCF1 := hide CF1
  have KCF2 := hide CF2
  have KCD1 := hide CD1
  have KCC1 := hide CC1
  have KCW := hide CW
  clear CR CO CF C0 CU1 CM1 CU2 CM2 CF1 CF2 CD1 CC1 CW
  have B0 := hide ((Below.refl w.heap.size w).alloc (Nat.le_refl _) (.cells #[.bool na, .slice ao l ca, .int .i64 E] 32))
  have X0 := hide (Box3.new w (.bool na) (.slice ao l ca) (.int .i64 E))
  go_enter Tryd.func8, Tryd.ntmps8
  go_wp2_with fail
  refine (unhide KCR _ (unhide B0)).mono ?_
  rintro e w1 ⟨rfl, hb1⟩
  have x1 := (unhide X0).all hb1
  have B1 := hide ((unhide B0).trans (hb1.mono (unhide B0).size))
  have X1 := hide x1
  try clear y0 y1 y2
  have y0 := x1.c0; have y1 := x1.c1; have y2 := x1.c2
  clear hb1 x1 B0 X0
  go_wp2_with fail
  refine (unhide KCO _ (unhide B1)).mono ?_
  rintro e w2 ⟨rfl, hb2⟩
  have x2 := (unhide X1).all hb2
  have B2 := hide ((unhide B1).trans (hb2.mono (unhide B1).size))
  have X2 := hide x2
  try clear y0 y1 y2
  have y0 := x2.c0; have y1 := x2.c1; have y2 := x2.c2
  clear hb2 x2 B1 X1
  go_wp2_with (go_at_call 14; refine (unhide KCF _).mono ?_; rintro e wf ⟨rfl, rfl⟩)
  refine (unhide KC0 _ (unhide B2)).mono ?_
  rintro e w3 ⟨v3, rfl, hv3, hb3⟩
  obtain ⟨n3, a3, c3, L3, rfl, j3⟩ := hv3
  have hb4 : Below w3.heap.size w3 (w3.alloc (.cells #[.bool n3, .slice a3 L3.length c3, .int .i64 X0] 32)) := (Below.refl _ _).alloc (Nat.le_refl _) _
  have b3 := (unhide B2).trans (hb3.mono (unhide B2).size)
  have F4 := hide (show Below w.heap.size w (w3.alloc (.cells #[.bool n3, .slice a3 L3.length c3, .int .i64 X0] 32)) ∧ Box3 (w3.alloc (.cells #[.bool n3, .slice a3 L3.length c3, .int .i64 X0] 32)) w.heap.size (.bool na) (.slice ao l ca) (.int .i64 E) ∧ Box3 (w3.alloc (.cells #[.bool n3, .slice a3 L3.length c3, .int .i64 X0] 32)) w3.heap.size (.bool n3) (.slice a3 L3.length c3) (.int .i64 X0) ∧ IsDy (w3.alloc (.cells #[.bool n3, .slice a3 L3.length c3, .int .i64 X0] 32)) (.agg #[.bool n3, .slice a3 L3.length c3, .int .i64 X0]) M0 X0 from
    ⟨b3.trans (hb4.mono b3.size), ((unhide X2).all hb3).all hb4, Box3.new _ _ _ _, (show IsDy w3 (.agg #[.bool n3, .slice a3 L3.length c3, .int .i64 X0]) M0 X0 from ⟨n3, a3, c3, L3, rfl, j3⟩).below hb4⟩)
  clear hb3 hb4 b3 j3 B2 X2 y0 y1 y2 KC0 KCR KCO KCF
  generalize L3.length = l3 at *
  go_upto_region 9 with (fail)
  refine at_world (fun W => Below w.heap.size w W ∧ Box3 W w.heap.size (.bool na) (.slice ao l ca) (.int .i64 E) ∧ Box3 W w3.heap.size (.bool n3) (.slice a3 l3 c3) (.int .i64 X0) ∧ IsDy W (.agg #[.bool n3, .slice a3 l3 c3, .int .i64 X0]) M0 X0) (unhide F4) ?_
  clear F4
  generalize w3.heap.size = g at *
  rintro W4 ⟨b4, x4, z4, i4⟩
  have B4 := hide b4; have X4 := hide x4; have Z4 := hide z4; have I4 := hide i4
  clear b4 x4 z4 i4
  go_wp2_with fail
  refine (unhide KCU1 _).mono ?_
  rintro e w5 ⟨rfl, hb5⟩
  have B5 := hide ((unhide B4).trans (hb5.mono (unhide B4).size)); have X5 := hide ((unhide X4).all hb5); have Z5 := hide ((unhide Z4).all hb5); have I5 := hide ((unhide I4).below hb5)
  clear hb5 B4 X4 Z4 I4 KCU1
  go_wp2_with fail
  refine (unhide KCM1 _).mono ?_
  rintro e w5' ⟨rfl, rfl⟩
  clear KCM1
  go_wp2_with fail
  refine (unhide KCU2 _).mono ?_
  rintro e w6 ⟨rfl, hb6⟩
  have B6 := hide ((unhide B5).trans (hb6.mono (unhide B5).size)); have X6 := hide ((unhide X5).all hb6); have Z6 := hide ((unhide Z5).all hb6); have I6 := hide ((unhide I5).below hb6)
  clear hb6 B5 X5 Z5 I5 KCU2
  go_wp2_with fail
  refine (unhide KCM2 _).mono ?_
  rintro e w6' ⟨rfl, rfl⟩
  clear KCM2
  go_upto_region 11 with (fail)
  refine at_world (fun W => Below w.heap.size w W ∧ Box3 W w.heap.size (.bool na) (.slice ao l ca) (.int .i64 E) ∧ Box3 W g (.bool n3) (.slice a3 l3 c3) (.int .i64 X0) ∧ IsDy W (.agg #[.bool n3, .slice a3 l3 c3, .int .i64 X0]) M0 X0) ⟨unhide B6, unhide X6, unhide Z6, unhide I6⟩ ?_
  clear B6 X6 Z6 I6
  rintro W0 ⟨b0, x0, z0, i0⟩
  have hK : ∀ w', Below W0.heap.size W0 w' → Below W0.heap.size W0 w' ∧ w'.cell? ⟨w.heap.size, 0, none⟩ = some (.bool na) ∧ w'.cell? ⟨w.heap.size, 1, none⟩ = some (.slice ao l ca) ∧ w'.cell? ⟨w.heap.size, 2, none⟩ = some (.int .i64 E) ∧ w'.cell? ⟨g, 0, none⟩ = some (.bool n3) ∧ w'.cell? ⟨g, 1, none⟩ = some (.slice a3 l3 c3) ∧ w'.cell? ⟨g, 2, none⟩ = some (.int .i64 X0) := fun w' h => ⟨h, (x0.all h).c0, (x0.all h).c1, (x0.all h).c2, (z0.all h).c0, (z0.all h).c1, (z0.all h).c2⟩
  have HK := hide hK; have BB := hide b0; have I0 := hide i0
  have KD1 := hide (fun w' (h : Below W0.heap.size W0 w') => unhide KCD1 w' ((unhide BB).trans (h.mono (unhide BB).size)))
  clear KCD1
  clear hK b0 x0 z0 i0
  refine wp_region_held_drew (S := (fun w' => Below W0.heap.size W0 w' ∧ w'.cell? ⟨w.heap.size, 0, none⟩ = some (.bool na) ∧ w'.cell? ⟨w.heap.size, 1, none⟩ = some (.slice ao l ca) ∧ w'.cell? ⟨w.heap.size, 2, none⟩ = some (.int .i64 E) ∧ w'.cell? ⟨g, 0, none⟩ = some (.bool n3) ∧ w'.cell? ⟨g, 1, none⟩ = some (.slice a3 l3 c3) ∧ w'.cell? ⟨g, 2, none⟩ = some (.int .i64 X0))) (by kernel_rfl) ?_ (fun hHeld => ?_)
  · exact unhide HK _ (Below.refl _ _).drew
  refine wpAnyH_take (i := 0) (oi := { dst := some 46, op := Op.move (Operand.tmp 7), type := 23, pos := "law.go:91", after := #[], guard := none }) (v := (.int .u64 U)) rfl (by kernel_rfl) (by kernel_rfl) (by kernel_rfl) (fun _ _ _ h => h) (Or.inl ⟨by rfl, ?_⟩) (by assumption) ?_
  · (intro w hSw; (try dsimp only at hSw); go_simp)
  simp only [Act.put, List.setIfInBounds_toArray, List.set_cons_zero, List.set_cons_succ]
  refine wpAnyH_ready (rs := [1]) (by kernel_rfl) (by simp) ?_
  refine AllReadyH.cons (o := { dst := some 47, op := Op.call { callee := Callee.value (Operand.func 14), args := #[Operand.tmp 46], argTypes := #[23] }, type := 4, pos := "law.go:91", after := #[{ on := 0, ground := Ground.data }], guard := none }) rfl (fun K hK => ?_) AllReadyH.nil
  go_simp
  refine (unhide KCF1 _).mono ?_
  rintro e wf ⟨rfl, rfl⟩
  go_wp2_with fail
  refine hK.out _ _ ?_ (fun hHeld => ?_)
  · exact by assumption
  clear hK K
  refine wpAnyH_take (i := 2) (oi := { dst := some 48, op := Op.move (Operand.tmp 47), type := 4, pos := "law.go:91", after := #[{ on := 1, ground := Ground.data }, { on := 1, ground := Ground.chain }], guard := none }) (v := (.bool true)) rfl (by kernel_rfl) (by kernel_rfl) (by kernel_rfl) (fun _ _ _ h => h) (Or.inl ⟨by rfl, ?_⟩) (by assumption) ?_
  · (intro w hSw; (try dsimp only at hSw); go_simp)
  simp only [Act.put, List.setIfInBounds_toArray, List.set_cons_zero, List.set_cons_succ]
  refine wpAnyH_take (i := 3) (oi := { dst := some 49, op := Op.load 32 (Operand.tmp 1), type := 32, pos := "law.go:91", after := #[{ on := 2, ground := Ground.guard }], guard := some (2, true) }) (v := (.agg #[.bool na, .slice ao l ca, .int .i64 E])) rfl (by kernel_rfl) (by kernel_rfl) (by kernel_rfl) (fun _ _ _ h => h) (Or.inl ⟨by rfl, ?_⟩) (by assumption) ?_
  · (intro w hSw; (try dsimp only at hSw); go_simp)
  simp only [Act.put, List.setIfInBounds_toArray, List.set_cons_zero, List.set_cons_succ]
  refine wpAnyH_take (i := 4) (oi := { dst := some 50, op := Op.move (Operand.tmp 7), type := 23, pos := "law.go:91", after := #[{ on := 2, ground := Ground.guard }], guard := some (2, true) }) (v := (.int .u64 U)) rfl (by kernel_rfl) (by kernel_rfl) (by kernel_rfl) (fun _ _ _ h => h) (Or.inl ⟨by rfl, ?_⟩) (by assumption) ?_
  · (intro w hSw; (try dsimp only at hSw); go_simp)
  simp only [Act.put, List.setIfInBounds_toArray, List.set_cons_zero, List.set_cons_succ]
  refine wpAnyH_take (i := 6) (oi := { dst := some 52, op := Op.load 32 (Operand.tmp 6), type := 32, pos := "law.go:91", after := #[{ on := 2, ground := Ground.guard }], guard := some (2, true) }) (v := (.agg #[.bool n3, .slice a3 l3 c3, .int .i64 X0])) rfl (by kernel_rfl) (by kernel_rfl) (by kernel_rfl) (fun _ _ _ h => h) (Or.inl ⟨by rfl, ?_⟩) (by assumption) ?_
  · (intro w hSw; (try dsimp only at hSw); go_simp)
  simp only [Act.put, List.setIfInBounds_toArray, List.set_cons_zero, List.set_cons_succ]
  refine wpAnyH_ready (rs := [5]) (by kernel_rfl) (by simp) ?_
  refine AllReadyH.cons (o := { dst := some 51, op := Op.call { callee := Callee.value (Operand.func 27), args := #[Operand.tmp 49, Operand.tmp 50], argTypes := #[32, 23] }, type := 32, pos := "law.go:91", after := #[{ on := 3, ground := Ground.data }, { on := 4, ground := Ground.data }, { on := 2, ground := Ground.chain }, { on := 2, ground := Ground.guard }], guard := some (2, true) }) rfl (fun K hK => ?_) AllReadyH.nil
  go_simp
  refine (unhide KD1 _ (And.left (by assumption))).mono ?_
  rintro e wd ⟨u1, rfl, ⟨n1', a1', c1', L1', rfl, j1⟩, hb1⟩; have hB : Below W0.heap.size W0 wd := Below.trans (And.left (by assumption)) (hb1.mono (Below.size (And.left (by assumption)))); have J1 := hide (show IsDy wd (.agg #[.bool n1', .slice a1' L1'.length c1', .int .i64 X1]) M1 X1 from ⟨n1', a1', c1', L1', rfl, j1⟩); clear hb1 j1
  go_wp2_with fail
  refine hK.out _ _ ?_ (fun hHeld => ?_)
  · exact unhide HK _ hB
  clear hK K
  refine wpAnyH_ready (rs := [7]) (by kernel_rfl) (by simp) ?_
  refine AllReadyH.cons (o := { dst := some 53, op := Op.call { callee := Callee.value (Operand.func 24), args := #[Operand.tmp 51, Operand.tmp 52], argTypes := #[32, 32] }, type := 3, pos := "law.go:91", after := #[{ on := 5, ground := Ground.data }, { on := 6, ground := Ground.data }, { on := 5, ground := Ground.chain }, { on := 2, ground := Ground.guard }], guard := some (2, true) }) rfl (fun K hK => ?_) AllReadyH.nil
  go_simp
  refine (unhide KCC1 _ _ _ (unhide J1) ((unhide I0).below (And.left (by assumption)))).mono ?_
  rintro e wc ⟨rfl, hb1⟩; have hC : Below W0.heap.size W0 wc := Below.trans (And.left (by assumption)) (hb1.mono (Below.size (And.left (by assumption)))); clear hb1
  go_wp2_with fail
  refine hK.out _ _ ?_ (fun hHeld => ?_)
  · exact unhide HK _ hC
  clear hK K
  refine wpAnyH_take (i := 8) (oi := { dst := some 54, op := Op.binOp BinOp.lss 3 (Operand.tmp 53) (Operand.const (Value.int IntKind.i64 0)) 3, type := 4, pos := "law.go:91", after := #[{ on := 7, ground := Ground.data }, { on := 2, ground := Ground.guard }], guard := some (2, true) }) (v := (.bool false)) rfl (by kernel_rfl) (by kernel_rfl) (by kernel_rfl) (fun _ _ _ h => h) (Or.inl ⟨by rfl, ?_⟩) (by assumption) ?_
  · (intro w hSw; (try dsimp only at hSw); go_simp)
  simp only [Act.put, List.setIfInBounds_toArray, List.set_cons_zero, List.set_cons_succ]
  refine wpAnyH_take (i := 9) (oi := { dst := some 55, op := Op.pick (Operand.tmp 48) (Operand.tmp 54) (Operand.const (Value.bool false)), type := 4, pos := "law.go:91", after := #[{ on := 2, ground := Ground.data }, { on := 8, ground := Ground.data }], guard := none }) (v := (.bool false)) rfl (by kernel_rfl) (by kernel_rfl) (by kernel_rfl) (fun _ _ _ h => h) (Or.inl ⟨by rfl, ?_⟩) (by assumption) ?_
  · (intro w hSw; (try dsimp only at hSw); go_simp)
  simp only [Act.put, List.setIfInBounds_toArray, List.set_cons_zero, List.set_cons_succ]
  refine wpAnyH_take (i := 10) (oi := { dst := some 56, op := Op.move (Operand.tmp 55), type := 4, pos := "law.go:91", after := #[{ on := 9, ground := Ground.data }, { on := 7, ground := Ground.chain }], guard := none }) (v := (.bool false)) rfl (by kernel_rfl) (by kernel_rfl) (by kernel_rfl) (fun _ _ _ h => h) (Or.inl ⟨by rfl, ?_⟩) (by assumption) ?_
  · (intro w hSw; (try dsimp only at hSw); go_simp)
  simp only [Act.put, List.setIfInBounds_toArray, List.set_cons_zero, List.set_cons_succ]
  refine wpAnyH_take (i := 11) (oi := { dst := some 57, op := Op.move (Operand.tmp 8), type := 23, pos := "law.go:91", after := #[{ on := 10, ground := Ground.guard }], guard := some (10, false) }) (v := (.int .u64 V)) rfl (by kernel_rfl) (by kernel_rfl) (by kernel_rfl) (fun _ _ _ h => h) (Or.inl ⟨by rfl, ?_⟩) (by assumption) ?_
  · (intro w hSw; (try dsimp only at hSw); go_simp)
  simp only [Act.put, List.setIfInBounds_toArray, List.set_cons_zero, List.set_cons_succ]
  refine wpAnyH_ready (rs := [12]) (by kernel_rfl) (by simp) ?_
  refine AllReadyH.cons (o := { dst := some 58, op := Op.call { callee := Callee.value (Operand.func 14), args := #[Operand.tmp 57], argTypes := #[23] }, type := 4, pos := "law.go:91", after := #[{ on := 11, ground := Ground.data }, { on := 10, ground := Ground.chain }, { on := 10, ground := Ground.guard }], guard := some (10, false) }) rfl (fun K hK => ?_) AllReadyH.nil
  go_simp
  refine (unhide KCF2 _).mono ?_
  rintro e wf ⟨rfl, rfl⟩
  go_wp2_with fail
  refine hK.out _ _ ?_ (fun hHeld => ?_)
  · exact by assumption
  clear hK K
  refine wpAnyH_take (i := 13) (oi := { dst := some 59, op := Op.move (Operand.tmp 58), type := 4, pos := "law.go:91", after := #[{ on := 12, ground := Ground.data }, { on := 12, ground := Ground.chain }, { on := 10, ground := Ground.guard }], guard := some (10, false) }) (v := (.bool false)) rfl (by kernel_rfl) (by kernel_rfl) (by kernel_rfl) (fun _ _ _ h => h) (Or.inl ⟨by rfl, ?_⟩) (by assumption) ?_
  · (intro w hSw; (try dsimp only at hSw); go_simp)
  simp only [Act.put, List.setIfInBounds_toArray, List.set_cons_zero, List.set_cons_succ]
  refine wpAnyH_take (i := 14) (oi := { dst := some 60, op := Op.load 32 (Operand.tmp 1), type := 32, pos := "law.go:91", after := #[{ on := 13, ground := Ground.guard }], guard := some (13, true) }) (v := undef) rfl (by kernel_rfl) (by kernel_rfl) (by kernel_rfl) (fun _ _ _ h => h) (Or.inr ⟨by rfl, rfl⟩) (by assumption) ?_
  simp only [Act.put, List.setIfInBounds_toArray, List.set_cons_zero, List.set_cons_succ]
  refine wpAnyH_take (i := 15) (oi := { dst := some 61, op := Op.move (Operand.tmp 8), type := 23, pos := "law.go:91", after := #[{ on := 13, ground := Ground.guard }], guard := some (13, true) }) (v := undef) rfl (by kernel_rfl) (by kernel_rfl) (by kernel_rfl) (fun _ _ _ h => h) (Or.inr ⟨by rfl, rfl⟩) (by assumption) ?_
  simp only [Act.put, List.setIfInBounds_toArray, List.set_cons_zero, List.set_cons_succ]
  refine wpAnyH_take (i := 16) (oi := { dst := some 62, op := Op.call { callee := Callee.value (Operand.func 27), args := #[Operand.tmp 60, Operand.tmp 61], argTypes := #[32, 23] }, type := 32, pos := "law.go:91", after := #[{ on := 14, ground := Ground.data }, { on := 15, ground := Ground.data }, { on := 13, ground := Ground.chain }, { on := 13, ground := Ground.guard }], guard := some (13, true) }) (v := undef) rfl (by kernel_rfl) (by kernel_rfl) (by kernel_rfl) (fun _ _ _ h => h) (Or.inr ⟨by rfl, rfl⟩) (by assumption) ?_
  simp only [Act.put, List.setIfInBounds_toArray, List.set_cons_zero, List.set_cons_succ]
  refine wpAnyH_take (i := 17) (oi := { dst := some 63, op := Op.load 32 (Operand.tmp 6), type := 32, pos := "law.go:91", after := #[{ on := 13, ground := Ground.guard }], guard := some (13, true) }) (v := undef) rfl (by kernel_rfl) (by kernel_rfl) (by kernel_rfl) (fun _ _ _ h => h) (Or.inr ⟨by rfl, rfl⟩) (by assumption) ?_
  simp only [Act.put, List.setIfInBounds_toArray, List.set_cons_zero, List.set_cons_succ]
  refine wpAnyH_take (i := 18) (oi := { dst := some 64, op := Op.call { callee := Callee.value (Operand.func 24), args := #[Operand.tmp 62, Operand.tmp 63], argTypes := #[32, 32] }, type := 3, pos := "law.go:91", after := #[{ on := 16, ground := Ground.data }, { on := 17, ground := Ground.data }, { on := 16, ground := Ground.chain }, { on := 13, ground := Ground.guard }], guard := some (13, true) }) (v := undef) rfl (by kernel_rfl) (by kernel_rfl) (by kernel_rfl) (fun _ _ _ h => h) (Or.inr ⟨by rfl, rfl⟩) (by assumption) ?_
  simp only [Act.put, List.setIfInBounds_toArray, List.set_cons_zero, List.set_cons_succ]
  refine wpAnyH_take (i := 19) (oi := { dst := some 65, op := Op.binOp BinOp.lss 3 (Operand.tmp 64) (Operand.const (Value.int IntKind.i64 0)) 3, type := 4, pos := "law.go:91", after := #[{ on := 18, ground := Ground.data }, { on := 13, ground := Ground.guard }], guard := some (13, true) }) (v := undef) rfl (by kernel_rfl) (by kernel_rfl) (by kernel_rfl) (fun _ _ _ h => h) (Or.inr ⟨by rfl, rfl⟩) (by assumption) ?_
  simp only [Act.put, List.setIfInBounds_toArray, List.set_cons_zero, List.set_cons_succ]
  refine wpAnyH_take (i := 20) (oi := { dst := some 66, op := Op.pick (Operand.tmp 59) (Operand.tmp 65) (Operand.const (Value.bool false)), type := 4, pos := "law.go:91", after := #[{ on := 13, ground := Ground.data }, { on := 19, ground := Ground.data }, { on := 10, ground := Ground.guard }], guard := some (10, false) }) (v := (.bool false)) rfl (by kernel_rfl) (by kernel_rfl) (by kernel_rfl) (fun _ _ _ h => h) (Or.inl ⟨by rfl, ?_⟩) (by assumption) ?_
  · (intro w hSw; (try dsimp only at hSw); go_simp)
  simp only [Act.put, List.setIfInBounds_toArray, List.set_cons_zero, List.set_cons_succ]
  refine wpAnyH_take (i := 21) (oi := { dst := some 67, op := Op.pick (Operand.tmp 56) (Operand.const (Value.bool true)) (Operand.tmp 66), type := 4, pos := "law.go:91", after := #[{ on := 10, ground := Ground.data }, { on := 20, ground := Ground.data }], guard := none }) (v := (.bool false)) rfl (by kernel_rfl) (by kernel_rfl) (by kernel_rfl) (fun _ _ _ h => h) (Or.inl ⟨by rfl, ?_⟩) (by assumption) ?_
  · (intro w hSw; (try dsimp only at hSw); go_simp)
  simp only [Act.put, List.setIfInBounds_toArray, List.set_cons_zero, List.set_cons_succ]
  refine wpAnyH_done (by kernel_rfl) ?_ _
  go_wp2_with fail
  refine (unhide KCW _ ((unhide BB).trans (Below.mono (And.left (by assumption)) (unhide BB).size))).mono ?_
  rintro e w9 ⟨rfl, hb9⟩
  have B9 := hide (((unhide BB).trans (Below.mono (And.left (by assumption)) (unhide BB).size)).trans (hb9.mono ((unhide BB).trans (Below.mono (And.left (by assumption)) (unhide BB).size)).size))
  clear hb9
  go_wp2
  go_ret
  exact ⟨rfl, unhide B9⟩

theorem cmpI_ge (a b : Nat) (h : b ≤ a) : decide (cmpI (a : Int) (b : Int) < 0) = false := by
  apply decide_eq_false
  unfold cmpI
  rw [if_neg (by omega)]
  split <;> omega

theorem inf_top {na : Bool} {A : List Nat} {E : Int} (hf : Fits A) (hr : drB na A E = true) (h : rnd (val A) E = 9218868437227405312) : 1024 ≤ topR A E := by
  obtain ⟨d1, _⟩ := drB_bounds hr
  by_cases hA : A = []
  · subst hA; simp [rnd, val] at h
  · have hv := val_ne d1 hA
    have hl : A.length ≠ 0 := fun e => hA (List.length_eq_zero_iff.1 e)
    unfold topR
    rw [if_neg hl, lenL_bl hf d1]
    by_cases g : 1024 < (bl (val A) : Int) + E
    · omega
    · rw [rnd_fin _ _ hv (by omega)] at h
      have h1 := (rndM_bounds (val A) E hv).1
      obtain ⟨l1, l2, l3⟩ := lastE_ge (val A) E
      omega

theorem softNearest_main (na : Bool) (ao : Option Addr) (ca : Nat) (A : List Nat) (E : Int) (w : World) (hA : LimbsAt w ao ca A) (hr : drB na A E = true) (h60 : A.length ≤ 60) (hT : Tab w) (hfin : rnd (val A) E < 9218868437227405312) :
    Calls Tryd.prog 8 #[.agg #[.bool na, .slice ao A.length ca, .int .i64 E]] w fun r w' => r = .returned (.bool true) ∧ Below w.heap.size w w' := by
  obtain ⟨d1, d2, d3, d4, d5⟩ := drB_bounds hr
  have g1 : decide ((60 : Int) < (A.length : Int)) = false := decide_eq_false (by omega)
  have CR := fun w' (hb : Below w.heap.size w w') => dright_any na ao ca A E w' (hA.below hb) (by omega)
  rw [hr] at CR
  have CW := fun w' (hb : Below w.heap.size w w') => awake4_any w' (hT.all hb)
  have CO := fun w' (hb : Below w.heap.size w w') => round_right na ao ca A E w' (hA.below hb) hr (hT.all hb)
  have htop : A ≠ [] → (bl (val A) : Int) + E ≤ 1024 := fun h => by
    by_cases g : 1024 < (bl (val A) : Int) + E
    · exfalso
      have : rnd (val A) E = 9218868437227405312 := by unfold rnd; rw [if_neg (val_ne d1 h), if_pos g]
      omega
    · omega
  obtain ⟨t, ht⟩ : ∃ t, decide (topR A E < -2000) = t := ⟨_, rfl⟩
  obtain ⟨K, hK⟩ : ∃ K : Nat, K = 4960 := ⟨_, rfl⟩
  obtain ⟨n1, n2⟩ := near_dist t hA.2.1 hr ht hfin
  have DD := fun b (hb : b < 18446744073709551616) w' (h : Below w.heap.size w w') => dist_any na ao ca A E b K t w' (hA.below h) hr h60 htop ht hb hK
  generalize rnd (val A) E = r at *
  have hRl := wrd_lt na r (by omega)
  have hPl := wrd_lt (!na) r (by omega)
  have hIl := fun n => nIn_lt n r hfin
  have hOl : ∀ n, nOut n r < 18446744073709551616 := fun n => wrd_lt n (r + 1) (by omega)
  have CF : ∀ w', Calls Tryd.prog 14 #[.int .u64 (wrd na r : Nat)] w' fun r w'' => r = .returned (.bool true) ∧ w' = w'' := fun w' => by
    have := rfinite_any (wrd na r) w' hRl
    rwa [fFin_wrd na r (by omega), decide_eq_true hfin] at this
  have CM1 : ∀ w', Calls Tryd.prog 15 #[.int .u64 (wrd na r : Nat)] w' fun q w'' => q = .returned (.int .u64 (wrd (!na) r : Nat)) ∧ w' = w'' := fun w' => by
    have := sminus_any (wrd na r) w' hRl
    rwa [fN_wrd2 na r (by omega)] at this
  have CMO : ∀ n w', Calls Tryd.prog 15 #[.int .u64 (nOut n r : Nat)] w' fun q w'' => q = .returned (.int .u64 (nOut (!n) r : Nat)) ∧ w' = w'' := fun n w' => by
    have := sminus_any (nOut n r) w' (hOl n)
    rwa [fN_out n r hfin] at this
  have CMI : ∀ n w', Calls Tryd.prog 15 #[.int .u64 (nIn n r : Nat)] w' fun q w'' => q = .returned (.int .u64 (nIn (!n) r : Nat)) ∧ w' = w'' := fun n w' => by
    have := sminus_any (nIn n r) w' (hIl n)
    rwa [fN_in n r hfin] at this
  have CUF : ∀ w', Calls Tryd.prog 28 #[.int .u64 (wrd false r : Nat)] w' fun q w'' => q = .returned (.int .u64 (nOut false r : Nat)) ∧ Below w'.heap.size w' w'' := fun w' => by
    have := up_any (wrd false r) w' (wrd_lt _ _ (by omega))
    rwa [fU_false r hfin] at this
  have CUT : ∀ w', Calls Tryd.prog 28 #[.int .u64 (wrd true r : Nat)] w' fun q w'' => q = .returned (.int .u64 (nIn true r : Nat)) ∧ Below w'.heap.size w' w'' := fun w' => by
    have := up_any (wrd true r) w' (wrd_lt _ _ (by omega))
    rwa [fU_true r hfin] at this
  have CFI : ∀ n w', Calls Tryd.prog 14 #[.int .u64 (nIn n r : Nat)] w' fun r w'' => r = .returned (.bool true) ∧ w' = w'' := fun n w' => by
    have := rfinite_any (nIn n r) w' (hIl n)
    rwa [nIn_fin n r hfin] at this
  have CFO : ∀ n w', Calls Tryd.prog 14 #[.int .u64 (nOut n r : Nat)] w' fun q w'' => q = .returned (.bool (decide (r + 1 < 9218868437227405312))) ∧ w' = w'' := fun n w' => by
    have := rfinite_any (nOut n r) w' (hOl n)
    rwa [show fFin (nOut n r) = decide (r + 1 < 9218868437227405312) from fFin_wrd n (r + 1) (by omega)] at this
  have LL := fun b hb => (DD b hb w (Below.refl _ _)).2
  have C0 := fun w' h => (DD (wrd na r) hRl w' h).1
  have CI := fun w' h => (DD (nIn na r) (hIl na) w' h).1
  have CO' := fun w' h => (DD (nOut na r) (hOl na) w' h).1
  have CCI := fun w' v u (hv : IsDy w' v _ _) (hu : IsDy w' u _ _) => rcmpN hv hu (LL (nIn na r) (hIl na)) (LL (wrd na r) hRl)
  have CCO := fun w' v u (hv : IsDy w' v _ _) (hu : IsDy w' u _ _) => rcmpN hv hu (LL (nOut na r) (hOl na)) (LL (wrd na r) hRl)
  by_cases ho : r + 1 < 9218868437227405312
  · rw [decide_eq_true ho] at CFO
    cases na
    · exact softNearest_mtt false ao ca A.length _ _ _ _ _ E _ _ _ _ _ _ _ _ _ w g1 (cmpI_ge _ _ (n1 ho)) (cmpI_ge _ _ n2) CR CO CF C0 CUF CM1 CUT (CMI true) (CFO false) (CFI false) CO' CCO CI CCI CW
    · exact softNearest_mtt true ao ca A.length _ _ _ _ _ E _ _ _ _ _ _ _ _ _ w g1 (cmpI_ge _ _ n2) (cmpI_ge _ _ (n1 ho)) CR CO CF C0 CUT CM1 CUF (CMO false) (CFI true) (CFO true) CI CCI CO' CCO CW
  · rw [decide_eq_false ho] at CFO
    cases na
    · exact softNearest_mft false ao ca A.length _ _ _ _ _ E _ _ _ _ _ _ w g1 (cmpI_ge _ _ n2) CR CO CF C0 CUF CM1 CUT (CMI true) (CFO false) (CFI false) CI CCI CW
    · exact softNearest_mtf true ao ca A.length _ _ _ _ _ E _ _ _ _ _ _ w g1 (cmpI_ge _ _ n2) CR CO CF C0 CUT CM1 CUF (CMO false) (CFI true) (CFO true) CI CCI CW

theorem softNearest_walk (na : Bool) (ao : Option Addr) (ca : Nat) (A : List Nat) (E : Int) (w : World) (hA : LimbsAt w ao ca A) (la : A.length ≤ 35184372087808) (_bx : -9223372036854775808 ≤ E ∧ E ≤ 9223372036854775807) (hT : Tab w) :
    Calls Tryd.prog 8 #[.agg #[.bool na, .slice ao A.length ca, .int .i64 E]] w fun r w' => r = .returned (.bool true) ∧ Below w.heap.size w w' := by
  have CR := fun w' (hb : Below w.heap.size w w') => dright_any na ao ca A E w' (hA.below hb) (by omega)
  have CW := fun w' (hb : Below w.heap.size w w') => awake4_any w' (hT.all hb)
  by_cases hl : 60 < A.length
  · exact softNearest_b na ao ca A.length E w (decide_eq_true (by omega)) CW
  have g1 : decide ((60 : Int) < (A.length : Int)) = false := decide_eq_false (by omega)
  cases hr : drB na A E
  · rw [hr] at CR
    exact softNearest_w na ao ca A.length E w g1 CR CW
  by_cases hfin : rnd (val A) E < 9218868437227405312
  · exact softNearest_main na ao ca A E w hA hr (by omega) hT hfin
  rw [hr] at CR
  obtain ⟨d1, d2, d3, d4, d5⟩ := drB_bounds hr
  have hinf : rnd (val A) E = 9218868437227405312 := by have := rnd_le (val A) E; omega
  have CO := fun w' (hb : Below w.heap.size w w') => round_right na ao ca A E w' (hA.below hb) hr (hT.all hb)
  have CT := fun w' (hb : Below w.heap.size w w') => rtop_any na ao ca A E w' (hA.below hb) (by omega) (by omega)
  have CF : ∀ w', Calls Tryd.prog 14 #[.int .u64 (wrd na (rnd (val A) E) : Nat)] w' fun r w'' => r = .returned (.bool false) ∧ w' = w'' := fun w' => by
    have := rfinite_any (wrd na (rnd (val A) E)) w' (wrd_lt _ _ (by omega))
    rwa [fFin_wrd _ _ (by omega), decide_eq_false hfin] at this
  exact softNearest_i na ao ca A.length _ E _ _ w g1 (decide_eq_true (inf_top hA.2.1 hr hinf)) CR CO CF CT CW

end Go.Proofs.YtkmkjeoblkdmnaaDoor

/- A struct of a sign and limbs that came in, opened. -/
namespace Go.Proofs.YtkmkjeoblkdmnaaDoor
open Go.ChangeShapes Go.WideShapes Go.ChangeAt Go.RowKit Go.Joins

theorem Tryd.own : ownKnob Tryd.prog.godebug = none := by kernel_rfl
theorem Tryd.laidOut : laidOutB Tryd.prog = true := by kernel_rfl
theorem Tryd.cellsW : Tryd.prog.cellsOf 30 = 2 := by kernel_rfl
theorem Tryd.cellsU : Tryd.prog.cellsOf 75 = 1 := by kernel_rfl
theorem Tryd.bytesU : Tryd.prog.bytesOf 75 = 4 := by kernel_rfl

theorem bounds_of_u32 {x : Int} (h : (Lit.int .u32 x).wf = true) : 0 ≤ x ∧ x < 4294967296 := by
  simp [Lit.wf, IntKind.min, IntKind.max, IntKind.signed, IntKind.bits] at h
  omega

theorem limbs_of_ints {W : World} {a : Addr} {len cap : Nat} {zs : List Int} (hl : len ≤ cap) (hz : zs.length = cap) (hc : ∀ i, i < zs.length → W.cell? (a.add i) = some (.int .u32 (zs.getD i 0))) (hw : ∀ n ∈ zs, (Lit.int .u32 n).wf = true) :
    LimbsAt W (some a) cap ((zs.take len).map Int.toNat) ∧ ((zs.take len).map Int.toNat).length = len := by
  have hlen : ((zs.take len).map Int.toNat).length = len := by simp; omega
  refine ⟨⟨by omega, ?_, ?_⟩, hlen⟩
  · intro x hx
    obtain ⟨y, hy, rfl⟩ := List.mem_map.1 hx
    have := bounds_of_u32 (hw y (List.mem_of_mem_take hy))
    omega
  · rcases Nat.eq_zero_or_pos len with rfl | hp
    · left; simp
    · right
      obtain ⟨b, off, spot⟩ := a
      have h0 := hc 0 (by omega)
      have hspot : spot = none := by simpa [Addr.add] using World.cell?_spot h0
      subst hspot
      have hb : b < W.heap.size := by
        have := World.block_lt_of_cell? W _ h0
        simpa [Addr.add] using this
      refine ⟨b, off, rfl, hb, fun i hi => ?_⟩
      have h1 := hc i (by omega)
      have h2 : (0 : Int) ≤ zs[i]'(by omega) := (bounds_of_u32 (hw _ (List.getElem_mem _))).1
      have h3 : (⟨b, off, none⟩ : Addr).add i = ⟨b, off + i, none⟩ := by simp [Addr.add]
      rw [h3] at h1
      rw [h1]
      have e : ((zs.take len).map Int.toNat)[i]?.getD 0 = (zs[i]'(by omega)).toNat := by
        rw [List.getElem?_map, List.getElem?_take, if_pos (by omega), List.getElem?_eq_getElem (by omega)]; rfl
      rw [e, List.getD_eq_getElem?_getD, List.getElem?_eq_getElem (by omega)]
      simp only [Option.getD_some, Option.some.injEq, Value.int.injEq, true_and]
      omega

/-- A number that came in: its sign, its limbs, where they lie; by the row's own reach they are not too many. -/
theorem open_whole {H : Type} {enc : TypeId × Value → H} {W : World} {base : Nat} {v : Value} {d : DataW H} {p : List MemPlace} (hval : Value.okWide Tryd.prog W .any base 30 v) (h : DataW.Trod enc Tryd.prog W 0 (fun _ => true) true 30 v d p)
    (hs : ∀ n ∈ d.weights Tryd.prog 30, n ≤ reachBytes) :
    ∃ neg ao cap L, v = .agg #[.bool neg, .slice ao L.length cap] ∧ LimbsAt W ao cap L ∧ L.length ≤ 35184372087808 := by
  obtain ⟨c0, c1, y0, y1, m, rfl, rfl, rfl, hy0, hy1⟩ := open_agg2 Tryd.underlying30 (by kernel_rfl) Tryd.cellsW hval h
  obtain ⟨neg, e0, rfl⟩ := DataW.trod_bool Tryd.underlying4 hy0
  simp at e0
  subst e0
  rcases open_ints Tryd.underlying28 Tryd.underlying75 Tryd.cellsU hy1 with ⟨hcs, _⟩ | ⟨a, len, cap, zs, hcs, _, hl, hm, hz, rfl, hcell, hwz⟩
  · simp at hcs
    subst hcs
    exact ⟨neg, none, 0, [], rfl, LimbsAt.nil _ _ _, by simp⟩
  · simp at hcs
    subst hcs
    obtain ⟨h1, h2⟩ := limbs_of_ints hl (by simpa using hz) hcell hwz
    refine ⟨neg, some a, cap, _, by rw [h2], h1, ?_⟩
    have hk := hs ((zs.length) * 4) (by
      simp only [DataW.weights, Tryd.underlying30, DataW.weightsEach, List.map, Tryd.underlying28, List.nil_append, List.append_nil, List.mem_cons, Tryd.bytesU, lits, List.length_map, List.length_take, List.length_drop]
      left
      omega)
    simp only [reachBytes] at hk
    rw [h2]
    have : zs.length = cap := by simpa using hz
    omega

end Go.Proofs.YtkmkjeoblkdmnaaDoor

/- The bounds of an int or int64 that came in. -/
namespace Go.Proofs.YtkmkjeoblkdmnaaDoor

theorem bounds_of_i64 {x : Int} (h : (Lit.int .i64 x).wf = true) : -9223372036854775808 ≤ x ∧ x ≤ 9223372036854775807 := by
  simp [Lit.wf, IntKind.min, IntKind.max, IntKind.signed, IntKind.bits] at h
  omega

end Go.Proofs.YtkmkjeoblkdmnaaDoor

/- A dyadic number that came in, opened; the library's table, as the row lays it. -/
namespace Go.Proofs.YtkmkjeoblkdmnaaDoor
open Go.ChangeShapes Go.WideShapes Go.ChangeAt Go.RowKit Go.Joins

theorem Tryd.cellsD : Tryd.prog.cellsOf 32 = 3 := by kernel_rfl
theorem Tryd.cellsI : Tryd.prog.cellsOf 3 = 1 := by kernel_rfl
theorem Tryd.cellsB : Tryd.prog.cellsOf 4 = 1 := by kernel_rfl
theorem Tryd.cellsS : Tryd.prog.cellsOf 28 = 1 := by kernel_rfl

theorem Tryd.tabName : Tryd.prog.globalNamed "math/bits.deBruijn32tab" = some 1 := by kernel_rfl
theorem Tryd.tabType : (Tryd.prog.globals[1]?).map (·.type) = some 90 := by kernel_rfl
theorem Tryd.tabCells : Tryd.prog.cellsOf 90 = 32 := by kernel_rfl
theorem Tryd.byteCells : Tryd.prog.cellsOf 5 = 1 := by kernel_rfl

theorem tab_getD : ∀ j, j < Lib.deBruijn32tab.length → (List.map Int.ofNat Lib.deBruijn32tab).getD j 0 = ((Lib.deBruijn32tab.getD j 0 : Nat) : Int) := by decide

/-- What the rows' list gives: the table's cells. -/
theorem tab_of_laid {W : World} (h : laidMetH Tryd.prog [("math/bits.deBruijn32tab", Rows.laid_math_bits_deBruijn32tab)] W) : Tab W := by
  have ht := Lib.tabIs_of_head (zs := Lib.deBruijn32tab.map Int.ofNat) (rest := []) Tryd.tabName Tryd.tabType Tryd.underlying90 Tryd.underlying5 Tryd.byteCells Tryd.tabCells h
  intro j hj
  have := ht.cell Tryd.tabName j (by simpa using hj)
  rw [this]
  congr 2
  exact tab_getD j hj

/-- A dyadic number that came in. -/
theorem open_dyadic {H : Type} {enc : TypeId × Value → H} {W : World} {base : Nat} {v : Value} {d : DataW H} {p : List MemPlace} (hval : Value.okWide Tryd.prog W .any base 32 v) (h : DataW.Trod enc Tryd.prog W 0 (fun _ => true) true 32 v d p)
    (hs : ∀ n ∈ d.weights Tryd.prog 32, n ≤ reachBytes) :
    ∃ (neg : Bool) (ao : Option Addr) (cap : Nat) (L : List Nat) (e : Int), v = .agg #[.bool neg, .slice ao L.length cap, .int .i64 e] ∧ LimbsAt W ao cap L ∧ L.length ≤ 35184372087808 ∧ (-9223372036854775808 ≤ e ∧ e ≤ 9223372036854775807) := by
  obtain ⟨cs, rfl, hsz⟩ := okWide_struct Tryd.underlying32 hval
  obtain ⟨c0, c1, c2, rfl⟩ := array3 (hsz.trans Tryd.cellsD)
  obtain ⟨fuel, hf⟩ := h
  obtain ⟨y0, y1, n, hx, _, h0, h1⟩ := trod_struct2 Tryd.underlying32 hf
  simp only [Prod.mk.injEq] at hx
  obtain ⟨rfl, rfl⟩ := hx
  have h0' : DataW.trod enc Tryd.prog W 0 (fun _ => true) true n 30 [c0, c1] = some y0 := by simpa [Value.cells, Tryd.cellsW] using h0
  have h1' : DataW.trod enc Tryd.prog W 0 (fun _ => true) true n 3 [c2] = some y1 := by simpa [Value.cells, Tryd.cellsI] using h1
  clear h0 h1
  obtain ⟨e, e1, e2, we⟩ := DataW.trod_int Tryd.underlying3 h1'
  simp at e1
  subst e1
  obtain ⟨z0, z1, m, hz, _, g0, g1⟩ := trod_struct2 Tryd.underlying30 h0'
  subst hz
  have g0' : DataW.trod enc Tryd.prog W 0 (fun _ => true) true m 4 [c0] = some z0 := by simpa [Tryd.cellsB] using g0
  have g1' : DataW.trod enc Tryd.prog W 0 (fun _ => true) true m 28 [c1] = some z1 := by simpa [Tryd.cellsS] using g1
  clear g0 g1
  obtain ⟨neg, e0, _⟩ := DataW.trod_bool Tryd.underlying4 g0'
  simp at e0
  subst e0
  have be := bounds_of_i64 we
  rcases open_ints Tryd.underlying28 Tryd.underlying75 Tryd.cellsU g1' with ⟨hcs, _⟩ | ⟨a, len, cap, zs, hcs, _, hl, hm, hzz, rfl, hcell, hwz⟩
  · simp at hcs
    subst hcs
    exact ⟨neg, none, 0, [], e, rfl, LimbsAt.nil _ _ _, by simp, be⟩
  · simp at hcs
    subst hcs
    obtain ⟨l1, l2⟩ := limbs_of_ints hl (by simpa using hzz) hcell hwz
    refine ⟨neg, some a, cap, _, e, by rw [l2], l1, ?_, be⟩
    have hk := hs ((zs.length) * 4) (by
      simp only [DataW.weights, Tryd.underlying32, Tryd.underlying30, DataW.weightsEach, List.map, Tryd.underlying28, List.append_nil, List.mem_cons, List.mem_append, Tryd.bytesU, lits, List.length_map, List.length_take, List.length_drop]
      refine .inl (.inr (.inl ?_))
      have : zs.length = cap := by simpa using hzz
      omega)
    simp only [reachBytes] at hk
    rw [l2]
    have : zs.length = cap := by simpa using hzz
    omega

end Go.Proofs.YtkmkjeoblkdmnaaDoor

