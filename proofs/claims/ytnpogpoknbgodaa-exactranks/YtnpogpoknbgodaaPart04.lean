/- Part 4 of the texts. -/
import Derived.Test.YtnpogpoknbgodaaPart03
import Derived.Test.YtnpogpoknbgodaaPart02
/- Contracts of addSigned. -/
namespace Go.Proofs.Ytnpogpoknbgodaa
open Go.RowKit
attribute [local go_sem ↓] Go.wp_at_zero Go.wp_at_succ

set_option maxHeartbeats 1000000 in
theorem addSigned_same (na : Bool) (ao bo : Option Addr) (ca cb : Nat) (A B : List Nat) (w : World) (hA : LimbsAt w ao ca A) (hB : LimbsAt w bo cb B) (la : A.length ≤ 35184372088830) (lb : B.length ≤ 35184372088830) :
    Calls Try.prog 61 #[.agg #[.bool na, .slice ao A.length ca], .agg #[.bool na, .slice bo B.length cb]] w fun e w' => ∃ v, e = .returned (.tuple #[v, .int .i64 (errOf (sval na A + sval na B))]) ∧ IsNum w.heap.size w' v (numOf (sval na A + sval na B)) ∧ Below w.heap.size w w' := by
  have hsum : ∀ L : List Nat, val L = val A + val B → sval na L = sval na A + sval na B := by
    intro L h; unfold sval; cases na <;> simp [h] <;> omega
  have HS := hide hsum
  clear hsum
  generalize sval na A + sval na B = z at *
  go_enter Try.func61, Try.ntmps61
  go_wp2
  refine at_world (fun W => Below w.heap.size w W ∧ W.heap.size = w.heap.size + 3 ∧ Box2 W w.heap.size (.bool na) (.slice ao A.length ca) ∧ Box2 W (w.heap.size + 1) (.bool na) (.slice bo B.length cb) ∧ Box2 W (w.heap.size + 2) (.bool false) (.slice none 0 0)) ?_ ?_
  · refine ⟨((((Below.refl _ _).alloc (Nat.le_refl _) _).alloc (by simp) _).alloc (by simp; omega) _), by simp, ((Box2.new _ _ _).old _).old _, ?_, ?_⟩
    · have := (Box2.new (w.alloc (.cells #[.bool na, .slice ao A.length ca] 35)) (.bool na) (.slice bo B.length cb)).old (.cells #[.bool false, .slice none 0 0] 35)
      simpa using this
    · have := Box2.new ((w.alloc (.cells #[.bool na, .slice ao A.length ca] 35)).alloc (.cells #[.bool na, .slice bo B.length cb] 35)) (.bool false) (.slice none 0 0)
      simpa using this
  rintro W0 ⟨hw0, hs0, x0, x1, x2⟩
  have hK : ∀ w', Below (w.heap.size + 2) W0 w' → Below (w.heap.size + 2) W0 w' ∧ w'.cell? ⟨w.heap.size, 0, none⟩ = some (.bool na) ∧ w'.cell? ⟨w.heap.size, 1, none⟩ = some (.slice ao A.length ca) ∧ w'.cell? ⟨w.heap.size + 1, 1, none⟩ = some (.slice bo B.length cb) := fun w' h =>
    ⟨h, (x0.below h (by omega)).c0, (x0.below h (by omega)).c1, (x1.below h (by omega)).c1⟩
  have HK := hide hK
  have HA := hide (hA.below hw0)
  have HB := hide (hB.below hw0)
  have X2 := hide x2
  have HW0 := hide hw0
  clear hK hA hB x0 x1 x2 hw0
  go_region_held3 (fun w' => Below (w.heap.size + 2) W0 w' ∧ w'.cell? ⟨w.heap.size, 0, none⟩ = some (.bool na) ∧ w'.cell? ⟨w.heap.size, 1, none⟩ = some (.slice ao A.length ca) ∧ w'.cell? ⟨w.heap.size + 1, 1, none⟩ = some (.slice bo B.length cb))
    (first | exact unhide HK _ (Below.refl _ _).drew | exact unhide HK _ (by assumption) | exact unhide HK _ ((hB2.setCell (by simp) _).setCell (by simp) _))
    (first | (go_at_call 64; refine (addLimbs_any ao bo ca cb A B _ ((unhide HA).below ((Below.refl _ _).drew)) ((unhide HB).below ((Below.refl _ _).drew)) la lb).mono ?_; rintro e w1 ⟨ao', cap', L', rfl, g1, g2, g3, g4, hb1⟩; have hB1 : Below (w.heap.size + 2) W0 w1 := ((Below.refl _ _).drew).trans (hb1.mono (by simp [hs0])); have X3 := hide ((unhide X2).drew.below hb1 (by simp [hs0])); have G1 := hide g1; have G2 := hide g2; have G4 := hide g4; have L4 : L'.length ≤ 35184372088832 := (by omega); have s1 := hb1.size; clear g1 g2 g4 g3 hb1) | (go_at_call 59; refine (fit_any _ na _ _ _ _ (unhide G1) (unhide G2) L4).mono ?_; rintro e w2 ⟨v, rfl, ⟨n2, a2, c2, L2, rfl, i1⟩, hb2⟩; have hB2 : Below (w.heap.size + 2) W0 w2 := hB1.trans (hb2.mono (by simp at s1; omega)); have X4 := (unhide X3).below hb2 (by simp at s1; omega); have y0 := X4.c0; have y1 := X4.c1; have f0 := X4.free 0; have f1 := X4.free 1; have I1 := hide i1; clear i1 hb2 X4))
  have hz := unhide HS L' (unhide G4)
  have HI := hide (hz ▸ unhide I1)
  have HE := hide (show errOf (sval na L') = errOf z by rw [hz])
  clear hz
  go_wp2
  refine bodyPost_ret (v := .tuple #[.agg #[.bool n2, .slice a2 L2.length c2], .int .i64 (errOf (sval na L'))]) (by simp [results, Try.results61, go_sem, y0, y1]) rfl ⟨.agg #[.bool n2, .slice a2 L2.length c2], ?_, ?_, ?_⟩
  · rw [unhide HE]
  · exact IsNum.stored (unhide HI) (by simp; omega) (by simp; omega) (by simp; omega) _ _
  · exact (((unhide HW0).trans (hB2.mono (by omega))).setCell (by simp; omega) _).setCell (by simp; omega) _

end Go.Proofs.Ytnpogpoknbgodaa

/- Contracts of addSigned at different signs; of any two numbers without a 0 on top. -/
namespace Go.Proofs.Ytnpogpoknbgodaa
open Go.RowKit
attribute [local go_sem ↓] Go.wp_at_zero Go.wp_at_succ

theorem cmpL_canon (A B : List Nat) (fA : Fits A) (fB : Fits B) (cA : Canon A) (cB : Canon B) : cmpL A B = cmpI (val A) (val B) := by
  unfold cmpL
  split
  · rfl
  · rename_i hl
    rcases Nat.lt_or_gt_of_ne hl with h | h
    · have : val A < val B := by
        have := length_le_of_val B A fA cB
        by_cases hv : val B ≤ val A
        · have := this hv; omega
        · omega
      rw [cmpI_lt (by omega), cmpI_lt (by omega)]
    · have : val B < val A := by
        have := length_le_of_val A B fB cA
        by_cases hv : val A ≤ val B
        · have := this hv; omega
        · omega
      rw [cmpI_gt (by omega), cmpI_gt (by omega)]

set_option maxHeartbeats 1000000 in
theorem addSigned_diff (na nb : Bool) (ao bo : Option Addr) (ca cb : Nat) (A B : List Nat) (w : World) (hA : LimbsAt w ao ca A) (hB : LimbsAt w bo cb B) (la : A.length ≤ 35184372088830) (lb : B.length ≤ 35184372088830) (cA : Canon A) (cB : Canon B) (hn : na ≠ nb) :
    Calls Try.prog 61 #[.agg #[.bool na, .slice ao A.length ca], .agg #[.bool nb, .slice bo B.length cb]] w fun e w' => ∃ v, e = .returned (.tuple #[v, .int .i64 (errOf (sval na A + sval nb B))]) ∧ IsNum w.heap.size w' v (numOf (sval na A + sval nb B)) ∧ Below w.heap.size w w' := by
  have hsum : (∀ L : List Nat, val L = val B - val A → val A < val B → sval nb L = sval na A + sval nb B) ∧ (∀ L : List Nat, val L = val A - val B → val B ≤ val A → sval na L = sval na A + sval nb B) := by
    constructor <;> intro L h h' <;> unfold sval <;> cases na <;> cases nb <;> simp at hn <;> simp [h] <;> omega
  have hcm := cmpL_canon A B hA.2.1 hB.2.1 cA cB
  have HS := hide hsum
  clear hsum
  generalize sval na A + sval nb B = z at *
  have hne : (na == nb) = false := by simpa using hn
  have HC := hide hcm
  clear hcm hn
  go_enter Try.func61, Try.ntmps61
  go_wp2_with fail
  refine (compareLimbs_any ao bo ca cb A B _ (hA.below ?_) (hB.below ?_) (by omega) (by omega)).mono ?_
  · exact (((Below.refl _ _).alloc (Nat.le_refl _) _).alloc (by simp) _).alloc (by simp; omega) _
  · exact (((Below.refl _ _).alloc (Nat.le_refl _) _).alloc (by simp) _).alloc (by simp; omega) _
  rintro e w' ⟨rfl, m, rfl⟩
  rw [unhide HC]
  by_cases hv : val A < val B
  · rw [cmpI_lt (by omega)]
    clear HC
    have HS1 := hide (fun L h => (unhide HS).1 L h hv)
    clear HS
    go_wp2
    refine at_world (fun W => Below w.heap.size w W ∧ W.heap.size = w.heap.size + 3 ∧ Box2 W w.heap.size (.bool na) (.slice ao A.length ca) ∧ Box2 W (w.heap.size + 1) (.bool nb) (.slice bo B.length cb) ∧ Box2 W (w.heap.size + 2) (.bool false) (.slice none 0 0)) ?_ ?_
    · refine ⟨below_drewN ((((Below.refl _ _).alloc (Nat.le_refl _) _).alloc (by simp) _).alloc (by simp; omega) _) _, by simp, (((Box2.new _ _ _).old _).old _).drewN _, ?_, ?_⟩
      · have := ((Box2.new (w.alloc (.cells #[.bool na, .slice ao A.length ca] 35)) (.bool nb) (.slice bo B.length cb)).old (.cells #[.bool false, .slice none 0 0] 35)).drewN m
        simpa using this
      · have := (Box2.new ((w.alloc (.cells #[.bool na, .slice ao A.length ca] 35)).alloc (.cells #[.bool nb, .slice bo B.length cb] 35)) (.bool false) (.slice none 0 0)).drewN m
        simpa using this
    rintro W0 ⟨hw0, hs0, x0, x1, x2⟩
    have hK : ∀ w', Below (w.heap.size + 2) W0 w' → Below (w.heap.size + 2) W0 w' ∧ w'.cell? ⟨w.heap.size + 1, 0, none⟩ = some (.bool nb) ∧ w'.cell? ⟨w.heap.size, 1, none⟩ = some (.slice ao A.length ca) ∧ w'.cell? ⟨w.heap.size + 1, 1, none⟩ = some (.slice bo B.length cb) := fun w' h =>
      ⟨h, (x1.below h (by omega)).c0, (x0.below h (by omega)).c1, (x1.below h (by omega)).c1⟩
    have HK := hide hK
    have HA := hide (hA.below hw0)
    have HB := hide (hB.below hw0)
    have X2 := hide x2
    have HW0 := hide hw0
    have hv' : val A ≤ val B := by omega
    clear hK hA hB x0 x1 x2 hw0
    go_region_held3 (fun w' => Below (w.heap.size + 2) W0 w' ∧ w'.cell? ⟨w.heap.size + 1, 0, none⟩ = some (.bool nb) ∧ w'.cell? ⟨w.heap.size, 1, none⟩ = some (.slice ao A.length ca) ∧ w'.cell? ⟨w.heap.size + 1, 1, none⟩ = some (.slice bo B.length cb))
      (first | exact unhide HK _ (Below.refl _ _).drew | exact unhide HK _ (by assumption) | exact unhide HK _ ((hB2.setCell (by simp) _).setCell (by simp) _))
      (first | (go_at_call 66; refine (subLimbs_any bo ao cb ca B A _ ((unhide HB).below ((Below.refl _ _).drew)) ((unhide HA).below ((Below.refl _ _).drew)) lb la hv').mono ?_; rintro e w1 ⟨ao', cap', L', rfl, g1, g2, g3, g4, hb1⟩; have hB1 : Below (w.heap.size + 2) W0 w1 := ((Below.refl _ _).drew).trans (hb1.mono (by simp [hs0])); have X3 := hide ((unhide X2).drew.below hb1 (by simp [hs0])); have G1 := hide g1; have G2 := hide g2; have G4 := hide g4; have L4 : L'.length ≤ 35184372088832 := (by omega); have s1 := hb1.size; clear g1 g2 g4 g3 hb1) | (go_at_call 59; refine (fit_any _ nb _ _ _ _ (unhide G1) (unhide G2) L4).mono ?_; rintro e w2 ⟨v, rfl, ⟨n2, a2, c2, L2, rfl, i1⟩, hb2⟩; have hB2 : Below (w.heap.size + 2) W0 w2 := hB1.trans (hb2.mono (by simp at s1; omega)); have X4 := (unhide X3).below hb2 (by simp at s1; omega); have y0 := X4.c0; have y1 := X4.c1; have f0 := X4.free 0; have f1 := X4.free 1; have I1 := hide i1; clear i1 hb2 X4))
    have hz := unhide HS1 L' (unhide G4)
    have HI := hide (hz ▸ unhide I1)
    have HE := hide (show errOf (sval nb L') = errOf z by rw [hz])
    clear hz
    go_wp2
    refine bodyPost_ret (v := .tuple #[.agg #[.bool n2, .slice a2 L2.length c2], .int .i64 (errOf (sval nb L'))]) (by simp [results, Try.results61, go_sem, y0, y1]) rfl ⟨.agg #[.bool n2, .slice a2 L2.length c2], ?_, ?_, ?_⟩
    · rw [unhide HE]
    · exact IsNum.stored (unhide HI) (by simp; omega) (by simp; omega) (by simp; omega) _ _
    · exact (((unhide HW0).trans (hB2.mono (by omega))).setCell (by simp; omega) _).setCell (by simp; omega) _
  · have hge : ¬ cmpI (val A) (val B) < 0 := by unfold cmpI; rw [if_neg (by omega)]; split <;> omega
    generalize cmpI (val A) (val B) = cm at *
    clear HC
    have HS1 := hide (fun L h => (unhide HS).2 L h (by omega))
    clear HS
    go_wp2
    refine at_world (fun W => Below w.heap.size w W ∧ W.heap.size = w.heap.size + 3 ∧ Box2 W w.heap.size (.bool na) (.slice ao A.length ca) ∧ Box2 W (w.heap.size + 1) (.bool nb) (.slice bo B.length cb) ∧ Box2 W (w.heap.size + 2) (.bool false) (.slice none 0 0)) ?_ ?_
    · refine ⟨below_drewN ((((Below.refl _ _).alloc (Nat.le_refl _) _).alloc (by simp) _).alloc (by simp; omega) _) _, by simp, (((Box2.new _ _ _).old _).old _).drewN _, ?_, ?_⟩
      · have := ((Box2.new (w.alloc (.cells #[.bool na, .slice ao A.length ca] 35)) (.bool nb) (.slice bo B.length cb)).old (.cells #[.bool false, .slice none 0 0] 35)).drewN m
        simpa using this
      · have := (Box2.new ((w.alloc (.cells #[.bool na, .slice ao A.length ca] 35)).alloc (.cells #[.bool nb, .slice bo B.length cb] 35)) (.bool false) (.slice none 0 0)).drewN m
        simpa using this
    rintro W0 ⟨hw0, hs0, x0, x1, x2⟩
    have hK : ∀ w', Below (w.heap.size + 2) W0 w' → Below (w.heap.size + 2) W0 w' ∧ w'.cell? ⟨w.heap.size, 0, none⟩ = some (.bool na) ∧ w'.cell? ⟨w.heap.size, 1, none⟩ = some (.slice ao A.length ca) ∧ w'.cell? ⟨w.heap.size + 1, 1, none⟩ = some (.slice bo B.length cb) := fun w' h =>
      ⟨h, (x0.below h (by omega)).c0, (x0.below h (by omega)).c1, (x1.below h (by omega)).c1⟩
    have HK := hide hK
    have HA := hide (hA.below hw0)
    have HB := hide (hB.below hw0)
    have X2 := hide x2
    have HW0 := hide hw0
    have hv' : val B ≤ val A := by omega
    clear hK hA hB x0 x1 x2 hw0
    go_region_held3 (fun w' => Below (w.heap.size + 2) W0 w' ∧ w'.cell? ⟨w.heap.size, 0, none⟩ = some (.bool na) ∧ w'.cell? ⟨w.heap.size, 1, none⟩ = some (.slice ao A.length ca) ∧ w'.cell? ⟨w.heap.size + 1, 1, none⟩ = some (.slice bo B.length cb))
      (first | exact unhide HK _ (Below.refl _ _).drew | exact unhide HK _ (by assumption) | exact unhide HK _ ((hB2.setCell (by simp) _).setCell (by simp) _))
      (first | (go_at_call 66; refine (subLimbs_any ao bo ca cb A B _ ((unhide HA).below ((Below.refl _ _).drew)) ((unhide HB).below ((Below.refl _ _).drew)) la lb hv').mono ?_; rintro e w1 ⟨ao', cap', L', rfl, g1, g2, g3, g4, hb1⟩; have hB1 : Below (w.heap.size + 2) W0 w1 := ((Below.refl _ _).drew).trans (hb1.mono (by simp [hs0])); have X3 := hide ((unhide X2).drew.below hb1 (by simp [hs0])); have G1 := hide g1; have G2 := hide g2; have G4 := hide g4; have L4 : L'.length ≤ 35184372088832 := (by omega); have s1 := hb1.size; clear g1 g2 g4 g3 hb1) | (go_at_call 59; refine (fit_any _ na _ _ _ _ (unhide G1) (unhide G2) L4).mono ?_; rintro e w2 ⟨v, rfl, ⟨n2, a2, c2, L2, rfl, i1⟩, hb2⟩; have hB2 : Below (w.heap.size + 2) W0 w2 := hB1.trans (hb2.mono (by simp at s1; omega)); have X4 := (unhide X3).below hb2 (by simp at s1; omega); have y0 := X4.c0; have y1 := X4.c1; have f0 := X4.free 0; have f1 := X4.free 1; have I1 := hide i1; clear i1 hb2 X4))
    have hz := unhide HS1 L' (unhide G4)
    have HI := hide (hz ▸ unhide I1)
    have HE := hide (show errOf (sval na L') = errOf z by rw [hz])
    clear hz
    go_wp2
    refine bodyPost_ret (v := .tuple #[.agg #[.bool n2, .slice a2 L2.length c2], .int .i64 (errOf (sval na L'))]) (by simp [results, Try.results61, go_sem, y0, y1]) rfl ⟨.agg #[.bool n2, .slice a2 L2.length c2], ?_, ?_, ?_⟩
    · rw [unhide HE]
    · exact IsNum.stored (unhide HI) (by simp; omega) (by simp; omega) (by simp; omega) _ _
    · exact (((unhide HW0).trans (hB2.mono (by omega))).setCell (by simp; omega) _).setCell (by simp; omega) _

theorem addSigned_any (na nb : Bool) (ao bo : Option Addr) (ca cb : Nat) (A B : List Nat) (w : World) (hA : LimbsAt w ao ca A) (hB : LimbsAt w bo cb B) (la : A.length ≤ 35184372088830) (lb : B.length ≤ 35184372088830) (cA : Canon A) (cB : Canon B) :
    Calls Try.prog 61 #[.agg #[.bool na, .slice ao A.length ca], .agg #[.bool nb, .slice bo B.length cb]] w fun e w' => ∃ v, e = .returned (.tuple #[v, .int .i64 (errOf (sval na A + sval nb B))]) ∧ IsNum w.heap.size w' v (numOf (sval na A + sval nb B)) ∧ Below w.heap.size w w' := by
  by_cases hn : na = nb
  · subst hn; exact addSigned_same na ao bo ca cb A B w hA hB la lb
  · exact addSigned_diff na nb ao bo ca cb A B w hA hB la lb cA cB hn

end Go.Proofs.Ytnpogpoknbgodaa

/- Contracts of Add, Sub. -/
namespace Go.Proofs.Ytnpogpoknbgodaa
open Go.RowKit

/-- What an operation answers: ok: are its numbers right; z: what it comes to. -/
def opErr (ok : Bool) (z : Int) : Int := if ok then errOf z else 1
def opNum (ok : Bool) (z : Int) : Int := if ok then numOf z else 0

theorem opErr_true (z : Int) : opErr true z = errOf z := by unfold opErr; rw [if_pos rfl]
theorem opNum_true (z : Int) : opNum true z = numOf z := by unfold opNum; rw [if_pos rfl]
theorem opErr_false (z : Int) : opErr false z = 1 := by unfold opErr; rw [if_neg (by decide)]
theorem opNum_false (z : Int) : opNum false z = 0 := by unfold opNum; rw [if_neg (by decide)]

theorem right_canon {neg : Bool} {L : List Nat} (h : rightB neg L = true) : L.length ≤ 512 ∧ Canon L ∧ (neg = true → L ≠ []) := by
  simp only [rightB, Bool.and_eq_true, decide_eq_true_eq, Bool.not_eq_true', Bool.and_eq_false_iff, decide_eq_false_iff_not, Bool.or_eq_true] at h
  obtain ⟨⟨h1, h2⟩, h3⟩ := h
  refine ⟨h1, ?_, ?_⟩
  · rcases h3 with h3 | h3
    · exact .inl (List.length_eq_zero_iff.1 h3)
    · exact .inr h3
  · rintro hn rfl
    rcases h2 with h2 | h2
    · simp at h2
    · rw [hn] at h2; cases h2

theorem sval_not (nb : Bool) (B : List Nat) : sval (!nb) B = - sval nb B := by unfold sval; cases nb <;> simp

set_option maxHeartbeats 400000 in
theorem add_any (na nb : Bool) (ao bo : Option Addr) (ca cb : Nat) (A B : List Nat) (w : World) (hA : LimbsAt w ao ca A) (hB : LimbsAt w bo cb B) (la : A.length ≤ 35184372088830) (lb : B.length ≤ 35184372088830) :
    Calls Try.prog 55 #[.agg #[.bool na, .slice ao A.length ca], .agg #[.bool nb, .slice bo B.length cb]] w fun e w' => ∃ v, e = .returned (.tuple #[v, .int .i64 (opErr (rightB na A && rightB nb B) (sval na A + sval nb B))]) ∧ IsNum w.heap.size w' v (opNum (rightB na A && rightB nb B) (sval na A + sval nb B)) ∧ Below w.heap.size w w' := by
  have hC : (rightB na A && rightB nb B) = true → Canon A ∧ Canon B := fun h => by
    simp only [Bool.and_eq_true] at h; exact ⟨(right_canon h.1).2.1, (right_canon h.2).2.1⟩
  have HC := hide hC
  have H2 := hide (show chk2 na A nb B = if (rightB na A && rightB nb B) then 0 else 1 from rfl)
  clear hC
  generalize hok : (rightB na A && rightB nb B) = ok at *
  clear hok
  go_enter Try.func55, Try.ntmps55
  go_wp2_with fail
  have hb0 : Below w.heap.size w (((w.alloc (.cells #[.bool na, .slice ao A.length ca] 35)).alloc (.cells #[.bool nb, .slice bo B.length cb] 35)).alloc (.cells #[.bool false, .slice none 0 0] 35)) :=
    (((Below.refl _ _).alloc (Nat.le_refl _) _).alloc (by simp) _).alloc (by simp; omega) _
  refine (checkBoth_any na nb ao bo ca cb A B _ (hA.below hb0) (hB.below hb0) la lb).mono ?_
  rintro e w1 ⟨rfl, hb1⟩
  have hs1 : w.heap.size + 3 ≤ w1.heap.size := by have := hb1.size; simpa using this
  have hb2 : Below w.heap.size w w1 := hb0.trans (hb1.mono (by simp; omega))
  have p0 : w1.cell? ⟨w.heap.size, 0, none⟩ = some (.bool na) := by rw [hb1.cell (p := ⟨w.heap.size, 0, none⟩) (by simp; omega)]; simp [go_sem]
  have p1 : w1.cell? ⟨w.heap.size, 1, none⟩ = some (.slice ao A.length ca) := by rw [hb1.cell (p := ⟨w.heap.size, 1, none⟩) (by simp; omega)]; simp [go_sem]
  have q0 : w1.cell? ⟨w.heap.size + 1, 0, none⟩ = some (.bool nb) := by rw [hb1.cell (p := ⟨w.heap.size + 1, 0, none⟩) (by simp)]; simp [go_sem]
  have q1 : w1.cell? ⟨w.heap.size + 1, 1, none⟩ = some (.slice bo B.length cb) := by rw [hb1.cell (p := ⟨w.heap.size + 1, 1, none⟩) (by simp)]; simp [go_sem]
  have r2 : Box2 w1 (w.heap.size + 2) (.bool false) (.slice none 0 0) := by
    have := Box2.new ((w.alloc (.cells #[.bool na, .slice ao A.length ca] 35)).alloc (.cells #[.bool nb, .slice bo B.length cb] 35)) (.bool false) (.slice none 0 0)
    exact Box2.below (by simpa using this) hb1 (by simp)
  rw [unhide H2]
  clear hb1 H2 hb0
  cases ok
  · simp only [Bool.false_eq_true, if_false]
    have y0 := r2.c0; have y1 := r2.c1; have f0 := r2.free 0; have f1 := r2.free 1
    go_wp2
    refine bodyPost_ret (v := .tuple #[.agg #[.bool false, .slice none 0 0], .int .i64 1]) (by simp [results, Try.results55, go_sem, y0, y1]) rfl ⟨.agg #[.bool false, .slice none 0 0], by rw [opErr_false], by rw [opNum_false]; exact IsNum.zero _ _ _ _, ?_⟩
    exact (hb2.setCell (by simp; omega) _).setCell (by simp; omega) _
  · obtain ⟨cA, cB⟩ := unhide HC rfl
    have CA := hide cA
    have CB := hide cB
    clear cA cB
    simp only [if_true]
    go_wp2_with fail
    refine (addSigned_any na nb ao bo ca cb A B _ (hA.below hb2) (hB.below hb2) la lb (unhide CA) (unhide CB)).mono ?_
    rintro e w2 ⟨v, rfl, ⟨n2, a2, c2, L2, rfl, i1⟩, hb3⟩
    have r3 := r2.below hb3 (by omega)
    have y0 := r3.c0; have y1 := r3.c1; have f0 := r3.free 0; have f1 := r3.free 1
    have I1 := hide i1
    have hb4 := hb2.trans (hb3.mono hb2.size)
    clear i1
    go_wp2
    refine bodyPost_ret (v := .tuple #[.agg #[.bool n2, .slice a2 L2.length c2], .int .i64 (errOf (sval na A + sval nb B))]) (by simp [results, Try.results55, go_sem, y0, y1]) rfl ⟨.agg #[.bool n2, .slice a2 L2.length c2], by rw [opErr_true], ?_, ?_⟩
    · rw [opNum_true]; exact IsNum.stored (unhide I1) (by simp; omega) (by simp; omega) (by omega) _ _
    · exact (hb4.setCell (by simp; omega) _).setCell (by simp; omega) _

end Go.Proofs.Ytnpogpoknbgodaa

/- Contract of Of. -/
namespace Go.Proofs.Ytnpogpoknbgodaa
open Go.RowKit

/-- A new block of two limbs. -/
theorem two_row (w : World) (g : Nat) (a b : Int) (lo hi : Nat) (hg : w.heap.size = g) (ha : a = (lo : Int)) (hb : b = (hi : Int)) :
    RowAt (w.alloc (.cells #[.int .u32 a, .int .u32 b] 60)) g [lo, hi] := by
  subst hg; subst ha; subst hb
  exact heap_alloc_new w _

theorem wrap_neg (n : Int) (h0 : -9223372036854775808 ≤ n) (h1 : n < 0) : IntKind.u64.wrap (-IntKind.u64.wrap n) = -n := by
  simp only [IntKind.wrap, IntKind.signed, IntKind.bits]
  simp
  omega

theorem val_two (m : Nat) : val [m % 4294967296, m / 4294967296] = m := by simp only [val]; omega

set_option maxHeartbeats 400000 in
theorem of_any (n : Int) (w : World) (h0 : -9223372036854775808 ≤ n) (h1 : n ≤ 9223372036854775807) :
    Calls Try.prog 43 #[.int .i64 n] w fun e w' => ∃ v, e = .returned v ∧ IsNum w.heap.size w' v n ∧ Below w.heap.size w w' := by
  obtain ⟨m, hm⟩ : ∃ m, m = n.natAbs := ⟨_, rfl⟩
  have hf : Fits [m % 4294967296, m / 4294967296] := by intro x hx; simp at hx; omega
  have HF := hide hf
  have HM := hide hm
  clear hf hm
  by_cases hn : n < 0
  · have hw := wrap_neg n h0 hn
    have HW := hide hw
    clear hw
    go_enter Try.func43, Try.ntmps43
    go_wp2_with fail
    have hm := unhide HM
    have hR := two_row (w.alloc (.cells #[.bool false, .slice none 0 0] 35)) (w.heap.size + 1) (IntKind.u64.wrap (-IntKind.u64.wrap n) % 4294967296) (IntKind.u64.wrap (-IntKind.u64.wrap n) / 4294967296 % 4294967296) (m % 4294967296) (m / 4294967296) (by simp) (by rw [unhide HW]; omega) (by rw [unhide HW]; omega)
    refine (trim_any (some ⟨w.heap.size + 1, 0, none⟩) 2 [m % 4294967296, m / 4294967296] _ (hR.limbs (unhide HF) 2 (by simp)) (by simp)).mono ?_
    rintro e w' ⟨v, rfl, ⟨ao', cap', L', rfl, g1, g2, g3, g4, g5⟩, rfl⟩
    have G4 := hide g4
    have G1 := hide g1
    have G2 := hide g2
    have G5 := hide g5
    clear g1 g2 g4 g5 hR hm
    go_wp2
    refine bodyPost_ret (v := .agg #[.bool true, .slice ao' L'.length cap']) (by simp [results, Try.results43, go_sem]) rfl ⟨.agg #[.bool true, .slice ao' L'.length cap'], rfl, ⟨true, ao', cap', L', rfl, unhide G4 _ ?_, unhide G5 _ (.inr ⟨_, _, rfl, by omega⟩), unhide G1, by simp [hn], ?_⟩, ?_⟩
    · refine (two_row _ (w.heap.size + 1) _ _ _ _ (by simp) ?_ ?_).limbs (unhide HF) 2 (by simp)
      · have hm := unhide HM; rw [unhide HW]; omega
      · have hm := unhide HM; rw [unhide HW]; omega
    · exact ⟨by rw [unhide G2, val_two]; exact unhide HM, by simp at g3; omega⟩
    · exact ((Below.refl _ _).alloc (Nat.le_refl _) _).alloc (by simp) _
  · go_enter Try.func43, Try.ntmps43
    go_wp2_with fail
    have hm := unhide HM
    have hR := two_row (w.alloc (.cells #[.bool false, .slice none 0 0] 35)) (w.heap.size + 1) (n % 4294967296) (n / 4294967296) (m % 4294967296) (m / 4294967296) (by simp) (by omega) (by omega)
    refine (trim_any (some ⟨w.heap.size + 1, 0, none⟩) 2 [m % 4294967296, m / 4294967296] _ (hR.limbs (unhide HF) 2 (by simp)) (by simp)).mono ?_
    rintro e w' ⟨v, rfl, ⟨ao', cap', L', rfl, g1, g2, g3, g4, g5⟩, rfl⟩
    have G4 := hide g4
    have G1 := hide g1
    have G2 := hide g2
    have G5 := hide g5
    clear g1 g2 g4 g5 hR hm
    go_wp2
    refine bodyPost_ret (v := .agg #[.bool false, .slice ao' L'.length cap']) (by simp [results, Try.results43, go_sem]) rfl ⟨.agg #[.bool false, .slice ao' L'.length cap'], rfl, ⟨false, ao', cap', L', rfl, unhide G4 _ ?_, unhide G5 _ (.inr ⟨_, _, rfl, by omega⟩), unhide G1, by simp; omega, ?_⟩, ?_⟩
    · refine (two_row _ (w.heap.size + 1) _ _ _ _ (by simp) ?_ ?_).limbs (unhide HF) 2 (by simp)
      · have hm := unhide HM; omega
      · have hm := unhide HM; omega
    · exact ⟨by rw [unhide G2, val_two]; exact unhide HM, by simp at g3; omega⟩
    · exact ((Below.refl _ _).alloc (Nat.le_refl _) _).alloc (by simp) _

end Go.Proofs.Ytnpogpoknbgodaa

/- Same of two numbers; awake. -/
namespace Go.Proofs.Ytnpogpoknbgodaa
open Go.RowKit

theorem sameB_num {na nb : Bool} {A B : List Nat} {x y : Int} (fA : Fits A) (fB : Fits B) (cA : Canon A) (cB : Canon B) (ea : na = decide (x < 0)) (eb : nb = decide (y < 0)) (va : val A = x.natAbs) (vb : val B = y.natAbs) : sameB na A nb B = decide (x = y) := by
  unfold sameB
  rw [decide_eq_decide]
  constructor
  · rintro ⟨h1, h2⟩
    subst h2
    rw [ea, eb, decide_eq_decide] at h1
    omega
  · rintro rfl
    exact ⟨by rw [ea, eb], eq_of_canon A B fA fB cA cB (by omega)⟩

theorem same_num {B B' : Nat} {w : World} {v u : Value} {x y : Int} (hv : IsNum B w v x) (hu : IsNum B' w u y) :
    Calls Try.prog 16 #[v, u] w fun e w' => e = .returned (.bool (decide (x = y))) ∧ Below w.heap.size w w' := by
  obtain ⟨na, ao, ca, A, rfl, a1, a2, a3, a4, a5, a6⟩ := hv
  obtain ⟨nb, bo, cb, C, rfl, b1, b2, b3, b4, b5, b6⟩ := hu
  have := same_any na nb ao bo ca cb A C w a1 b1 a6 b6
  rwa [sameB_num a1.2.1 b1.2.1 a3 b3 a4 b4 a5 b5] at this

/-- A right number's struct: what Add and the like ask. -/
theorem IsNum.right {B : Nat} {w : World} {v : Value} {x : Int} (h : IsNum B w v x) (hx : x.natAbs < TOP) :
    ∃ neg ao cap L, v = .agg #[.bool neg, .slice ao L.length cap] ∧ LimbsAt w ao cap L ∧ rightB neg L = true ∧ sval neg L = x ∧ L.length ≤ 512 := by
  obtain ⟨neg, ao, cap, L, rfl, h1, h2, h3, h4, h5, h6⟩ := h
  have hl : L.length ≤ 512 := (val_lt_TOP L h1.2.1 h3).1 (by omega)
  refine ⟨neg, ao, cap, L, rfl, h1, ?_, ?_, hl⟩
  · have e0 : L.length = 0 → neg = false := fun e => by
      have : L = [] := List.length_eq_zero_iff.1 e
      subst this
      rw [h4]; simp [val] at h5; simp; omega
    have e1 : L.length = 0 ∨ L[L.length - 1]?.getD 0 ≠ 0 := by
      rcases h3 with h | h
      · left; rw [h]; rfl
      · exact .inr h
    simp only [rightB, Bool.and_eq_true, decide_eq_true_eq, Bool.not_eq_true', Bool.and_eq_false_iff, decide_eq_false_iff_not, Bool.or_eq_true]
    refine ⟨⟨hl, ?_⟩, e1⟩
    by_cases e : L.length = 0
    · exact .inr (e0 e)
    · exact .inl e
  · unfold sval
    rw [h4]
    by_cases hx0 : x < 0
    · simp [hx0]; omega
    · simp [hx0]; omega

/-- Add of two right numbers. -/
theorem add_num {B B' : Nat} {w : World} {v u : Value} {x y : Int} (hv : IsNum B w v x) (hu : IsNum B' w u y) (hx : x.natAbs < TOP) (hy : y.natAbs < TOP) :
    Calls Try.prog 55 #[v, u] w fun e w' => ∃ r, e = .returned (.tuple #[r, .int .i64 (errOf (x + y))]) ∧ IsNum w.heap.size w' r (numOf (x + y)) ∧ Below w.heap.size w w' := by
  obtain ⟨na, ao, ca, A, rfl, a1, a2, a3, a4⟩ := hv.right hx
  obtain ⟨nb, bo, cb, C, rfl, b1, b2, b3, b4⟩ := hu.right hy
  have := add_any na nb ao bo ca cb A C w a1 b1 (by omega) (by omega)
  rwa [a2, b2, a3, b3, Bool.and_self, opErr_true, opNum_true] at this

theorem small_TOP (x : Nat) (h : x < 18446744073709551616) : x < TOP := by
  have : (4294967296 ^ 2 : Nat) ≤ 4294967296 ^ TOPN := Nat.pow_le_pow_right (by decide) (by decide)
  unfold TOP
  omega

theorem errOf_small (x : Int) (h : x.natAbs < TOP) : errOf x = 0 := by unfold errOf; rw [if_pos h]
theorem numOf_small (x : Int) (h : x.natAbs < TOP) : numOf x = x := by unfold numOf; rw [if_pos h]

end Go.Proofs.Ytnpogpoknbgodaa

