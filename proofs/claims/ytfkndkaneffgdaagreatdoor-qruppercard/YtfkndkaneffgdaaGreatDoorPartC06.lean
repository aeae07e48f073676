/- Part 6 of the texts. -/
import Derived.Test.YtfkndkaneffgdaaGreatDoorPartC05
import Derived.Test.YtfkndkaneffgdaaGreatDoorPartC04
import Derived.Test.YtfkndkaneffgdaaGreatDoorPartC02
import Derived.Lib.BitFns
/- Contracts of addSigned at different signs; of any two numbers without a 0 on top. -/
namespace Go.Proofs.YtfkndkaneffgdaaGreatDoor
open Go.RowKit
attribute [local go_sem ↓] Go.wp_at_zero Go.wp_at_succ

theorem cmpL_canon (A B : List Nat) (fA : Fits A) (fB : Fits B) (cA : Canon A) (cB : Canon B) : cmpL A B = cmpI (val A) (val B) := by
  unfold cmpL
  split
  · rfl
  · rename_i hl
    rcases Nat.lt_or_gt_of_ne hl with h | h
    · have : val A < val B := by
        have := length_le_of_val B A fA cB
        by_cases hv : val B ≤ val A
        · have := this hv; omega
        · omega
      rw [cmpI_lt (by omega), cmpI_lt (by omega)]
    · have : val B < val A := by
        have := length_le_of_val A B fB cA
        by_cases hv : val A ≤ val B
        · have := this hv; omega
        · omega
      rw [cmpI_gt (by omega), cmpI_gt (by omega)]

set_option maxHeartbeats 1000000 in
theorem addSigned_diff (na nb : Bool) (ao bo : Option Addr) (ca cb : Nat) (A B : List Nat) (w : World) (hA : LimbsAt w ao ca A) (hB : LimbsAt w bo cb B) (la : A.length ≤ 35184372088830) (lb : B.length ≤ 35184372088830) (cA : Canon A) (cB : Canon B) (hn : na ≠ nb) :
    Calls Tryz.prog 202 #[.agg #[.bool na, .slice ao A.length ca], .agg #[.bool nb, .slice bo B.length cb]] w fun e w' => ∃ v, e = .returned (.tuple #[v, .int .i64 (errOf (sval na A + sval nb B))]) ∧ IsNum w.heap.size w' v (numOf (sval na A + sval nb B)) ∧ Below w.heap.size w w' := by
  have hsum : (∀ L : List Nat, val L = val B - val A → val A < val B → sval nb L = sval na A + sval nb B) ∧ (∀ L : List Nat, val L = val A - val B → val B ≤ val A → sval na L = sval na A + sval nb B) := by
    constructor <;> intro L h h' <;> unfold sval <;> cases na <;> cases nb <;> simp at hn <;> simp [h] <;> omega
  have hcm := cmpL_canon A B hA.2.1 hB.2.1 cA cB
  have HS := hide hsum
  clear hsum
  generalize sval na A + sval nb B = z at *
  have hne : (na == nb) = false := by simpa using hn
  have HC := hide hcm
  clear hcm hn
  go_enter Tryz.func202, Tryz.ntmps202
  go_wp2_with fail
  refine (compareLimbs_any ao bo ca cb A B _ (hA.below ?_) (hB.below ?_) (by omega) (by omega)).mono ?_
  · exact (((Below.refl _ _).alloc (Nat.le_refl _) _).alloc (by simp) _).alloc (by simp; omega) _
  · exact (((Below.refl _ _).alloc (Nat.le_refl _) _).alloc (by simp) _).alloc (by simp; omega) _
  rintro e w' ⟨rfl, m, rfl⟩
  rw [unhide HC]
  by_cases hv : val A < val B
  · rw [cmpI_lt (by omega)]
    clear HC
    have HS1 := hide (fun L h => (unhide HS).1 L h hv)
    clear HS
    go_wp2
    refine at_world (fun W => Below w.heap.size w W ∧ W.heap.size = w.heap.size + 3 ∧ Box2 W w.heap.size (.bool na) (.slice ao A.length ca) ∧ Box2 W (w.heap.size + 1) (.bool nb) (.slice bo B.length cb) ∧ Box2 W (w.heap.size + 2) (.bool false) (.slice none 0 0)) ?_ ?_
    · refine ⟨below_drewN ((((Below.refl _ _).alloc (Nat.le_refl _) _).alloc (by simp) _).alloc (by simp; omega) _) _, by simp, (((Box2.new _ _ _).old _).old _).drewN _, ?_, ?_⟩
      · have := ((Box2.new (w.alloc (.cells #[.bool na, .slice ao A.length ca] 107)) (.bool nb) (.slice bo B.length cb)).old (.cells #[.bool false, .slice none 0 0] 107)).drewN m
        simpa using this
      · have := (Box2.new ((w.alloc (.cells #[.bool na, .slice ao A.length ca] 107)).alloc (.cells #[.bool nb, .slice bo B.length cb] 107)) (.bool false) (.slice none 0 0)).drewN m
        simpa using this
    rintro W0 ⟨hw0, hs0, x0, x1, x2⟩
    have hK : ∀ w', Below (w.heap.size + 2) W0 w' → Below (w.heap.size + 2) W0 w' ∧ w'.cell? ⟨w.heap.size + 1, 0, none⟩ = some (.bool nb) ∧ w'.cell? ⟨w.heap.size, 1, none⟩ = some (.slice ao A.length ca) ∧ w'.cell? ⟨w.heap.size + 1, 1, none⟩ = some (.slice bo B.length cb) := fun w' h =>
      ⟨h, (x1.below h (by omega)).c0, (x0.below h (by omega)).c1, (x1.below h (by omega)).c1⟩
    have HK := hide hK
    have HA := hide (hA.below hw0)
    have HB := hide (hB.below hw0)
    have X2 := hide x2
    have HW0 := hide hw0
    have hv' : val A ≤ val B := by omega
    clear hK hA hB x0 x1 x2 hw0
    go_region_held3 (fun w' => Below (w.heap.size + 2) W0 w' ∧ w'.cell? ⟨w.heap.size + 1, 0, none⟩ = some (.bool nb) ∧ w'.cell? ⟨w.heap.size, 1, none⟩ = some (.slice ao A.length ca) ∧ w'.cell? ⟨w.heap.size + 1, 1, none⟩ = some (.slice bo B.length cb))
      (first | exact unhide HK _ (Below.refl _ _).drew | exact unhide HK _ (by assumption) | exact unhide HK _ ((hB2.setCell (by simp) _).setCell (by simp) _))
      (first | (go_at_call 209; refine (subLimbs_any bo ao cb ca B A _ ((unhide HB).below ((Below.refl _ _).drew)) ((unhide HA).below ((Below.refl _ _).drew)) lb la hv').mono ?_; rintro e w1 ⟨ao', cap', L', rfl, g1, g2, g3, g4, hb1⟩; have hB1 : Below (w.heap.size + 2) W0 w1 := ((Below.refl _ _).drew).trans (hb1.mono (by simp [hs0])); have X3 := hide ((unhide X2).drew.below hb1 (by simp [hs0])); have G1 := hide g1; have G2 := hide g2; have G4 := hide g4; have L4 : L'.length ≤ 35184372088832 := (by omega); have s1 := hb1.size; clear g1 g2 g4 g3 hb1) | (go_at_call 181; refine (fit_any _ nb _ _ _ _ (unhide G1) (unhide G2) L4).mono ?_; rintro e w2 ⟨v, rfl, ⟨n2, a2, c2, L2, rfl, i1⟩, hb2⟩; have hB2 : Below (w.heap.size + 2) W0 w2 := hB1.trans (hb2.mono (by simp at s1; omega)); have X4 := (unhide X3).below hb2 (by simp at s1; omega); have y0 := X4.c0; have y1 := X4.c1; have f0 := X4.free 0; have f1 := X4.free 1; have I1 := hide i1; clear i1 hb2 X4))
    have hz := unhide HS1 L' (unhide G4)
    have HI := hide (hz ▸ unhide I1)
    have HE := hide (show errOf (sval nb L') = errOf z by rw [hz])
    clear hz
    go_wp2
    refine bodyPost_ret (v := .tuple #[.agg #[.bool n2, .slice a2 L2.length c2], .int .i64 (errOf (sval nb L'))]) (by simp [results, Tryz.results202, go_sem, y0, y1]) rfl ⟨.agg #[.bool n2, .slice a2 L2.length c2], ?_, ?_, ?_⟩
    · rw [unhide HE]
    · exact IsNum.stored (unhide HI) (by simp; omega) (by simp; omega) (by simp; omega) _ _
    · exact (((unhide HW0).trans (hB2.mono (by omega))).setCell (by simp; omega) _).setCell (by simp; omega) _
  · have hge : ¬ cmpI (val A) (val B) < 0 := by unfold cmpI; rw [if_neg (by omega)]; split <;> omega
    generalize cmpI (val A) (val B) = cm at *
    clear HC
    have HS1 := hide (fun L h => (unhide HS).2 L h (by omega))
    clear HS
    go_wp2
    refine at_world (fun W => Below w.heap.size w W ∧ W.heap.size = w.heap.size + 3 ∧ Box2 W w.heap.size (.bool na) (.slice ao A.length ca) ∧ Box2 W (w.heap.size + 1) (.bool nb) (.slice bo B.length cb) ∧ Box2 W (w.heap.size + 2) (.bool false) (.slice none 0 0)) ?_ ?_
    · refine ⟨below_drewN ((((Below.refl _ _).alloc (Nat.le_refl _) _).alloc (by simp) _).alloc (by simp; omega) _) _, by simp, (((Box2.new _ _ _).old _).old _).drewN _, ?_, ?_⟩
      · have := ((Box2.new (w.alloc (.cells #[.bool na, .slice ao A.length ca] 107)) (.bool nb) (.slice bo B.length cb)).old (.cells #[.bool false, .slice none 0 0] 107)).drewN m
        simpa using this
      · have := (Box2.new ((w.alloc (.cells #[.bool na, .slice ao A.length ca] 107)).alloc (.cells #[.bool nb, .slice bo B.length cb] 107)) (.bool false) (.slice none 0 0)).drewN m
        simpa using this
    rintro W0 ⟨hw0, hs0, x0, x1, x2⟩
    have hK : ∀ w', Below (w.heap.size + 2) W0 w' → Below (w.heap.size + 2) W0 w' ∧ w'.cell? ⟨w.heap.size, 0, none⟩ = some (.bool na) ∧ w'.cell? ⟨w.heap.size, 1, none⟩ = some (.slice ao A.length ca) ∧ w'.cell? ⟨w.heap.size + 1, 1, none⟩ = some (.slice bo B.length cb) := fun w' h =>
      ⟨h, (x0.below h (by omega)).c0, (x0.below h (by omega)).c1, (x1.below h (by omega)).c1⟩
    have HK := hide hK
    have HA := hide (hA.below hw0)
    have HB := hide (hB.below hw0)
    have X2 := hide x2
    have HW0 := hide hw0
    have hv' : val B ≤ val A := by omega
    clear hK hA hB x0 x1 x2 hw0
    go_region_held3 (fun w' => Below (w.heap.size + 2) W0 w' ∧ w'.cell? ⟨w.heap.size, 0, none⟩ = some (.bool na) ∧ w'.cell? ⟨w.heap.size, 1, none⟩ = some (.slice ao A.length ca) ∧ w'.cell? ⟨w.heap.size + 1, 1, none⟩ = some (.slice bo B.length cb))
      (first | exact unhide HK _ (Below.refl _ _).drew | exact unhide HK _ (by assumption) | exact unhide HK _ ((hB2.setCell (by simp) _).setCell (by simp) _))
      (first | (go_at_call 209; refine (subLimbs_any ao bo ca cb A B _ ((unhide HA).below ((Below.refl _ _).drew)) ((unhide HB).below ((Below.refl _ _).drew)) la lb hv').mono ?_; rintro e w1 ⟨ao', cap', L', rfl, g1, g2, g3, g4, hb1⟩; have hB1 : Below (w.heap.size + 2) W0 w1 := ((Below.refl _ _).drew).trans (hb1.mono (by simp [hs0])); have X3 := hide ((unhide X2).drew.below hb1 (by simp [hs0])); have G1 := hide g1; have G2 := hide g2; have G4 := hide g4; have L4 : L'.length ≤ 35184372088832 := (by omega); have s1 := hb1.size; clear g1 g2 g4 g3 hb1) | (go_at_call 181; refine (fit_any _ na _ _ _ _ (unhide G1) (unhide G2) L4).mono ?_; rintro e w2 ⟨v, rfl, ⟨n2, a2, c2, L2, rfl, i1⟩, hb2⟩; have hB2 : Below (w.heap.size + 2) W0 w2 := hB1.trans (hb2.mono (by simp at s1; omega)); have X4 := (unhide X3).below hb2 (by simp at s1; omega); have y0 := X4.c0; have y1 := X4.c1; have f0 := X4.free 0; have f1 := X4.free 1; have I1 := hide i1; clear i1 hb2 X4))
    have hz := unhide HS1 L' (unhide G4)
    have HI := hide (hz ▸ unhide I1)
    have HE := hide (show errOf (sval na L') = errOf z by rw [hz])
    clear hz
    go_wp2
    refine bodyPost_ret (v := .tuple #[.agg #[.bool n2, .slice a2 L2.length c2], .int .i64 (errOf (sval na L'))]) (by simp [results, Tryz.results202, go_sem, y0, y1]) rfl ⟨.agg #[.bool n2, .slice a2 L2.length c2], ?_, ?_, ?_⟩
    · rw [unhide HE]
    · exact IsNum.stored (unhide HI) (by simp; omega) (by simp; omega) (by simp; omega) _ _
    · exact (((unhide HW0).trans (hB2.mono (by omega))).setCell (by simp; omega) _).setCell (by simp; omega) _

theorem addSigned_any (na nb : Bool) (ao bo : Option Addr) (ca cb : Nat) (A B : List Nat) (w : World) (hA : LimbsAt w ao ca A) (hB : LimbsAt w bo cb B) (la : A.length ≤ 35184372088830) (lb : B.length ≤ 35184372088830) (cA : Canon A) (cB : Canon B) :
    Calls Tryz.prog 202 #[.agg #[.bool na, .slice ao A.length ca], .agg #[.bool nb, .slice bo B.length cb]] w fun e w' => ∃ v, e = .returned (.tuple #[v, .int .i64 (errOf (sval na A + sval nb B))]) ∧ IsNum w.heap.size w' v (numOf (sval na A + sval nb B)) ∧ Below w.heap.size w w' := by
  by_cases hn : na = nb
  · subst hn; exact addSigned_same na ao bo ca cb A B w hA hB la lb
  · exact addSigned_diff na nb ao bo ca cb A B w hA hB la lb cA cB hn

end Go.Proofs.YtfkndkaneffgdaaGreatDoor

/- Contracts of Of, checkBoth. -/
namespace Go.Proofs.YtfkndkaneffgdaaGreatDoor
open Go.RowKit
attribute [local go_sem ↓] Go.wp_at_zero Go.wp_at_succ

/-- What checkBoth says. -/
def chk2 (na : Bool) (A : List Nat) (nb : Bool) (B : List Nat) : Int := if rightB na A && rightB nb B then 0 else 1

set_option maxHeartbeats 400000 in
theorem checkBoth_any (na nb : Bool) (ao bo : Option Addr) (ca cb : Nat) (A B : List Nat) (w : World) (hA : LimbsAt w ao ca A) (hB : LimbsAt w bo cb B) (la : A.length ≤ 35184372088830) (lb : B.length ≤ 35184372088830) :
    Calls Tryz.prog 198 #[.agg #[.bool na, .slice ao A.length ca], .agg #[.bool nb, .slice bo B.length cb]] w fun e w' => e = .returned (.int .i64 (chk2 na A nb B)) ∧ Below w.heap.size w w' := by
  have hE : (rightB na A = false → chk2 na A nb B = 1) ∧ (rightB na A = true → chk2 na A nb B = chkE nb B) := by
    constructor <;> intro h <;> simp [chk2, chkE, h]
  have HE := hide hE
  clear hE
  generalize chk2 na A nb B = r at *
  go_enter Tryz.func198, Tryz.ntmps198
  go_wp2_with fail
  refine (check_any na ao ca A _ (hA.below (((Below.refl _ _).alloc (Nat.le_refl _) _).alloc (by simp) _)) la).mono ?_
  rintro e w1 ⟨rfl, hb1⟩
  have hb2 : Below w.heap.size w w1 := (((Below.refl _ _).alloc (Nat.le_refl _) _).alloc (by simp) _).trans (hb1.mono (by simp; omega))
  have hc0 : w1.cell? ⟨w.heap.size + 1, 0, none⟩ = some (.bool nb) := by rw [hb1.cell (p := ⟨w.heap.size + 1, 0, none⟩) (by simp)]; simp [go_sem]
  have hc1 : w1.cell? ⟨w.heap.size + 1, 1, none⟩ = some (.slice bo B.length cb) := by rw [hb1.cell (p := ⟨w.heap.size + 1, 1, none⟩) (by simp)]; simp [go_sem]
  clear hb1
  cases hr : rightB na A
  · have H0 := hide ((unhide HE).1 hr)
    have hc : chkE na A = 1 := by simp [chkE, hr]
    rw [hc]
    clear hc hr HE
    go_wp2
    go_ret
    exact ⟨ret_int (unhide H0).symm, hb2⟩
  · have H0 := hide ((unhide HE).2 hr)
    have hc : chkE na A = 0 := by simp [chkE, hr]
    rw [hc]
    clear hc hr HE
    go_wp2_with fail
    refine (check_any nb bo cb B _ (hB.below hb2) lb).mono ?_
    rintro e w2 ⟨rfl, hb3⟩
    go_wp2
    go_ret
    exact ⟨ret_int (unhide H0).symm, hb2.trans (hb3.mono hb2.size)⟩

end Go.Proofs.YtfkndkaneffgdaaGreatDoor

/- Contracts of Add, Sub. -/
namespace Go.Proofs.YtfkndkaneffgdaaGreatDoor
open Go.RowKit

/-- What an operation answers: ok: are its numbers right; z: what it comes to. -/
def opErr (ok : Bool) (z : Int) : Int := if ok then errOf z else 1
def opNum (ok : Bool) (z : Int) : Int := if ok then numOf z else 0

theorem opErr_true (z : Int) : opErr true z = errOf z := by unfold opErr; rw [if_pos rfl]
theorem opNum_true (z : Int) : opNum true z = numOf z := by unfold opNum; rw [if_pos rfl]
theorem opErr_false (z : Int) : opErr false z = 1 := by unfold opErr; rw [if_neg (by decide)]
theorem opNum_false (z : Int) : opNum false z = 0 := by unfold opNum; rw [if_neg (by decide)]

theorem right_canon {neg : Bool} {L : List Nat} (h : rightB neg L = true) : L.length ≤ 512 ∧ Canon L ∧ (neg = true → L ≠ []) := by
  simp only [rightB, Bool.and_eq_true, decide_eq_true_eq, Bool.not_eq_true', Bool.and_eq_false_iff, decide_eq_false_iff_not, Bool.or_eq_true] at h
  obtain ⟨⟨h1, h2⟩, h3⟩ := h
  refine ⟨h1, ?_, ?_⟩
  · rcases h3 with h3 | h3
    · exact .inl (List.length_eq_zero_iff.1 h3)
    · exact .inr h3
  · rintro hn rfl
    rcases h2 with h2 | h2
    · simp at h2
    · rw [hn] at h2; cases h2

set_option maxHeartbeats 400000 in
theorem add_any (na nb : Bool) (ao bo : Option Addr) (ca cb : Nat) (A B : List Nat) (w : World) (hA : LimbsAt w ao ca A) (hB : LimbsAt w bo cb B) (la : A.length ≤ 35184372088830) (lb : B.length ≤ 35184372088830) :
    Calls Tryz.prog 193 #[.agg #[.bool na, .slice ao A.length ca], .agg #[.bool nb, .slice bo B.length cb]] w fun e w' => ∃ v, e = .returned (.tuple #[v, .int .i64 (opErr (rightB na A && rightB nb B) (sval na A + sval nb B))]) ∧ IsNum w.heap.size w' v (opNum (rightB na A && rightB nb B) (sval na A + sval nb B)) ∧ Below w.heap.size w w' := by
  have hC : (rightB na A && rightB nb B) = true → Canon A ∧ Canon B := fun h => by
    simp only [Bool.and_eq_true] at h; exact ⟨(right_canon h.1).2.1, (right_canon h.2).2.1⟩
  have HC := hide hC
  have H2 := hide (show chk2 na A nb B = if (rightB na A && rightB nb B) then 0 else 1 from rfl)
  clear hC
  generalize hok : (rightB na A && rightB nb B) = ok at *
  clear hok
  go_enter Tryz.func193, Tryz.ntmps193
  go_wp2_with fail
  have hb0 : Below w.heap.size w (((w.alloc (.cells #[.bool na, .slice ao A.length ca] 107)).alloc (.cells #[.bool nb, .slice bo B.length cb] 107)).alloc (.cells #[.bool false, .slice none 0 0] 107)) :=
    (((Below.refl _ _).alloc (Nat.le_refl _) _).alloc (by simp) _).alloc (by simp; omega) _
  refine (checkBoth_any na nb ao bo ca cb A B _ (hA.below hb0) (hB.below hb0) la lb).mono ?_
  rintro e w1 ⟨rfl, hb1⟩
  have hs1 : w.heap.size + 3 ≤ w1.heap.size := by have := hb1.size; simpa using this
  have hb2 : Below w.heap.size w w1 := hb0.trans (hb1.mono (by simp; omega))
  have p0 : w1.cell? ⟨w.heap.size, 0, none⟩ = some (.bool na) := by rw [hb1.cell (p := ⟨w.heap.size, 0, none⟩) (by simp; omega)]; simp [go_sem]
  have p1 : w1.cell? ⟨w.heap.size, 1, none⟩ = some (.slice ao A.length ca) := by rw [hb1.cell (p := ⟨w.heap.size, 1, none⟩) (by simp; omega)]; simp [go_sem]
  have q0 : w1.cell? ⟨w.heap.size + 1, 0, none⟩ = some (.bool nb) := by rw [hb1.cell (p := ⟨w.heap.size + 1, 0, none⟩) (by simp)]; simp [go_sem]
  have q1 : w1.cell? ⟨w.heap.size + 1, 1, none⟩ = some (.slice bo B.length cb) := by rw [hb1.cell (p := ⟨w.heap.size + 1, 1, none⟩) (by simp)]; simp [go_sem]
  have r2 : Box2 w1 (w.heap.size + 2) (.bool false) (.slice none 0 0) := by
    have := Box2.new ((w.alloc (.cells #[.bool na, .slice ao A.length ca] 107)).alloc (.cells #[.bool nb, .slice bo B.length cb] 107)) (.bool false) (.slice none 0 0)
    exact Box2.below (by simpa using this) hb1 (by simp)
  rw [unhide H2]
  clear hb1 H2 hb0
  cases ok
  · simp only [Bool.false_eq_true, if_false]
    have y0 := r2.c0; have y1 := r2.c1; have f0 := r2.free 0; have f1 := r2.free 1
    go_wp2
    refine bodyPost_ret (v := .tuple #[.agg #[.bool false, .slice none 0 0], .int .i64 1]) (by simp [results, Tryz.results193, go_sem, y0, y1]) rfl ⟨.agg #[.bool false, .slice none 0 0], by rw [opErr_false], by rw [opNum_false]; exact IsNum.zero _ _ _ _, ?_⟩
    exact (hb2.setCell (by simp; omega) _).setCell (by simp; omega) _
  · obtain ⟨cA, cB⟩ := unhide HC rfl
    have CA := hide cA
    have CB := hide cB
    clear cA cB
    simp only [if_true]
    go_wp2_with fail
    refine (addSigned_any na nb ao bo ca cb A B _ (hA.below hb2) (hB.below hb2) la lb (unhide CA) (unhide CB)).mono ?_
    rintro e w2 ⟨v, rfl, ⟨n2, a2, c2, L2, rfl, i1⟩, hb3⟩
    have r3 := r2.below hb3 (by omega)
    have y0 := r3.c0; have y1 := r3.c1; have f0 := r3.free 0; have f1 := r3.free 1
    have I1 := hide i1
    have hb4 := hb2.trans (hb3.mono hb2.size)
    clear i1
    go_wp2
    refine bodyPost_ret (v := .tuple #[.agg #[.bool n2, .slice a2 L2.length c2], .int .i64 (errOf (sval na A + sval nb B))]) (by simp [results, Tryz.results193, go_sem, y0, y1]) rfl ⟨.agg #[.bool n2, .slice a2 L2.length c2], by rw [opErr_true], ?_, ?_⟩
    · rw [opNum_true]; exact IsNum.stored (unhide I1) (by simp; omega) (by simp; omega) (by omega) _ _
    · exact (hb4.setCell (by simp; omega) _).setCell (by simp; omega) _

end Go.Proofs.YtfkndkaneffgdaaGreatDoor

/- Contracts of the reference's Neg, Sub, Compare. -/
namespace Go.Proofs.YtfkndkaneffgdaaGreatDoor
open Go.RowKit
attribute [local go_sem ↓] Go.wp_at_zero Go.wp_at_succ

theorem LimbsAt.box {w : World} {ao : Option Addr} {cap g : Nat} {L : List Nat} (h : LimbsAt w ao cap L) {x : Bool} {a : Option Addr} {n c : Nat} (hx : Box2 w g (.bool x) (.slice a n c)) (u u' : Value) :
    LimbsAt ((w.setCell ⟨g, 0, none⟩ u).setCell ⟨g, 1, none⟩ u') ao cap L := by
  refine ⟨h.1, h.2.1, ?_⟩
  rcases h.2.2 with h0 | ⟨b, off, h1, h2, h3⟩
  · exact .inl h0
  · by_cases he : L = []
    · exact .inl he
    · have hp : 0 < L.length := List.length_pos_iff.2 he
      have hne : b ≠ g := by
        rintro rfl
        have h4 := h3 0 hp
        rw [cell_of_row w b (off + 0) _ _ _ hx] at h4
        rcases (show off = 0 ∨ off = 1 ∨ 2 ≤ off by omega) with e | e | e
        · subst e; simp at h4
        · subst e; simp at h4
        · rw [Array.getElem?_eq_none (by simp; omega)] at h4; simp at h4
      refine .inr ⟨b, off, h1, by simpa [World.setCell] using h2, fun i hi => ?_⟩
      rw [cell_setCell_other _ _ _ _ (by simpa using hne), cell_setCell_other _ _ _ _ (by simpa using hne)]
      exact h3 i hi

end Go.Proofs.YtfkndkaneffgdaaGreatDoor

/- Contract of bits.Len32. -/
namespace Go.Proofs.YtfkndkaneffgdaaGreatDoor
open Go.RowKit

set_option maxHeartbeats 4000000 in
set_option maxRecDepth 100000 in
theorem len32_any (x : Int) (w : World) (h0 : 0 ≤ x) (h1 : x ≤ 4294967295) :
    Calls Tryz.prog 178 #[.int .u32 x] w fun e w' => e = .returned (.int .i64 (Lib.bitLen x.toNat)) ∧ w = w' := by
  rcases (show x < 256 ∨ (256 ≤ x ∧ x < 65536) ∨ (65536 ≤ x ∧ x < 16777216) ∨ 16777216 ≤ x by omega) with h | ⟨ha, hb⟩ | ⟨ha, hb⟩ | h
  · have hi := fun w => Lib.run_index_len8tab (P := Tryz.prog) w 9 .u8 (x) Tryz.underlying9 (by omega) (by omega)
    have l1 := Lib.len8_eq ⟨(x).toNat, by omega⟩
    have l2 := Lib.bitLen_le8 ⟨(x).toNat, by omega⟩
    have hl0 : 0 ≤ Lib.len8 (x) := by simp only [Int.toNat_of_nonneg (show 0 ≤ x by omega)] at l1; rw [l1]; omega
    have hl8 : Lib.len8 (x) ≤ 8 := by simp only [Int.toNat_of_nonneg (show 0 ≤ x by omega)] at l1; rw [l1]; simp only at l2; omega
    have HE : Hid (Lib.len8 (x) = (Lib.bitLen (x).toNat : Int)) := by unfold Hid; simp only [Int.toNat_of_nonneg (show 0 ≤ x by omega)] at l1; exact l1
    clear l1 l2
    go_enter Tryz.func178, Tryz.ntmps178
    go_wp2
    go_ret
    refine ⟨ret_int ?_, rfl⟩
    rw [HE.out]
  · have hi := fun w => Lib.run_index_len8tab (P := Tryz.prog) w 9 .u8 (x / 256) Tryz.underlying9 (by omega) (by omega)
    have l1 := Lib.len8_eq ⟨(x / 256).toNat, by omega⟩
    have l2 := Lib.bitLen_le8 ⟨(x / 256).toNat, by omega⟩
    have hl0 : 0 ≤ Lib.len8 (x / 256) := by simp only [Int.toNat_of_nonneg (show 0 ≤ x / 256 by omega)] at l1; rw [l1]; omega
    have hl8 : Lib.len8 (x / 256) ≤ 8 := by simp only [Int.toNat_of_nonneg (show 0 ≤ x / 256 by omega)] at l1; rw [l1]; simp only at l2; omega
    have HE : Hid (Lib.len8 (x / 256) = (Lib.bitLen (x / 256).toNat : Int)) := by unfold Hid; simp only [Int.toNat_of_nonneg (show 0 ≤ x / 256 by omega)] at l1; exact l1
    clear l1 l2
    go_enter Tryz.func178, Tryz.ntmps178
    go_wp2
    go_ret
    refine ⟨ret_int ?_, rfl⟩
    rw [HE.out]
    have s := Lib.bitLen_shift8 x.toNat (by omega) (by omega)
    rw [show (x / 256).toNat = x.toNat / 256 by omega]
    omega
  · have hi := fun w => Lib.run_index_len8tab (P := Tryz.prog) w 9 .u8 (x / 65536) Tryz.underlying9 (by omega) (by omega)
    have l1 := Lib.len8_eq ⟨(x / 65536).toNat, by omega⟩
    have l2 := Lib.bitLen_le8 ⟨(x / 65536).toNat, by omega⟩
    have hl0 : 0 ≤ Lib.len8 (x / 65536) := by simp only [Int.toNat_of_nonneg (show 0 ≤ x / 65536 by omega)] at l1; rw [l1]; omega
    have hl8 : Lib.len8 (x / 65536) ≤ 8 := by simp only [Int.toNat_of_nonneg (show 0 ≤ x / 65536 by omega)] at l1; rw [l1]; simp only at l2; omega
    have HE : Hid (Lib.len8 (x / 65536) = (Lib.bitLen (x / 65536).toNat : Int)) := by unfold Hid; simp only [Int.toNat_of_nonneg (show 0 ≤ x / 65536 by omega)] at l1; exact l1
    clear l1 l2
    go_enter Tryz.func178, Tryz.ntmps178
    go_wp2
    go_ret
    refine ⟨ret_int ?_, rfl⟩
    rw [HE.out]
    have s := Lib.bitLen_shift16 x.toNat (by omega) (by omega)
    rw [show (x / 65536).toNat = x.toNat / 65536 by omega]
    omega
  · have hi := fun w => Lib.run_index_len8tab (P := Tryz.prog) w 9 .u8 (x / 65536 / 256) Tryz.underlying9 (by omega) (by omega)
    have l1 := Lib.len8_eq ⟨(x / 65536 / 256).toNat, by omega⟩
    have l2 := Lib.bitLen_le8 ⟨(x / 65536 / 256).toNat, by omega⟩
    have hl0 : 0 ≤ Lib.len8 (x / 65536 / 256) := by simp only [Int.toNat_of_nonneg (show 0 ≤ x / 65536 / 256 by omega)] at l1; rw [l1]; omega
    have hl8 : Lib.len8 (x / 65536 / 256) ≤ 8 := by simp only [Int.toNat_of_nonneg (show 0 ≤ x / 65536 / 256 by omega)] at l1; rw [l1]; simp only at l2; omega
    have HE : Hid (Lib.len8 (x / 65536 / 256) = (Lib.bitLen (x / 65536 / 256).toNat : Int)) := by unfold Hid; simp only [Int.toNat_of_nonneg (show 0 ≤ x / 65536 / 256 by omega)] at l1; exact l1
    clear l1 l2
    go_enter Tryz.func178, Tryz.ntmps178
    go_wp2
    go_ret
    refine ⟨ret_int ?_, rfl⟩
    rw [HE.out]
    have s := Lib.bitLen_shift24 x.toNat (by omega) (by omega)
    rw [show (x / 65536 / 256).toNat = x.toNat / 16777216 by omega]
    omega

end Go.Proofs.YtfkndkaneffgdaaGreatDoor

