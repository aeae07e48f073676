/- Contracts of Len, Compare, and the reference's Len, Compare; of form. -/
import Derived.Test.YtiebegjgaflfiaaR6
namespace Go.Proofs.Ytiebegjgaflfiaa
open Go.RowKit

theorem bitLen_fuel : ∀ (f x : Nat), x < 2 ^ f → Lib.bitLenAux (f + 1) x = Lib.bitLenAux f x
  | 0, x, h => by simp at h; subst h; rfl
  | f + 1, x, h => by
    have ih := bitLen_fuel f (x / 2) (by rw [Nat.pow_succ] at h; omega)
    have e1 : Lib.bitLenAux (f + 1 + 1) x = if x = 0 then 0 else 1 + Lib.bitLenAux (f + 1) (x / 2) := rfl
    have e2 : Lib.bitLenAux (f + 1) x = if x = 0 then 0 else 1 + Lib.bitLenAux f (x / 2) := rfl
    rw [e1, e2, ih]

theorem bitLen_half (t : Nat) (h0 : 0 < t) (h : t < 4294967296) : Lib.bitLen t = 1 + Lib.bitLen (t / 2) := by
  have e1 : Lib.bitLen t = 1 + Lib.bitLenAux 63 (t / 2) := by
    unfold Lib.bitLen
    rw [Lib.bitLenAux, if_neg (by omega)]
  rw [e1]
  unfold Lib.bitLen
  rw [← bitLen_fuel 63 (t / 2) (by omega)]
theorem bitLen_zero : Lib.bitLen 0 = 0 := rfl
theorem bitLen_le (t : Nat) : Lib.bitLen t ≤ 64 := by
  have : ∀ f x, Lib.bitLenAux f x ≤ f := by
    intro f
    induction f with
    | zero => intro x; simp [Lib.bitLenAux]
    | succ f ih => intro x; rw [Lib.bitLenAux]; split; omega; have := ih (x / 2); omega
  exact this 64 t

/-- How many bits limbs have, the last being the topmost. -/
def lenL (L : List Nat) : Int := if L.length = 0 then 0 else 32 * ((L.length : Int) - 1) + (Lib.bitLen (L[L.length - 1]?.getD 0) : Int)

set_option maxHeartbeats 400000 in
theorem len_any (neg : Bool) (ao : Option Addr) (cap : Nat) (L : List Nat) (w : World) (h : LimbsAt w ao cap L) (hl : L.length ≤ 35184372088830) :
    Calls Try.prog 28 #[.agg #[.bool neg, .slice ao L.length cap]] w fun e w' => e = .returned (.int .i64 (lenL L)) ∧ Below w.heap.size w w' := by
  by_cases h0 : L = []
  · subst h0
    go_enter Try.func28, Try.ntmps28
    go_wp2
    go_ret
    exact ⟨ret_int (by simp [lenL]), (Below.refl _ _).alloc (Nat.le_refl _) _⟩
  obtain ⟨b, off, rfl, hb, hc⟩ := h.ne (List.length_pos_iff.2 h0)
  have hp : 0 < L.length := List.length_pos_iff.2 h0
  have hc1 := hc (L.length - 1) (by omega)
  have hx := h.lt (L.length - 1)
  have HE : Hid (lenL L = 32 * ((L.length : Int) - 1) + (Lib.bitLen (L[L.length - 1]?.getD 0) : Int)) := by unfold Hid lenL; rw [if_neg (by omega)]
  generalize lenL L = r at *
  generalize hn : L.length = n at *
  generalize L[n - 1]?.getD 0 = x at *
  clear hn h hc h0
  have hbx := bitLen_le x
  have hne : ((n : Int) == 0) = false := by simp; omega
  go_enter Try.func28, Try.ntmps28
  go_wp2_with (go_at_call 48; refine (len32_any _ _ (by omega) (by omega)).mono ?_; rw [Int.toNat_natCast]; rintro e w' ⟨rfl, rfl⟩)
  go_ret
  exact ⟨ret_int (by rw [HE.out]; omega), (Below.refl _ _).alloc (Nat.le_refl _) _⟩

set_option maxHeartbeats 400000 in
theorem refLen_any (neg : Bool) (ao : Option Addr) (cap : Nat) (L : List Nat) (w : World) (h : LimbsAt w ao cap L) (hl : L.length ≤ 35184372088830) :
    Calls Try.prog 29 #[.agg #[.bool neg, .slice ao L.length cap]] w fun e w' => e = .returned (.int .i64 (lenL L)) ∧ Below w.heap.size w w' := by
  by_cases h0 : L = []
  · subst h0
    go_enter Try.func29, Try.ntmps29
    go_wp2
    go_ret
    exact ⟨ret_int (by simp [lenL]), (Below.refl _ _).alloc (Nat.le_refl _) _⟩
  obtain ⟨b, off, rfl, hb, hc⟩ := h.ne (List.length_pos_iff.2 h0)
  have hp : 0 < L.length := List.length_pos_iff.2 h0
  have hc1 := hc (L.length - 1) (by omega)
  have hx := h.lt (L.length - 1)
  have HE : Hid (lenL L = 32 * ((L.length : Int) - 1) + (Lib.bitLen (L[L.length - 1]?.getD 0) : Int)) := by unfold Hid lenL; rw [if_neg (by omega)]
  generalize lenL L = r at *
  generalize hn : L.length = n at *
  generalize L[n - 1]?.getD 0 = x at *
  clear hn h hc h0
  have hbx := bitLen_le x
  have hne : ((n : Int) == 0) = false := by simp; omega
  go_enter Try.func29, Try.ntmps29
  go_wp2
  go_loop [3, 4] (fun m t => ∃ (k y : Nat), m = .int .i64 (32 * ((n : Int) - 1) + (k : Int)) ∧ t = .int .u32 (y : Int) ∧ y < 4294967296 ∧ k ≤ 64 ∧ Hid (k + Lib.bitLen y = Lib.bitLen x)) (fun _ t => (intOf t).toNat)
  case atStart => exact ⟨0, x, int_eq (by omega), rfl, hx, by omega, by unfold Hid; omega⟩
  case round =>
    obtain ⟨k, y, rfl, rfl, hy, hk, hv⟩ := hrel
    by_cases hy0 : y = 0
    · subst hy0
      have hv' := hv.out
      rw [bitLen_zero] at hv'
      have HV := hide hv'
      clear hv' hv
      go_wp2
      go_ret
      exact ⟨ret_int (by rw [HE.out]; have := unhide HV; omega), (Below.refl _ _).alloc (Nat.le_refl _) _⟩
    · have hh := bitLen_half y (by omega) hy
      have hv' := hv.out
      have HV := hide (show k + 1 + Lib.bitLen (y / 2) = Lib.bitLen x by omega)
      have hk' : k + 1 ≤ 64 := by omega
      clear hh hv' hv
      go_wp2
      go_round
      case rel => exact ⟨k + 1, y / 2, int_eq (by omega), int_eq (by omega), by omega, hk', unhide HV⟩
      case measure => simp [intOf]; omega

set_option maxHeartbeats 400000 in
theorem form_any (na nb : Bool) (ao bo : Option Addr) (ca cb : Nat) (A B : List Nat) (w : World) (hA : LimbsAt w ao ca A) (hB : LimbsAt w bo cb B) (la : A.length ≤ 35184372088830) (lb : B.length ≤ 35184372088830) :
    Calls Try.prog 19 #[.agg #[.bool na, .slice ao A.length ca], .agg #[.bool nb, .slice bo B.length cb]] w fun e w' => e = .returned (.int .i64 (chk2 na A nb B)) ∧ Below w.heap.size w w' := by
  have hE : (rightB na A = false → chk2 na A nb B = 1) ∧ (rightB na A = true → rightB nb B = false → chk2 na A nb B = 1) ∧ (rightB na A = true → rightB nb B = true → chk2 na A nb B = 0) := by
    refine ⟨fun h => ?_, fun h h' => ?_, fun h h' => ?_⟩ <;> simp [chk2, *]
  have HE := hide hE
  clear hE
  generalize chk2 na A nb B = r at *
  go_enter Try.func19, Try.ntmps19
  go_wp2_with fail
  refine (right_any na ao ca A _ (hA.below (((Below.refl _ _).alloc (Nat.le_refl _) _).alloc (by simp) _)) la).mono ?_
  rintro e w1 ⟨rfl, hb1⟩
  have hb2 : Below w.heap.size w w1 := (((Below.refl _ _).alloc (Nat.le_refl _) _).alloc (by simp) _).trans (hb1.mono (by simp; omega))
  have hc0 : w1.cell? ⟨w.heap.size + 1, 0, none⟩ = some (.bool nb) := by rw [hb1.cell (p := ⟨w.heap.size + 1, 0, none⟩) (by simp)]; simp [go_sem]
  have hc1 : w1.cell? ⟨w.heap.size + 1, 1, none⟩ = some (.slice bo B.length cb) := by rw [hb1.cell (p := ⟨w.heap.size + 1, 1, none⟩) (by simp)]; simp [go_sem]
  clear hb1
  cases hr : rightB na A
  · have H0 := hide ((unhide HE).1 hr)
    clear hr HE
    go_wp2
    go_ret
    exact ⟨ret_int (unhide H0).symm, hb2⟩
  · have H1 := hide ((unhide HE).2.1 hr)
    have H2 := hide ((unhide HE).2.2 hr)
    clear hr HE
    go_wp2_with fail
    refine (right_any nb bo cb B _ (hB.below hb2) lb).mono ?_
    rintro e w2 ⟨rfl, hb3⟩
    have hb4 := hb2.trans (hb3.mono hb2.size)
    clear hb3
    cases hr2 : rightB nb B
    · have H0 := hide (unhide H1 hr2)
      clear hr2 H1 H2
      go_wp2
      go_ret
      exact ⟨ret_int (unhide H0).symm, hb4⟩
    · have H0 := hide (unhide H2 hr2)
      clear hr2 H1 H2
      go_wp2
      go_ret
      exact ⟨ret_int (unhide H0).symm, hb4⟩

theorem ret_int2 {k k' : IntKind} {a b c d : Int} (h : a = b) (h' : c = d) : Ending.returned (.tuple #[.int k a, .int k' c]) = .returned (.tuple #[.int k b, .int k' d]) := by rw [h, h']

/-- What Compare says. -/
def cmpE (na : Bool) (A : List Nat) (nb : Bool) (B : List Nat) : Int := if rightB na A && rightB nb B then cmpI (sval na A) (sval nb B) else 0

theorem val_pos {neg : Bool} {L : List Nat} (h : rightB neg L = true) (hn : neg = true) : 0 < val L := by
  have h1 := right_canon h
  have := val_zero_of_canon L h1.2.1
  rcases Nat.eq_zero_or_pos (val L) with e | e
  · exact absurd (this.1 e) (h1.2.2 hn)
  · exact e

set_option maxHeartbeats 400000 in
theorem compare_any (na nb : Bool) (ao bo : Option Addr) (ca cb : Nat) (A B : List Nat) (w : World) (hA : LimbsAt w ao ca A) (hB : LimbsAt w bo cb B) (la : A.length ≤ 35184372088830) (lb : B.length ≤ 35184372088830) :
    Calls Try.prog 26 #[.agg #[.bool na, .slice ao A.length ca], .agg #[.bool nb, .slice bo B.length cb]] w fun e w' => e = .returned (.tuple #[.int .i64 (cmpE na A nb B), .int .i64 (chk2 na A nb B)]) ∧ Below w.heap.size w w' := by
  have hF : (rightB na A && rightB nb B) = false → chk2 na A nb B = 1 ∧ cmpE na A nb B = 0 := fun h => by simp [chk2, cmpE, h]
  have hT : (rightB na A && rightB nb B) = true → chk2 na A nb B = 0 ∧ (na = false → nb = false → cmpL A B = cmpE na A nb B) ∧ (na = false → nb = true → cmpE na A nb B = 1) ∧ (na = true → nb = false → cmpE na A nb B = -1) ∧ (na = true → nb = true → cmpL B A = cmpE na A nb B) := by
    intro hr
    have hE : cmpE na A nb B = cmpI (sval na A) (sval nb B) := by unfold cmpE; rw [if_pos hr]
    have hc : chk2 na A nb B = 0 := by simp [chk2, hr]
    simp only [Bool.and_eq_true] at hr
    have vA := val_pos hr.1
    have vB := val_pos hr.2
    have c1 := (right_canon hr.1).2.1
    have c2 := (right_canon hr.2).2.1
    have m1 := cmpL_canon A B hA.2.1 hB.2.1 c1 c2
    have m2 := cmpL_canon B A hB.2.1 hA.2.1 c2 c1
    rw [hE]
    refine ⟨hc, ?_, ?_, ?_, ?_⟩
    · rintro rfl rfl; rw [m1]; simp [sval]
    · rintro rfl rfl; rw [cmpI_gt]; have := vB rfl; simp [sval]; omega
    · rintro rfl rfl; rw [cmpI_lt]; have := vA rfl; simp [sval]; omega
    · rintro rfl rfl; rw [m2]; simp only [sval, cmpI, if_true]; split <;> split <;> (try split) <;> omega
  have HF := hide hF
  have HT := hide hT
  clear hF hT
  generalize hok : (rightB na A && rightB nb B) = ok at *
  clear hok
  generalize cmpE na A nb B = r at *
  generalize hcc : chk2 na A nb B = c at *
  have HCC := hide hcc
  clear hcc
  go_enter Try.func26, Try.ntmps26
  go_wp2_with fail
  have hb0 : Below w.heap.size w ((w.alloc (.cells #[.bool na, .slice ao A.length ca] 24)).alloc (.cells #[.bool nb, .slice bo B.length cb] 24)) := ((Below.refl _ _).alloc (Nat.le_refl _) _).alloc (by simp) _
  refine (checkBoth_any na nb ao bo ca cb A B _ (hA.below hb0) (hB.below hb0) la lb).mono ?_
  rw [unhide HCC]
  rintro e w1 ⟨rfl, hb1⟩
  have hb2 : Below w.heap.size w w1 := hb0.trans (hb1.mono (by simp; omega))
  have p0 : w1.cell? ⟨w.heap.size, 0, none⟩ = some (.bool na) := by rw [hb1.cell (p := ⟨w.heap.size, 0, none⟩) (by simp; omega)]; simp [go_sem]
  have p1 : w1.cell? ⟨w.heap.size, 1, none⟩ = some (.slice ao A.length ca) := by rw [hb1.cell (p := ⟨w.heap.size, 1, none⟩) (by simp; omega)]; simp [go_sem]
  have q0 : w1.cell? ⟨w.heap.size + 1, 0, none⟩ = some (.bool nb) := by rw [hb1.cell (p := ⟨w.heap.size + 1, 0, none⟩) (by simp)]; simp [go_sem]
  have q1 : w1.cell? ⟨w.heap.size + 1, 1, none⟩ = some (.slice bo B.length cb) := by rw [hb1.cell (p := ⟨w.heap.size + 1, 1, none⟩) (by simp)]; simp [go_sem]
  clear hb1 hb0
  cases ok
  · obtain ⟨hc, hr⟩ := unhide HF rfl
    rw [hc]
    have HC := hide hc
    have HE := hide hr
    clear hc hr HCC HF HT
    go_wp2
    go_ret2
    exact ⟨ret_int2 (unhide HE).symm (unhide HC).symm, hb2⟩
  · obtain ⟨hc, t1, t2, t3, t4⟩ := unhide HT rfl
    rw [hc]
    have HC := hide hc
    have T1 := hide t1; have T2 := hide t2; have T3 := hide t3; have T4 := hide t4
    clear hc HCC HF HT t1 t2 t3 t4
    cases na <;> cases nb
    · have HE := hide (unhide T1 rfl rfl)
      clear T1 T2 T3 T4
      go_wp2_with (go_at_call 47; refine (compareLimbs_any ao bo ca cb A B _ (hA.below hb2) (hB.below hb2) (by omega) (by omega)).mono ?_; rw [unhide HE]; rintro e w' ⟨rfl, m, rfl⟩)
      go_ret2
      exact ⟨ret_int2 rfl (unhide HC).symm, below_drewN hb2 _⟩
    · have HE := hide (unhide T2 rfl rfl)
      clear T1 T2 T3 T4
      go_wp2
      go_ret2
      exact ⟨ret_int2 (unhide HE).symm (unhide HC).symm, hb2⟩
    · have HE := hide (unhide T3 rfl rfl)
      clear T1 T2 T3 T4
      go_wp2
      go_ret2
      exact ⟨ret_int2 (unhide HE).symm (unhide HC).symm, hb2⟩
    · have HE := hide (unhide T4 rfl rfl)
      clear T1 T2 T3 T4
      go_wp2_with (go_at_call 47; refine (compareLimbs_any bo ao cb ca B A _ (hB.below hb2) (hA.below hb2) (by omega) (by omega)).mono ?_; rw [unhide HE]; rintro e w' ⟨rfl, m, rfl⟩)
      go_ret2
      exact ⟨ret_int2 rfl (unhide HC).symm, below_drewN hb2 _⟩

end Go.Proofs.Ytiebegjgaflfiaa
