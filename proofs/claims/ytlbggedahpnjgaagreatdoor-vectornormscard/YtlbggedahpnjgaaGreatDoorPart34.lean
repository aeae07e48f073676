/- Part 34 of the texts. -/
import Derived.Test.YtlbggedahpnjgaaGreatDoorPart33
import Derived.Test.YtlbggedahpnjgaaGreatDoorChecked
import Derived.Test.YtlbggedahpnjgaaGreatDoorPart02
import Derived.ProofKit
import Derived.SizedLaws
import Derived.Lib.SmallJoins
/- The reference's Biggest, Finite, Norm, Tame. -/
namespace Go.Proofs.YtlbggedahpnjgaaGreatDoor
open Go.RowKit
attribute [local go_sem ↓] Go.wp_at_zero Go.wp_at_succ

set_option maxRecDepth 20000 in
set_option maxHeartbeats 4000000 in
theorem r9biggest_any (ao : Option Addr) (c : Nat) (I : List Int) (w : World) (hI : BitsAt w ao c I) (hn : I.length ≤ 35184372088830) :
    Calls Tryz.prog 17 #[.slice ao I.length c] w fun e w' => e = .returned (.int .u64 (bgK I I.length : Nat)) ∧ Below w.heap.size w w' := by
  have HI := hide hI
  obtain ⟨n, hnn⟩ : ∃ n, I.length = n := ⟨_, rfl⟩
  rw [hnn] at hn ⊢
  have HN := hide hnn
  clear hI hnn
  go_enter Tryz.func17, Tryz.ntmps17
  go_wp2_with fail
  go_loopw [3, 4] (fun t i wr => ∃ k : Nat, k ≤ n ∧ i = .int .i64 k ∧ t = .int .u64 (bgK I k : Nat) ∧ Hid (Below w.heap.size w wr)) (fun _ i _ => n - (intOf i).toNat)
  case atStart => exact ⟨0, Nat.zero_le _, rfl, rfl, Below.refl _ _⟩
  case round =>
    obtain ⟨k, hk, rfl, rfl, hB⟩ := hrel
    by_cases hlt : k < n
    · have hkI : (k : Int) < (n : Int) := by omega
      obtain ⟨b, off, hao, hb, hc⟩ := ((unhide HI).below hB.out).ne (by rw [unhide HN]; omega)
      have hck := hc k (by rw [unhide HN]; exact hlt)
      have C1 := hide (fun w' => r8abs_any (atB I k) w' ((unhide HI).lt k))
      have C2 := hide (fun w' => r8max_any (bgK I k) (fR (atB I k)) w' (bgK_lt I k) (by have := fR_lt (atB I k); omega))
      have eV : Hid (bgK I (k + 1) = mx (bgK I k) (fR (atB I k))) := rfl
      subst hao
      clear hc
      generalize mx (bgK I k) (fR (atB I k)) = o at *
      generalize fR (atB I k) = r at *
      generalize atB I k = x at *
      generalize bgK I k = tv at *
      go_wp2_with fail
      refine (unhide C1 _).mono ?_
      rintro e w2 ⟨rfl, rfl⟩
      go_wp2_with fail
      refine (unhide C2 _).mono ?_
      rintro e w2 ⟨rfl, hb2⟩
      have B2 : Hid (Below w.heap.size w w2) := hB.out.trans (hb2.mono hB.out.size)
      clear hb2 C1 C2
      go_wp2_with fail
      go_round
      case rel => exact ⟨k + 1, by omega, by go_num, by rw [eV.out], B2⟩
      case measure => simp [intOf]; omega
    · have hkk : k = n := by omega
      subst hkk
      go_wp2_with fail
      exact bodyPost_ret (v := .int .u64 (bgK I k : Nat)) (by simp [results, Tryz.results17, go_sem]) rfl ⟨rfl, hB.out⟩

theorem fnK_down (I : List Int) : ∀ (m k : Nat), k ≤ m → fnK I m = true → fnK I k = true := by
  intro m
  induction m with
  | zero => intro k hk _; rw [show k = 0 by omega]; rfl
  | succ m ih =>
    intro k hk h
    have h' : (fnK I m && fFin (atB I m)) = true := h
    rw [Bool.and_eq_true] at h'
    by_cases e : k = m + 1
    · subst e; exact h
    · exact ih k (by omega) h'.1
theorem fnK_no (I : List Int) (n k : Nat) (hk : k < n) (h : fFin (atB I k) = false) : fnK I n = false := by
  cases e : fnK I n
  · rfl
  · have h2 : (fnK I k && fFin (atB I k)) = true := fnK_down I n (k + 1) (by omega) e
    rw [h, Bool.and_false] at h2
    cases h2

set_option maxRecDepth 20000 in
set_option maxHeartbeats 4000000 in
theorem r9finite_any (ao : Option Addr) (c : Nat) (I : List Int) (w : World) (hI : BitsAt w ao c I) (hn : I.length ≤ 35184372088830) :
    Calls Tryz.prog 19 #[.slice ao I.length c] w fun e w' => e = .returned (.bool (fnK I I.length)) ∧ Below w.heap.size w w' := by
  have HI := hide hI
  obtain ⟨n, hnn⟩ : ∃ n, I.length = n := ⟨_, rfl⟩
  rw [hnn] at hn ⊢
  have HN := hide hnn
  clear hI hnn
  obtain ⟨v, hv⟩ : ∃ v, fnK I n = v := ⟨_, rfl⟩
  rw [hv]
  have HV := hide hv
  clear hv
  go_enter Tryz.func19, Tryz.ntmps19
  go_wp2_with fail
  go_loopw [3] (fun i wr => ∃ k : Nat, k ≤ n ∧ i = .int .i64 k ∧ Hid (fnK I k = true) ∧ Hid (Below w.heap.size w wr)) (fun i _ => n - (intOf i).toNat)
  case atStart => exact ⟨0, Nat.zero_le _, rfl, rfl, Below.refl _ _⟩
  case round =>
    obtain ⟨k, hk, rfl, hq, hB⟩ := hrel
    by_cases hlt : k < n
    · have hkI : (k : Int) < (n : Int) := by omega
      obtain ⟨b, off, hao, hb, hc⟩ := ((unhide HI).below hB.out).ne (by rw [unhide HN]; omega)
      have hck := hc k (by rw [unhide HN]; exact hlt)
      have C1 := hide (fun w' => rfinite_any (atB I k) w' ((unhide HI).lt k))
      have eV : Hid (fnK I (k + 1) = (fnK I k && fFin (atB I k))) := rfl
      have eF := hide (fun h => fnK_no I n k hlt h)
      subst hao
      clear hc
      generalize atB I k = x at *
      cases hf : fFin x
      · have e2 := hide ((unhide HV).symm.trans (unhide eF hf))
        rw [hf] at C1
        have hv2 := unhide e2
        subst hv2
        go_wp2_with fail
        refine (unhide C1 _).mono ?_
        rintro e w2 ⟨rfl, rfl⟩
        clear C1
        go_wp2_with fail
        exact bodyPost_ret (v := .bool false) (by simp [results, Tryz.results19, go_sem]) rfl ⟨rfl, hB.out⟩
      · rw [hf] at C1 eV
        go_wp2_with fail
        refine (unhide C1 _).mono ?_
        rintro e w2 ⟨rfl, rfl⟩
        clear C1
        go_wp2_with fail
        go_round
        case rel => exact ⟨k + 1, by omega, by go_num, by unfold Hid; rw [eV.out, hq.out]; rfl, hB⟩
        case measure => simp [intOf]; omega
    · have hkk : k = n := by omega
      subst hkk
      have e2 := (unhide HV).symm.trans hq.out
      subst e2
      go_wp2_with fail
      exact bodyPost_ret (v := .bool true) (by simp [results, Tryz.results19, go_sem]) rfl ⟨rfl, hB.out⟩

end Go.Proofs.YtlbggedahpnjgaaGreatDoor

/- The reference's Norm. -/
namespace Go.Proofs.YtlbggedahpnjgaaGreatDoor
open Go.RowKit
attribute [local go_sem ↓] Go.wp_at_zero Go.wp_at_succ

set_option maxRecDepth 20000 in
set_option maxHeartbeats 4000000 in
theorem r9norm_odd (ao : Option Addr) (n c m : Nat) (f : Bool) (w : World) (hm : m = 0 ∨ (m ≠ 0 ∧ f = false))
    (C1 : Calls Tryz.prog 17 #[.slice ao n c] w fun e w'' => e = .returned (.int .u64 (m : Nat)) ∧ Below w.heap.size w w'')
    (C2 : ∀ w', Calls Tryz.prog 22 #[.int .u64 m] w' fun e w'' => e = .returned (.bool f) ∧ w' = w'') :
    Calls Tryz.prog 20 #[.slice ao n c] w fun e w' => e = .returned (.int .u64 (m : Nat)) ∧ Below w.heap.size w w' := by
  have K1 := hide C1; have K2 := hide C2
  clear C1 C2
  rcases hm with rfl | ⟨h0, rfl⟩
  · go_enter Tryz.func20, Tryz.ntmps20
    go_wp2_with fail
    refine Calls.mono (unhide K1) ?_
    rintro e w1 ⟨rfl, hb1⟩
    clear K1 K2
    go_wp2
    go_ret
    exact ⟨rfl, hb1⟩
  · have g0 : ((m : Int) == 0) = false := by rw [beq_eq_false_iff_ne]; omega
    clear h0
    go_enter Tryz.func20, Tryz.ntmps20
    go_wp2_with fail
    refine Calls.mono (unhide K1) ?_
    rintro e w1 ⟨rfl, hb1⟩
    clear K1
    go_wp2_with fail
    refine (unhide K2 _).mono ?_
    rintro e w2 ⟨rfl, rfl⟩
    clear K2
    go_wp2
    go_ret
    exact ⟨rfl, hb1⟩

set_option maxRecDepth 20000 in
set_option maxHeartbeats 4000000 in
theorem r9norm_even (ao : Option Addr) (c m : Nat) (k : Int) (I : List Int) (w : World) (hI : BitsAt w ao c I) (hn : I.length ≤ 35184372088830) (h0 : m ≠ 0) (hk : -5000 ≤ k ∧ k ≤ 5000)
    (C1 : Calls Tryz.prog 17 #[.slice ao I.length c] w fun e w'' => e = .returned (.int .u64 (m : Nat)) ∧ Below w.heap.size w w'')
    (C2 : ∀ w', Calls Tryz.prog 22 #[.int .u64 m] w' fun e w'' => e = .returned (.bool true) ∧ w' = w'')
    (C3 : ∀ w', Calls Tryz.prog 53 #[.int .u64 m] w' fun e w'' => e = .returned (.int .i64 k) ∧ Below w'.heap.size w' w'') :
    Calls Tryz.prog 20 #[.slice ao I.length c] w fun e w' => e = .returned (.int .u64 (xV (sV (dtK (tL k I) (tL k I) I.length)) k : Nat)) ∧ Below w.heap.size w w' := by
  have HI := hide hI
  have K1 := hide C1; have K2 := hide C2; have K3 := hide C3
  have g0 : ((m : Int) == 0) = false := by rw [beq_eq_false_iff_ne]; omega
  have hw : IntKind.i64.wrap (-k) = -k := by simp only [IntKind.wrap_i64]; omega
  have hw2 : (0 : Int) - k = -k := by omega
  have HK := hide hk
  have CF := hide (fun w' => r9sqrt_any (dtK (tL k I) (tL k I) I.length) w' (dtK_lt _ _ _))
  have CG := hide (fun w' => r9shift_any (sV (dtK (tL k I) (tL k I) I.length)) k w' (sV_lt _ (dtK_lt _ _ _)) hk)
  have HD : Hid (dtK (tL k I) (tL k I) 0 = 0) := rfl
  have HS := hide (fun j (hj : j < I.length) => show dtK (tL k I) (tL k I) (j + 1) = aV (dtK (tL k I) (tL k I) j) (mV (xV (atB I j) (-k)) (xV (atB I j) (-k))) by
    show aV (dtK (tL k I) (tL k I) j) (mV (atB (tL k I) j) (atB (tL k I) j)) = _
    rw [show atB (tL k I) j = xV (atB I j) (-k) from mkL_at _ _ j hj])
  have HL := hide (fun j => dtK_lt (tL k I) (tL k I) j)
  generalize dtK (tL k I) (tL k I) = F at *
  obtain ⟨n, hnn⟩ : ∃ n, I.length = n := ⟨_, rfl⟩
  rw [hnn] at hn K1 HS CF CG ⊢
  have HN := hide hnn
  clear hI hnn C1 C2 C3 h0 hk
  generalize xV (sV (F n)) k = rr at *
  generalize sV (F n) = ss at *
  go_enter Tryz.func20, Tryz.ntmps20
  go_wp2_with fail
  refine Calls.mono (unhide K1) ?_
  rintro e w1 ⟨rfl, hb1⟩
  have B := hide hb1
  clear K1 hb1
  go_wp2_with fail
  refine (unhide K2 _).mono ?_
  rintro e w2 ⟨rfl, rfl⟩
  clear K2
  go_wp2_with fail
  refine (unhide K3 _).mono ?_
  rintro e w2 ⟨rfl, hb2⟩
  have B2 := hide ((unhide B).trans (hb2.mono (unhide B).size))
  clear K3 hb2 B
  go_wp2_with fail
  go_loopw [5, 6] (fun t i wr => ∃ j : Nat, j ≤ n ∧ i = .int .i64 j ∧ t = .int .u64 (F j : Nat) ∧ Hid (Below w.heap.size w wr)) (fun _ i _ => n - (intOf i).toNat)
  case atStart => exact ⟨0, Nat.zero_le _, rfl, by rw [unhide HD]; rfl, B2⟩
  case round =>
    clear B2
    obtain ⟨j, hj, rfl, rfl, hB⟩ := hrel
    by_cases hlt : j < n
    · have hjI : (j : Int) < (n : Int) := by omega
      obtain ⟨b, off, hao, hb, hc⟩ := ((unhide HI).below hB.out).ne (by rw [unhide HN]; omega)
      have hck := hc j (by rw [unhide HN]; exact hlt)
      have x64 := (unhide HI).lt j
      have D1 := hide (fun w' => r9shift_any (atB I j) (-k) w' x64 (by have := unhide HK; omega))
      have D2 := hide (fun w' => r9mul_any (xV (atB I j) (-k)) (xV (atB I j) (-k)) w' (xV_lt _ _ x64) (xV_lt _ _ x64))
      have D3 := hide (fun w' => r9add_any (F j) (mV (xV (atB I j) (-k)) (xV (atB I j) (-k))) w' (unhide HL j) (mV_lt _ _))
      have eV := hide (unhide HS j hlt)
      subst hao
      clear hc x64
      generalize aV (F j) (mV (xV (atB I j) (-k)) (xV (atB I j) (-k))) = o at *
      generalize mV (xV (atB I j) (-k)) (xV (atB I j) (-k)) = p at *
      generalize xV (atB I j) (-k) = t at *
      generalize atB I j = x at *
      go_wp2_with fail
      refine (unhide D1 _).mono ?_
      rintro e w3 ⟨rfl, hb3⟩
      have B3 := hide (hB.out.trans (hb3.mono hB.out.size))
      clear hb3 D1 hB
      go_wp2_with fail
      refine (unhide D2 _).mono ?_
      rintro e w4 ⟨rfl, hb4⟩
      have B4 := hide ((unhide B3).trans (hb4.mono (unhide B3).size))
      clear hb4 D2 B3
      go_wp2_with fail
      refine (unhide D3 _).mono ?_
      rintro e w5 ⟨rfl, hb5⟩
      have B5 := hide ((unhide B4).trans (hb5.mono (unhide B4).size))
      clear hb5 D3 B4
      go_wp2_with fail
      go_round
      case rel => exact ⟨j + 1, by omega, by go_num, by rw [unhide eV], B5⟩
      case measure => simp [intOf]; omega
    · have hkk : j = n := by omega
      subst hkk
      go_wp2_with fail
      refine (unhide CF _).mono ?_
      rintro e w3 ⟨rfl, hb3⟩
      have B3 := hide (hB.out.trans (hb3.mono hB.out.size))
      clear hb3 CF hB
      go_wp2_with fail
      refine (unhide CG _).mono ?_
      rintro e w4 ⟨rfl, hb4⟩
      have B4 := hide ((unhide B3).trans (hb4.mono (unhide B3).size))
      clear hb4 CG B3
      go_wp2
      exact bodyPost_ret (v := .int .u64 (rr : Nat)) (by simp [results, Tryz.results20, go_sem]) rfl ⟨rfl, unhide B4⟩

theorem r9norm_any (ao : Option Addr) (c : Nat) (I : List Int) (w : World) (hI : BitsAt w ao c I) (hn : I.length ≤ 35184372088830) :
    Calls Tryz.prog 20 #[.slice ao I.length c] w fun e w' => e = .returned (.int .u64 (nmV I : Nat)) ∧ Below w.heap.size w w' := by
  have C1 := r9biggest_any ao c I w hI hn
  have hm := bgK_lt I I.length
  have C2 := fun w' => rfinite_any (bgK I I.length) w' hm
  unfold nmV
  by_cases h0 : bgK I I.length = 0
  · rw [if_pos (.inl h0)]
    exact r9norm_odd ao _ c _ _ w (.inl h0) C1 C2
  cases hf : fFin (bgK I I.length)
  · rw [hf] at C2
    rw [if_pos (.inr rfl)]
    exact r9norm_odd ao _ c _ _ w (.inr ⟨h0, rfl⟩) C1 C2
  · rw [hf] at C2
    rw [if_neg (fun e => e.elim h0 (fun e => by cases e))]
    have hr := eX_range _ hm
    exact r9norm_even ao c _ _ I w hI hn h0 (by omega) C1 C2 (fun w' => r8exp_any _ w' hm)

end Go.Proofs.YtlbggedahpnjgaaGreatDoor

/- The law VectorNorms, walked. -/
namespace Go.Proofs.YtlbggedahpnjgaaGreatDoor
open Go.RowKit
attribute [local go_sem ↓] Go.wp_at_zero Go.wp_at_succ

set_option maxRecDepth 20000 in
set_option maxHeartbeats 8000000 in
theorem vectorNorms_of (ao : Option Addr) (n c m o : Nat) (f : Bool) (w : World) (q : Bool) (x : Nat) (er : Int) (hq : (q = true ∧ x = o ∧ er = 0) ∨ (q = false ∧ x = 0 ∧ er = 3))
    (C1 : Calls Tryz.prog 15 #[.slice ao n c] w fun e w' => e = .returned (.tuple #[.int .u64 (x : Nat), .int .i64 er]) ∧ Below w.heap.size w w')
    (C2 : ∀ w', Below w.heap.size w w' → Calls Tryz.prog 16 #[.slice ao n c] w' fun e w'' => e = .returned (.int .u64 (m : Nat)) ∧ Below w'.heap.size w' w'')
    (C3 : ∀ w', Below w.heap.size w w' → Calls Tryz.prog 17 #[.slice ao n c] w' fun e w'' => e = .returned (.int .u64 (m : Nat)) ∧ Below w'.heap.size w' w'')
    (C4 : ∀ w', Below w.heap.size w w' → Calls Tryz.prog 18 #[.slice ao n c] w' fun e w'' => e = .returned (.bool f) ∧ Below w'.heap.size w' w'')
    (C5 : ∀ w', Below w.heap.size w w' → Calls Tryz.prog 19 #[.slice ao n c] w' fun e w'' => e = .returned (.bool f) ∧ Below w'.heap.size w' w'')
    (C6 : ∀ w', Calls Tryz.prog 10 #[.slice ao n c, .slice ao n c] w' fun e w'' => e = .returned (.int .i64 er) ∧ w' = w'')
    (C7 : ∀ w', Below w.heap.size w w' → Calls Tryz.prog 20 #[.slice ao n c] w' fun e w'' => e = .returned (.int .u64 (o : Nat)) ∧ Below w'.heap.size w' w'')
    (C8 : ∀ w', Below w.heap.size w w' → Calls Tryz.prog 14 #[] w' fun e w'' => e = .returned (.bool true) ∧ Below w'.heap.size w' w'') :
    Calls Tryz.prog 4 #[.slice ao n c] w fun r w' => r = .returned (.bool true) ∧ Below w.heap.size w w' := by
  have K1 := hide C1; have K2 := hide C2; have K3 := hide C3; have K4 := hide C4; have K5 := hide C5; have K6 := hide C6; have K7 := hide C7; have K8 := hide C8
  clear C1 C2 C3 C4 C5 C6 C7 C8
  rcases hq with ⟨rfl, rfl, rfl⟩ | ⟨rfl, rfl, rfl⟩
  all_goals
    go_enter Tryz.func4, Tryz.ntmps4
    go_wp2_with fail
    refine Calls.mono (unhide K1) ?_
    rintro e w1 ⟨rfl, hb1⟩
    have B := hide hb1
    clear K1 hb1
    go_wp2_with fail
    refine (unhide K2 _ (unhide B)).mono ?_
    rintro e w1 ⟨rfl, hb1⟩
    have B := hide ((unhide B).trans (hb1.mono (unhide B).size))
    clear hb1 K2
    go_wp2_with fail
    refine (unhide K3 _ (unhide B)).mono ?_
    rintro e w1 ⟨rfl, hb1⟩
    have B := hide ((unhide B).trans (hb1.mono (unhide B).size))
    clear hb1 K3
    go_wp2_with fail
    refine (unhide K4 _ (unhide B)).mono ?_
    rintro e w1 ⟨rfl, hb1⟩
    have B := hide ((unhide B).trans (hb1.mono (unhide B).size))
    clear hb1 K4
    go_wp2_with fail
    refine (unhide K5 _ (unhide B)).mono ?_
    rintro e w1 ⟨rfl, hb1⟩
    have B := hide ((unhide B).trans (hb1.mono (unhide B).size))
    clear hb1 K5
    go_wp2_with fail
    refine (unhide K6 _).mono ?_
    rintro e w1 ⟨rfl, rfl⟩
    clear K6
    go_wp2_with fail
    first
      | (refine (unhide K7 _ (unhide B)).mono ?_
         rintro e w1 ⟨rfl, hb1⟩
         have B := hide ((unhide B).trans (hb1.mono (unhide B).size))
         clear hb1
         go_wp2_with fail)
      | skip
    refine (unhide K8 _ (unhide B)).mono ?_
    rintro e w1 ⟨rfl, hb1⟩
    have B := hide ((unhide B).trans (hb1.mono (unhide B).size))
    clear hb1 K8
    go_wp2
    go_ret
    exact ⟨rfl, unhide B⟩

theorem fits_self (ao : Option Addr) (n c : Nat) (w : World) :
    Calls Tryz.prog 10 #[.slice ao n c, .slice ao n c] w fun r w' => r = .returned (.int .i64 (if n ≤ 64 then 0 else 3)) ∧ w = w' := by
  have := lfits_any ao ao n n c c w
  simpa using this

theorem vectorNorms_walk (ao : Option Addr) (c : Nat) (I : List Int) (w : World) (hI : BitsAt w ao c I) (hn : I.length ≤ 35184372088830) (hT : Tab w) :
    Calls Tryz.prog 4 #[.slice ao I.length c] w fun r w' => r = .returned (.bool true) ∧ Below w.heap.size w w' := by
  have C6 := fun w' => fits_self ao I.length c w'
  by_cases h : I.length ≤ 64
  · rw [if_pos h] at C6
    exact vectorNorms_of ao _ c (bgK I I.length) (nmV I) (fnK I I.length) w true (nmV I) 0 (.inl ⟨rfl, rfl, rfl⟩) (vNorm_ok ao c I w hI h hT)
      (fun w' hb => vBiggest_any ao c I w' (hI.below hb) hn) (fun w' hb => r9biggest_any ao c I w' (hI.below hb) hn) (fun w' hb => vFinite_any ao c I w' (hI.below hb) hn) (fun w' hb => r9finite_any ao c I w' (hI.below hb) hn)
      C6 (fun w' hb => r9norm_any ao c I w' (hI.below hb) hn) (fun w' hb => awake9_any w' (hT.all hb))
  · rw [if_neg h] at C6
    exact vectorNorms_of ao _ c (bgK I I.length) (nmV I) (fnK I I.length) w false 0 3 (.inr ⟨rfl, rfl, rfl⟩) (norm_long ao _ c w (by omega))
      (fun w' hb => vBiggest_any ao c I w' (hI.below hb) hn) (fun w' hb => r9biggest_any ao c I w' (hI.below hb) hn) (fun w' hb => vFinite_any ao c I w' (hI.below hb) hn) (fun w' hb => r9finite_any ao c I w' (hI.below hb) hn)
      C6 (fun w' hb => r9norm_any ao c I w' (hI.below hb) hn) (fun w' hb => awake9_any w' (hT.all hb))

end Go.Proofs.YtlbggedahpnjgaaGreatDoor

/- A struct of a sign and limbs that came in, opened. -/
namespace Go.Proofs.YtlbggedahpnjgaaGreatDoor
open Go.ChangeShapes Go.WideShapes Go.ChangeAt Go.RowKit Go.Joins

theorem Tryz.own : ownKnob Tryz.prog.godebug = none := by kernel_rfl
theorem Tryz.laidOut : laidOutB Tryz.prog = true := by kernel_rfl
theorem Tryz.cellsW : Tryz.prog.cellsOf 43 = 2 := by kernel_rfl
theorem Tryz.cellsU : Tryz.prog.cellsOf 87 = 1 := by kernel_rfl
theorem Tryz.bytesU : Tryz.prog.bytesOf 87 = 4 := by kernel_rfl

theorem bounds_of_u32 {x : Int} (h : (Lit.int .u32 x).wf = true) : 0 ≤ x ∧ x < 4294967296 := by
  simp [Lit.wf, IntKind.min, IntKind.max, IntKind.signed, IntKind.bits] at h
  omega

theorem limbs_of_ints {W : World} {a : Addr} {len cap : Nat} {zs : List Int} (hl : len ≤ cap) (hz : zs.length = cap) (hc : ∀ i, i < zs.length → W.cell? (a.add i) = some (.int .u32 (zs.getD i 0))) (hw : ∀ n ∈ zs, (Lit.int .u32 n).wf = true) :
    LimbsAt W (some a) cap ((zs.take len).map Int.toNat) ∧ ((zs.take len).map Int.toNat).length = len := by
  have hlen : ((zs.take len).map Int.toNat).length = len := by simp; omega
  refine ⟨⟨by omega, ?_, ?_⟩, hlen⟩
  · intro x hx
    obtain ⟨y, hy, rfl⟩ := List.mem_map.1 hx
    have := bounds_of_u32 (hw y (List.mem_of_mem_take hy))
    omega
  · rcases Nat.eq_zero_or_pos len with rfl | hp
    · left; simp
    · right
      obtain ⟨b, off, spot⟩ := a
      have h0 := hc 0 (by omega)
      have hspot : spot = none := by simpa [Addr.add] using World.cell?_spot h0
      subst hspot
      have hb : b < W.heap.size := by
        have := World.block_lt_of_cell? W _ h0
        simpa [Addr.add] using this
      refine ⟨b, off, rfl, hb, fun i hi => ?_⟩
      have h1 := hc i (by omega)
      have h2 : (0 : Int) ≤ zs[i]'(by omega) := (bounds_of_u32 (hw _ (List.getElem_mem _))).1
      have h3 : (⟨b, off, none⟩ : Addr).add i = ⟨b, off + i, none⟩ := by simp [Addr.add]
      rw [h3] at h1
      rw [h1]
      have e : ((zs.take len).map Int.toNat)[i]?.getD 0 = (zs[i]'(by omega)).toNat := by
        rw [List.getElem?_map, List.getElem?_take, if_pos (by omega), List.getElem?_eq_getElem (by omega)]; rfl
      rw [e, List.getD_eq_getElem?_getD, List.getElem?_eq_getElem (by omega)]
      simp only [Option.getD_some, Option.some.injEq, Value.int.injEq, true_and]
      omega

set_option maxRecDepth 20000 in
/-- A number that came in: its sign, its limbs, where they lie; by the row's own reach they are not too many. -/
theorem open_whole {H : Type} {enc : TypeId × Value → H} {W : World} {base : Nat} {v : Value} {d : DataW H} {p : List MemPlace} (hval : Value.okWide Tryz.prog W .any base 43 v) (h : DataW.Trod enc Tryz.prog W 0 (fun _ => true) true 43 v d p)
    (hs : ∀ n ∈ d.weights Tryz.prog 43, n ≤ reachBytes) :
    ∃ neg ao cap L, v = .agg #[.bool neg, .slice ao L.length cap] ∧ LimbsAt W ao cap L ∧ L.length ≤ 35184372087808 := by
  obtain ⟨c0, c1, y0, y1, m, rfl, rfl, rfl, hy0, hy1⟩ := open_agg2 Tryz.underlying43 (by kernel_rfl) Tryz.cellsW hval h
  obtain ⟨neg, e0, rfl⟩ := DataW.trod_bool Tryz.underlying4 hy0
  simp at e0
  subst e0
  rcases open_ints Tryz.underlying41 Tryz.underlying87 Tryz.cellsU hy1 with ⟨hcs, _⟩ | ⟨a, len, cap, zs, hcs, _, hl, hm, hz, rfl, hcell, hwz⟩
  · simp at hcs
    subst hcs
    exact ⟨neg, none, 0, [], rfl, LimbsAt.nil _ _ _, by simp⟩
  · simp at hcs
    subst hcs
    obtain ⟨h1, h2⟩ := limbs_of_ints hl (by simpa using hz) hcell hwz
    refine ⟨neg, some a, cap, _, by rw [h2], h1, ?_⟩
    have hk := hs ((zs.length) * 4) (by
      simp only [DataW.weights, Tryz.underlying43, DataW.weightsEach, List.map, Tryz.underlying41, List.nil_append, List.append_nil, List.mem_cons, Tryz.bytesU, lits, List.length_map, List.length_take, List.length_drop]
      left
      omega)
    simp only [reachBytes] at hk
    rw [h2]
    have : zs.length = cap := by simpa using hz
    omega

end Go.Proofs.YtlbggedahpnjgaaGreatDoor

/- The bounds of an int or int64 that came in. -/
namespace Go.Proofs.YtlbggedahpnjgaaGreatDoor

theorem bounds_of_i64 {x : Int} (h : (Lit.int .i64 x).wf = true) : -9223372036854775808 ≤ x ∧ x ≤ 9223372036854775807 := by
  simp [Lit.wf, IntKind.min, IntKind.max, IntKind.signed, IntKind.bits] at h
  omega

end Go.Proofs.YtlbggedahpnjgaaGreatDoor

