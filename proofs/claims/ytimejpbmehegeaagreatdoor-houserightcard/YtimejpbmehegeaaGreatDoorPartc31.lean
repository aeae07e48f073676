/- Part 31 of the texts. -/
import Derived.Test.YtimejpbmehegeaaGreatDoorPartc30
import Derived.Test.YtimejpbmehegeaaGreatDoorPartc29
import Derived.Test.YtimejpbmehegeaaGreatDoorPartc20
import Derived.Test.YtimejpbmehegeaaGreatDoorPartc25
import Derived.Test.YtimejpbmehegeaaGreatDoorPartc14
/- The reference's Biggest, Finite, Norm, Tame. -/
namespace Go.Proofs.YtimejpbmehegeaaGreatDoor
open Go.RowKit
attribute [local go_sem ↓] Go.wp_at_zero Go.wp_at_succ

set_option maxRecDepth 20000 in
set_option maxHeartbeats 4000000 in
theorem r9biggest_any (ao : Option Addr) (c : Nat) (I : List Int) (w : World) (hI : BitsAt w ao c I) (hn : I.length ≤ 35184372088830) :
    Calls Tryz.prog 69 #[.slice ao I.length c] w fun e w' => e = .returned (.int .u64 (bgK I I.length : Nat)) ∧ Below w.heap.size w w' := by
  have HI := hide hI
  obtain ⟨n, hnn⟩ : ∃ n, I.length = n := ⟨_, rfl⟩
  rw [hnn] at hn ⊢
  have HN := hide hnn
  clear hI hnn
  go_enter Tryz.func69, Tryz.ntmps69
  go_wp2_with fail
  go_loopw [3, 4] (fun t i wr => ∃ k : Nat, k ≤ n ∧ i = .int .i64 k ∧ t = .int .u64 (bgK I k : Nat) ∧ Hid (Below w.heap.size w wr)) (fun _ i _ => n - (intOf i).toNat)
  case atStart => exact ⟨0, Nat.zero_le _, rfl, rfl, Below.refl _ _⟩
  case round =>
    obtain ⟨k, hk, rfl, rfl, hB⟩ := hrel
    by_cases hlt : k < n
    · have hkI : (k : Int) < (n : Int) := by omega
      obtain ⟨b, off, hao, hb, hc⟩ := ((unhide HI).below hB.out).ne (by rw [unhide HN]; omega)
      have hck := hc k (by rw [unhide HN]; exact hlt)
      have C1 := hide (fun w' => r8abs_any (atB I k) w' ((unhide HI).lt k))
      have C2 := hide (fun w' => r8max_any (bgK I k) (fR (atB I k)) w' (bgK_lt I k) (by have := fR_lt (atB I k); omega))
      have eV : Hid (bgK I (k + 1) = mx (bgK I k) (fR (atB I k))) := rfl
      subst hao
      clear hc
      generalize mx (bgK I k) (fR (atB I k)) = o at *
      generalize fR (atB I k) = r at *
      generalize atB I k = x at *
      generalize bgK I k = tv at *
      go_wp2_with fail
      refine (unhide C1 _).mono ?_
      rintro e w2 ⟨rfl, rfl⟩
      go_wp2_with fail
      refine (unhide C2 _).mono ?_
      rintro e w2 ⟨rfl, hb2⟩
      have B2 : Hid (Below w.heap.size w w2) := hB.out.trans (hb2.mono hB.out.size)
      clear hb2 C1 C2
      go_wp2_with fail
      go_round
      case rel => exact ⟨k + 1, by omega, by go_num, by rw [eV.out], B2⟩
      case measure => simp [intOf]; omega
    · have hkk : k = n := by omega
      subst hkk
      go_wp2_with fail
      exact bodyPost_ret (v := .int .u64 (bgK I k : Nat)) (by simp [results, Tryz.results69, go_sem]) rfl ⟨rfl, hB.out⟩

theorem fnK_down (I : List Int) : ∀ (m k : Nat), k ≤ m → fnK I m = true → fnK I k = true := by
  intro m
  induction m with
  | zero => intro k hk _; rw [show k = 0 by omega]; rfl
  | succ m ih =>
    intro k hk h
    have h' : (fnK I m && fFin (atB I m)) = true := h
    rw [Bool.and_eq_true] at h'
    by_cases e : k = m + 1
    · subst e; exact h
    · exact ih k (by omega) h'.1
end Go.Proofs.YtimejpbmehegeaaGreatDoor

/- The reference's Norm. -/
namespace Go.Proofs.YtimejpbmehegeaaGreatDoor
open Go.RowKit
attribute [local go_sem ↓] Go.wp_at_zero Go.wp_at_succ

set_option maxRecDepth 20000 in
set_option maxHeartbeats 4000000 in
theorem r9norm_odd (ao : Option Addr) (n c m : Nat) (f : Bool) (w : World) (hm : m = 0 ∨ (m ≠ 0 ∧ f = false))
    (C1 : Calls Tryz.prog 69 #[.slice ao n c] w fun e w'' => e = .returned (.int .u64 (m : Nat)) ∧ Below w.heap.size w w'')
    (C2 : ∀ w', Calls Tryz.prog 20 #[.int .u64 m] w' fun e w'' => e = .returned (.bool f) ∧ w' = w'') :
    Calls Tryz.prog 30 #[.slice ao n c] w fun e w' => e = .returned (.int .u64 (m : Nat)) ∧ Below w.heap.size w w' := by
  have K1 := hide C1; have K2 := hide C2
  clear C1 C2
  rcases hm with rfl | ⟨h0, rfl⟩
  · go_enter Tryz.func30, Tryz.ntmps30
    go_wp2_with fail
    refine Calls.mono (unhide K1) ?_
    rintro e w1 ⟨rfl, hb1⟩
    clear K1 K2
    go_wp2
    go_ret
    exact ⟨rfl, hb1⟩
  · have g0 : ((m : Int) == 0) = false := by rw [beq_eq_false_iff_ne]; omega
    clear h0
    go_enter Tryz.func30, Tryz.ntmps30
    go_wp2_with fail
    refine Calls.mono (unhide K1) ?_
    rintro e w1 ⟨rfl, hb1⟩
    clear K1
    go_wp2_with fail
    refine (unhide K2 _).mono ?_
    rintro e w2 ⟨rfl, rfl⟩
    clear K2
    go_wp2
    go_ret
    exact ⟨rfl, hb1⟩

set_option maxRecDepth 20000 in
set_option maxHeartbeats 4000000 in
theorem r9norm_even (ao : Option Addr) (c m : Nat) (k : Int) (I : List Int) (w : World) (hI : BitsAt w ao c I) (hn : I.length ≤ 35184372088830) (h0 : m ≠ 0) (hk : -5000 ≤ k ∧ k ≤ 5000)
    (C1 : Calls Tryz.prog 69 #[.slice ao I.length c] w fun e w'' => e = .returned (.int .u64 (m : Nat)) ∧ Below w.heap.size w w'')
    (C2 : ∀ w', Calls Tryz.prog 20 #[.int .u64 m] w' fun e w'' => e = .returned (.bool true) ∧ w' = w'')
    (C3 : ∀ w', Calls Tryz.prog 58 #[.int .u64 m] w' fun e w'' => e = .returned (.int .i64 k) ∧ Below w'.heap.size w' w'') :
    Calls Tryz.prog 30 #[.slice ao I.length c] w fun e w' => e = .returned (.int .u64 (xV (sV (dtK (tL k I) (tL k I) I.length)) k : Nat)) ∧ Below w.heap.size w w' := by
  have HI := hide hI
  have K1 := hide C1; have K2 := hide C2; have K3 := hide C3
  have g0 : ((m : Int) == 0) = false := by rw [beq_eq_false_iff_ne]; omega
  have hw : IntKind.i64.wrap (-k) = -k := by simp only [IntKind.wrap_i64]; omega
  have hw2 : (0 : Int) - k = -k := by omega
  have HK := hide hk
  have CF := hide (fun w' => r9sqrt_any (dtK (tL k I) (tL k I) I.length) w' (dtK_lt _ _ _))
  have CG := hide (fun w' => r9shift_any (sV (dtK (tL k I) (tL k I) I.length)) k w' (sV_lt _ (dtK_lt _ _ _)) hk)
  have HD : Hid (dtK (tL k I) (tL k I) 0 = 0) := rfl
  have HS := hide (fun j (hj : j < I.length) => show dtK (tL k I) (tL k I) (j + 1) = aV (dtK (tL k I) (tL k I) j) (mV (xV (atB I j) (-k)) (xV (atB I j) (-k))) by
    show aV (dtK (tL k I) (tL k I) j) (mV (atB (tL k I) j) (atB (tL k I) j)) = _
    rw [show atB (tL k I) j = xV (atB I j) (-k) from mkL_at _ _ j hj])
  have HL := hide (fun j => dtK_lt (tL k I) (tL k I) j)
  generalize dtK (tL k I) (tL k I) = F at *
  obtain ⟨n, hnn⟩ : ∃ n, I.length = n := ⟨_, rfl⟩
  rw [hnn] at hn K1 HS CF CG ⊢
  have HN := hide hnn
  clear hI hnn C1 C2 C3 h0 hk
  generalize xV (sV (F n)) k = rr at *
  generalize sV (F n) = ss at *
  go_enter Tryz.func30, Tryz.ntmps30
  go_wp2_with fail
  refine Calls.mono (unhide K1) ?_
  rintro e w1 ⟨rfl, hb1⟩
  have B := hide hb1
  clear K1 hb1
  go_wp2_with fail
  refine (unhide K2 _).mono ?_
  rintro e w2 ⟨rfl, rfl⟩
  clear K2
  go_wp2_with fail
  refine (unhide K3 _).mono ?_
  rintro e w2 ⟨rfl, hb2⟩
  have B2 := hide ((unhide B).trans (hb2.mono (unhide B).size))
  clear K3 hb2 B
  go_wp2_with fail
  go_loopw [5, 6] (fun t i wr => ∃ j : Nat, j ≤ n ∧ i = .int .i64 j ∧ t = .int .u64 (F j : Nat) ∧ Hid (Below w.heap.size w wr)) (fun _ i _ => n - (intOf i).toNat)
  case atStart => exact ⟨0, Nat.zero_le _, rfl, by rw [unhide HD]; rfl, B2⟩
  case round =>
    clear B2
    obtain ⟨j, hj, rfl, rfl, hB⟩ := hrel
    by_cases hlt : j < n
    · have hjI : (j : Int) < (n : Int) := by omega
      obtain ⟨b, off, hao, hb, hc⟩ := ((unhide HI).below hB.out).ne (by rw [unhide HN]; omega)
      have hck := hc j (by rw [unhide HN]; exact hlt)
      have x64 := (unhide HI).lt j
      have D1 := hide (fun w' => r9shift_any (atB I j) (-k) w' x64 (by have := unhide HK; omega))
      have D2 := hide (fun w' => r9mul_any (xV (atB I j) (-k)) (xV (atB I j) (-k)) w' (xV_lt _ _ x64) (xV_lt _ _ x64))
      have D3 := hide (fun w' => r9add_any (F j) (mV (xV (atB I j) (-k)) (xV (atB I j) (-k))) w' (unhide HL j) (mV_lt _ _))
      have eV := hide (unhide HS j hlt)
      subst hao
      clear hc x64
      generalize aV (F j) (mV (xV (atB I j) (-k)) (xV (atB I j) (-k))) = o at *
      generalize mV (xV (atB I j) (-k)) (xV (atB I j) (-k)) = p at *
      generalize xV (atB I j) (-k) = t at *
      generalize atB I j = x at *
      go_wp2_with fail
      refine (unhide D1 _).mono ?_
      rintro e w3 ⟨rfl, hb3⟩
      have B3 := hide (hB.out.trans (hb3.mono hB.out.size))
      clear hb3 D1 hB
      go_wp2_with fail
      refine (unhide D2 _).mono ?_
      rintro e w4 ⟨rfl, hb4⟩
      have B4 := hide ((unhide B3).trans (hb4.mono (unhide B3).size))
      clear hb4 D2 B3
      go_wp2_with fail
      refine (unhide D3 _).mono ?_
      rintro e w5 ⟨rfl, hb5⟩
      have B5 := hide ((unhide B4).trans (hb5.mono (unhide B4).size))
      clear hb5 D3 B4
      go_wp2_with fail
      go_round
      case rel => exact ⟨j + 1, by omega, by go_num, by rw [unhide eV], B5⟩
      case measure => simp [intOf]; omega
    · have hkk : j = n := by omega
      subst hkk
      go_wp2_with fail
      refine (unhide CF _).mono ?_
      rintro e w3 ⟨rfl, hb3⟩
      have B3 := hide (hB.out.trans (hb3.mono hB.out.size))
      clear hb3 CF hB
      go_wp2_with fail
      refine (unhide CG _).mono ?_
      rintro e w4 ⟨rfl, hb4⟩
      have B4 := hide ((unhide B3).trans (hb4.mono (unhide B3).size))
      clear hb4 CG B3
      go_wp2
      exact bodyPost_ret (v := .int .u64 (rr : Nat)) (by simp [results, Tryz.results30, go_sem]) rfl ⟨rfl, unhide B4⟩

theorem r9norm_any (ao : Option Addr) (c : Nat) (I : List Int) (w : World) (hI : BitsAt w ao c I) (hn : I.length ≤ 35184372088830) :
    Calls Tryz.prog 30 #[.slice ao I.length c] w fun e w' => e = .returned (.int .u64 (nmV I : Nat)) ∧ Below w.heap.size w w' := by
  have C1 := r9biggest_any ao c I w hI hn
  have hm := bgK_lt I I.length
  have C2 := fun w' => rfinite_any (bgK I I.length) w' hm
  unfold nmV
  by_cases h0 : bgK I I.length = 0
  · rw [if_pos (.inl h0)]
    exact r9norm_odd ao _ c _ _ w (.inl h0) C1 C2
  cases hf : fFin (bgK I I.length)
  · rw [hf] at C2
    rw [if_pos (.inr rfl)]
    exact r9norm_odd ao _ c _ _ w (.inr ⟨h0, rfl⟩) C1 C2
  · rw [hf] at C2
    rw [if_neg (fun e => e.elim h0 (fun e => by cases e))]
    have hr := eX_range _ hm
    exact r9norm_even ao c _ _ I w hI hn h0 (by omega) C1 C2 (fun w' => r8exp_any _ w' hm)

end Go.Proofs.YtimejpbmehegeaaGreatDoor

/- The reference's Tame. -/
namespace Go.Proofs.YtimejpbmehegeaaGreatDoor
open Go.RowKit
attribute [local go_sem ↓] Go.wp_at_zero Go.wp_at_succ

/-- Is a number 0, or neither very great nor very small? -/
def tmB (K : Int) (x : Nat) : Bool := fFin x && (decide (fK x = 0) || decide (-K ≤ eX x ∧ eX x < K))
def tmK (K : Int) (I : List Int) : Nat → Bool
  | 0 => true
  | k + 1 => tmK K I k && tmB K (atB I k)
theorem tmK_down (K : Int) (I : List Int) : ∀ (m k : Nat), k ≤ m → tmK K I m = true → tmK K I k = true := by
  intro m
  induction m with
  | zero => intro k hk _; rw [show k = 0 by omega]; rfl
  | succ m ih =>
    intro k hk h
    have h' : (tmK K I m && tmB K (atB I m)) = true := h
    rw [Bool.and_eq_true] at h'
    by_cases e : k = m + 1
    · subst e; exact h
    · exact ih k (by omega) h'.1
theorem tmK_at (K : Int) (I : List Int) (n k : Nat) (hk : k < n) (h : tmK K I n = true) : tmB K (atB I k) = true := by
  have h2 : (tmK K I k && tmB K (atB I k)) = true := tmK_down K I n (k + 1) (by omega) h
  rw [Bool.and_eq_true] at h2
  exact h2.2
theorem tmK_no (K : Int) (I : List Int) (n k : Nat) (hk : k < n) (h : tmB K (atB I k) = false) : tmK K I n = false := by
  cases e : tmK K I n
  · rfl
  · rw [tmK_at K I n k hk e] at h
    cases h
theorem tmB_ways (K : Int) (x : Nat) : (fFin x = false ∧ tmB K x = false) ∨ (fFin x = true ∧ fK x = 0 ∧ tmB K x = true) ∨ (fFin x = true ∧ fK x ≠ 0 ∧ eX x < -K ∧ tmB K x = false) ∨ (fFin x = true ∧ fK x ≠ 0 ∧ -K ≤ eX x ∧ K ≤ eX x ∧ tmB K x = false) ∨ (fFin x = true ∧ fK x ≠ 0 ∧ -K ≤ eX x ∧ eX x < K ∧ tmB K x = true) := by
  unfold tmB
  cases hf : fFin x
  · exact .inl ⟨rfl, rfl⟩
  · right
    by_cases h0 : fK x = 0
    · left; exact ⟨rfl, h0, by rw [decide_eq_true h0]; rfl⟩
    · right
      rw [decide_eq_false h0]
      by_cases h1 : eX x < -K
      · left; exact ⟨rfl, h0, h1, by rw [decide_eq_false (by omega)]; rfl⟩
      · right
        by_cases h2 : K ≤ eX x
        · left; exact ⟨rfl, h0, by omega, h2, by rw [decide_eq_false (by omega)]; rfl⟩
        · right; exact ⟨rfl, h0, by omega, by omega, by rw [decide_eq_true (by omega)]; rfl⟩

set_option maxRecDepth 20000 in
set_option maxHeartbeats 8000000 in
theorem r9tame_any (ao : Option Addr) (c : Nat) (I : List Int) (K : Int) (w : World) (hI : BitsAt w ao c I) (hn : I.length ≤ 35184372088830) (hK : -5000 ≤ K ∧ K ≤ 5000) :
    Calls Tryz.prog 19 #[.slice ao I.length c, .int .i64 K] w fun e w' => e = .returned (.bool (tmK K I I.length)) ∧ Below w.heap.size w w' := by
  have HI := hide hI
  obtain ⟨n, hnn⟩ : ∃ n, I.length = n := ⟨_, rfl⟩
  rw [hnn] at hn ⊢
  have HN := hide hnn
  have hw : IntKind.i64.wrap (-K) = -K := by simp only [IntKind.wrap_i64]; omega
  clear hI hnn hK
  obtain ⟨v, hv⟩ : ∃ v, tmK K I n = v := ⟨_, rfl⟩
  rw [hv]
  have HV := hide hv
  clear hv
  go_enter Tryz.func19, Tryz.ntmps19
  go_wp2_with fail
  go_loopw [5] (fun i wr => ∃ k : Nat, k ≤ n ∧ i = .int .i64 k ∧ Hid (tmK K I k = true) ∧ Hid (Below w.heap.size w wr)) (fun i _ => n - (intOf i).toNat)
  case atStart => exact ⟨0, Nat.zero_le _, rfl, rfl, Below.refl _ _⟩
  case round =>
    obtain ⟨k, hk, rfl, hq, hB⟩ := hrel
    by_cases hlt : k < n
    · have hkI : (k : Int) < (n : Int) := by omega
      obtain ⟨b, off, hao, hb, hc⟩ := ((unhide HI).below hB.out).ne (by rw [unhide HN]; omega)
      have hck := hide (hc k (by rw [unhide HN]; exact hlt))
      have x64 := (unhide HI).lt k
      have C1 := hide (fun w' => rfinite_any (atB I k) w' x64)
      have C2 := hide (fun w' => rkind_any (atB I k) w' x64)
      have C3 := hide (fun w' => r8exp_any (atB I k) w' x64)
      have eV : Hid (tmK K I (k + 1) = (tmK K I k && tmB K (atB I k))) := rfl
      have eF := hide (fun h => tmK_no K I n k hlt h)
      have WY := hide (tmB_ways K (atB I k))
      subst hao
      clear hc x64
      generalize tmB K (atB I k) = tb at *
      generalize eX (atB I k) = ex at *
      generalize fK (atB I k) = kd at *
      generalize fFin (atB I k) = ff at *
      generalize atB I k = x at *
      rcases unhide WY with ⟨rfl, rfl⟩ | ⟨rfl, rfl, rfl⟩ | ⟨rfl, g0, g1, rfl⟩ | ⟨rfl, g0, g1, g2, rfl⟩ | ⟨rfl, g0, g1, g2, rfl⟩
      · have hv2 := (unhide HV).symm.trans (unhide eF rfl)
        subst hv2
        clear WY eF
        have hc0 := unhide hck
        go_wp2_with fail
        refine (unhide C1 _).mono ?_
        rintro e w2 ⟨rfl, rfl⟩
        clear C1 C2 C3
        go_wp2_with fail
        exact bodyPost_ret (v := .bool false) (by simp [results, Tryz.results19, go_sem]) rfl ⟨rfl, hB.out⟩
      · clear WY eF
        have hc0 := unhide hck
        go_wp2_with fail
        refine (unhide C1 _).mono ?_
        rintro e w2 ⟨rfl, rfl⟩
        go_wp2_with fail
        refine (unhide C2 _).mono ?_
        rintro e w2 ⟨rfl, rfl⟩
        clear C1 C2 C3
        go_wp2_with fail
        go_round
        case rel => exact ⟨k + 1, by omega, by go_num, by unfold Hid; rw [eV.out, hq.out]; rfl, hB⟩
        case measure => simp [intOf]; omega
      · have hv2 := (unhide HV).symm.trans (unhide eF rfl)
        subst hv2
        clear WY eF
        have hc0 := unhide hck
        have g0' : (kd == 0) = false := by rw [beq_eq_false_iff_ne]; exact g0
        go_wp2_with fail
        refine (unhide C1 _).mono ?_
        rintro e w2 ⟨rfl, rfl⟩
        go_wp2_with fail
        refine (unhide C2 _).mono ?_
        rintro e w2 ⟨rfl, rfl⟩
        go_wp2_with fail
        refine (unhide C3 _).mono ?_
        rintro e w2 ⟨rfl, hb2⟩
        have B2 : Hid (Below w.heap.size w w2) := hB.out.trans (hb2.mono hB.out.size)
        clear C1 C2 C3 hb2
        go_wp2_with fail
        exact bodyPost_ret (v := .bool false) (by simp [results, Tryz.results19, go_sem]) rfl ⟨rfl, B2.out⟩
      · have hv2 := (unhide HV).symm.trans (unhide eF rfl)
        subst hv2
        clear WY eF
        have hc0 := unhide hck
        have HC := hck
        have g0' : (kd == 0) = false := by rw [beq_eq_false_iff_ne]; exact g0
        go_wp2_with fail
        refine (unhide C1 _).mono ?_
        rintro e w2 ⟨rfl, rfl⟩
        go_wp2_with fail
        refine (unhide C2 _).mono ?_
        rintro e w2 ⟨rfl, rfl⟩
        go_wp2_with fail
        refine (unhide C3 _).mono ?_
        rintro e w2 ⟨rfl, hb2⟩
        have hc2 := cell_keep (unhide HC) hb2
        have B2 : Hid (Below w.heap.size w w2) := hB.out.trans (hb2.mono hB.out.size)
        clear C1 C2 hb2 hc0
        go_wp2_with fail
        refine (unhide C3 _).mono ?_
        rintro e w3 ⟨rfl, hb3⟩
        have B3 : Hid (Below w.heap.size w w3) := B2.out.trans (hb3.mono B2.out.size)
        clear C3 hb3
        go_wp2_with fail
        exact bodyPost_ret (v := .bool false) (by simp [results, Tryz.results19, go_sem]) rfl ⟨rfl, B3.out⟩
      · clear WY eF
        have hc0 := unhide hck
        have HC := hck
        have g0' : (kd == 0) = false := by rw [beq_eq_false_iff_ne]; exact g0
        go_wp2_with fail
        refine (unhide C1 _).mono ?_
        rintro e w2 ⟨rfl, rfl⟩
        go_wp2_with fail
        refine (unhide C2 _).mono ?_
        rintro e w2 ⟨rfl, rfl⟩
        go_wp2_with fail
        refine (unhide C3 _).mono ?_
        rintro e w2 ⟨rfl, hb2⟩
        have hc2 := cell_keep (unhide HC) hb2
        have B2 : Hid (Below w.heap.size w w2) := hB.out.trans (hb2.mono hB.out.size)
        clear C1 C2 hb2 hc0
        go_wp2_with fail
        refine (unhide C3 _).mono ?_
        rintro e w3 ⟨rfl, hb3⟩
        have B3 : Hid (Below w.heap.size w w3) := B2.out.trans (hb3.mono B2.out.size)
        clear C3 hb3
        go_wp2_with fail
        go_round
        case rel => exact ⟨k + 1, by omega, by go_num, by unfold Hid; rw [eV.out, hq.out]; rfl, B3⟩
        case measure => simp [intOf]; omega
    · have hkk : k = n := by omega
      subst hkk
      have e2 := (unhide HV).symm.trans hq.out
      subst e2
      go_wp2_with fail
      exact bodyPost_ret (v := .bool true) (by simp [results, Tryz.results19, go_sem]) rfl ⟨rfl, hB.out⟩

end Go.Proofs.YtimejpbmehegeaaGreatDoor

/- Halfway between two numbers; products of such. -/
namespace Go.Proofs.YtimejpbmehegeaaGreatDoor
open Go.RowKit
/-- A product, at its numbers' own powers. -/
theorem mul_level7 (z1 z2 lo1 lo2 : Int) (h1 : z1 ≠ 0) (h2 : z2 ≠ 0) (l1 : lo1 ≤ oE z1 lo1) (l2 : lo2 ≤ oE z2 lo2) :
    oM (z1 * z2) = oM (oM z1 * oM z2) ∧ oE (z1 * z2) (lo1 + lo2) = oE (oM z1 * oM z2) (oE z1 lo1 + oE z2 lo2) := by
  have x1 := oM_level z1 lo1 h1
  have x2 := oM_level z2 lo2 h2
  obtain ⟨i, hi⟩ : ∃ i : Nat, oE z1 lo1 = lo1 + i := ⟨(oE z1 lo1 - lo1).toNat, by omega⟩
  obtain ⟨j, hj⟩ : ∃ j : Nat, oE z2 lo2 = lo2 + j := ⟨(oE z2 lo2 - lo2).toNat, by omega⟩
  rw [hi, show (lo1 + (i : Int) - lo1).toNat = i by omega] at x1
  rw [hj, show (lo2 + (j : Int) - lo2).toNat = j by omega] at x2
  have e : z1 * z2 = oM z1 * oM z2 * 2 ^ (i + j) := by
    rw [Int.pow_add, show oM z1 * oM z2 * (2 ^ i * 2 ^ j) = oM z1 * 2 ^ i * (oM z2 * 2 ^ j) by ac_rfl, x1, x2]
  have s := oM_scale (oM z1 * oM z2) (i + j) (lo1 + lo2)
  rw [← e] at s
  refine ⟨s.1, ?_⟩
  rw [s.2, hi, hj]
  congr 1
  omega
theorem oE_ge (z lo : Int) (h : z ≠ 0) : lo ≤ oE z lo := by
  rw [oE_ne _ _ h]; omega

/-- The reference's product of two that are not long. -/
theorem rmul7 {w : World} {v u : Value} {m1 m2 e1 e2 : Int} (hv : IsDy w v m1 e1) (hu : IsDy w u m2 e2) (h1 : m1.natAbs < 1152921504606846976) (h2 : m2.natAbs < 1152921504606846976) (b1 : -3000 ≤ e1 ∧ e1 ≤ 3000) (b2 : -3000 ≤ e2 ∧ e2 ≤ 3000) :
    Calls Tryz.prog 65 #[v, u] w fun r w' => ∃ q, r = .returned q ∧ IsDy w' q (oM (m1 * m2)) (oE (m1 * m2) (e1 + e2)) ∧ Below w.heap.size w w' := by
  have p30 : (1152921504606846976 : Nat) ≤ 4294967296 ^ 30 := by decide +kernel
  obtain ⟨n, a, c, L, rfl, g1, g2, g3, g4, g5⟩ := hv.right (small_TOP _ (by omega))
  obtain ⟨n', a', c', L', rfl, k1, k2, k3, k4, k5⟩ := hu.right (small_TOP _ (by omega))
  have v1 : val L = m1.natAbs := by rw [← g3, natAbs_sval]
  have v2 : val L' = m2.natAbs := by rw [← k3, natAbs_sval]
  have l1 : L.length ≤ 30 := (length_le_iff L g1.2.1 (right_canon g2).2.1 30).2 (by rw [v1]; exact Nat.lt_of_lt_of_le h1 p30)
  have l2 : L'.length ≤ 30 := (length_le_iff L' k1.2.1 (right_canon k2).2.1 30).2 (by rw [v2]; exact Nat.lt_of_lt_of_le h2 p30)
  have := rmul_any n n' a a' c c' L L' e1 e2 w g1 k1 l1 l2
  rw [g3, k3] at this
  have hm : (m1 * m2).natAbs < 2 ^ 120 := by
    rw [Int.natAbs_mul]
    have : m1.natAbs * m2.natAbs < 1152921504606846976 * 1152921504606846976 := Nat.mul_lt_mul_of_lt_of_le h1 (Nat.le_of_lt h2) (by decide)
    exact Nat.lt_of_lt_of_le this (by decide)
  have hE : (if m1 * m2 = 0 then 0 else IntKind.i64.wrap (IntKind.i64.wrap (e1 + e2) + tz (m1 * m2).natAbs)) = oE (m1 * m2) (e1 + e2) := by
    by_cases h0 : m1 * m2 = 0
    · rw [if_pos h0, h0, oE_zero]
    · have ht : tz (m1 * m2).natAbs < 120 := tz_lt _ 120 (by omega) hm
      rw [if_neg h0, oE_ne _ _ h0, wrap_small (e1 + e2) (by omega), wrap_small _ (by omega)]
  rwa [hE] at this

end Go.Proofs.YtimejpbmehegeaaGreatDoor

/- Exact numbers at a level: the reference's values, products, powers of two. -/
namespace Go.Proofs.YtimejpbmehegeaaGreatDoor
open Go.RowKit

/-- The number z times 2^lo. -/
def IsLv (w : World) (v : Value) (lo z : Int) : Prop := IsDy w v (oM z) (oE z lo)
theorem IsLv.below {w w' : World} {v : Value} {lo z : Int} (h : IsLv w v lo z) (hb : Below w.heap.size w w') : IsLv w' v lo z := IsDy.below h hb
theorem IsLv.zero (w : World) (lo : Int) : IsLv w (.agg #[.bool false, .slice none 0 0, .int .i64 0]) lo 0 := by
  unfold IsLv
  rw [oM_zero, oE_zero]
  exact IsDy.zero w none 0
/-- The same number at a lower level. -/
theorem IsLv.lower {w : World} {v : Value} {lo z : Int} (h : IsLv w v lo z) (k : Nat) : IsLv w v (lo - k) (z * 2 ^ k) := by
  unfold IsLv
  have s := oM_scale z k (lo - k)
  rw [show lo - (k : Int) + k = lo by omega] at s
  rw [s.1, s.2]
  exact h
theorem oM_neg_iff (z : Int) : oM z < 0 ↔ z < 0 := by
  by_cases h : z = 0
  · subst h; rw [oM_zero]
  · have x := oM_level z 0 h
    have hp : (0 : Int) < 2 ^ (oE z 0 - 0).toNat := Int.pow_pos (by decide)
    constructor
    · intro g
      rw [← x]
      exact Int.mul_neg_of_neg_of_pos g hp
    · intro g
      rcases Int.lt_or_le (oM z) 0 with k | k
      · exact k
      · have := Int.mul_nonneg k (Int.le_of_lt hp)
        omega
theorem dy_sign {w : World} {n : Bool} {a : Option Addr} {l c : Nat} {X M Y : Int} (h : IsDy w (.agg #[.bool n, .slice a l c, .int .i64 X]) M Y) : n = decide (M < 0) := by
  obtain ⟨n', a', c', L', e1, _, _, e4, _⟩ := h.parts
  simp only [Value.agg.injEq, Array.mk.injEq, List.cons.injEq, Value.bool.injEq] at e1
  rw [e1.1]; exact e4

theorem rvalueN (b : Nat) (w : World) (h : b < 18446744073709551616) (hf : fFin b = true) :
    Calls Tryz.prog 23 #[.int .u64 b] w fun r w' => ∃ u, r = .returned u ∧ IsLv w' u (-1074) (fZ b) ∧ Below w.heap.size w w' := by
  obtain ⟨d1, d2⟩ := fZ_level b h hf
  unfold IsLv
  rw [d1, d2]
  exact rvalue_any b w h

theorem fZ_ne {b : Nat} (h : fZ b ≠ 0) : fK b ≠ 0 := fun e => h (by
  have := fZ_abs b
  rw [(fK_zero b).1 e, rv_zero] at this
  omega)
theorem fD_few (b : Nat) (h : b < 18446744073709551616) (hf : fFin b = true) : (oM (fZ b)).natAbs < 9007199254740992 ∧ -1074 ≤ oE (fZ b) (-1074) ∧ oE (fZ b) (-1074) ≤ 1024 := by
  by_cases h0 : fZ b = 0
  · rw [h0, oM_zero, oE_zero]; decide
  · obtain ⟨d1, d2⟩ := fZ_level b h hf
    obtain ⟨z1, z2, z3, z4, z5, z6, z7, z8, z9⟩ := sc_facts b h hf (fZ_ne h0)
    rw [d1, d2]
    exact ⟨z2, z5, z6⟩

/-- The product of two numbers' values. -/
theorem rmulV {a b : Nat} {w : World} {v u : Value} (ha : a < 18446744073709551616) (hb : b < 18446744073709551616) (fa : fFin a = true) (fb : fFin b = true) (hv : IsLv w v (-1074) (fZ a)) (hu : IsLv w u (-1074) (fZ b)) :
    Calls Tryz.prog 65 #[v, u] w fun r w' => ∃ q, r = .returned q ∧ IsLv w' q (-2148) (fZ a * fZ b) ∧ Below w.heap.size w w' := by
  obtain ⟨x1, x2, x3⟩ := fD_few a ha fa
  obtain ⟨y1, y2, y3⟩ := fD_few b hb fb
  have := rmul7 hv hu (by omega) (by omega) (by omega) (by omega)
  unfold IsLv
  by_cases h0 : fZ a = 0
  · rw [h0] at this ⊢
    rw [oM_zero, Int.zero_mul, oM_zero, oE_zero] at this
    rw [Int.zero_mul, oM_zero, oE_zero]
    exact this
  by_cases h1 : fZ b = 0
  · rw [h1] at this ⊢
    rw [oM_zero, Int.mul_zero, oM_zero, oE_zero] at this
    rw [Int.mul_zero, oM_zero, oE_zero]
    exact this
  obtain ⟨m1, m2⟩ := mul_level7 (fZ a) (fZ b) (-1074) (-1074) h0 h1 (oE_ge _ _ h0) (oE_ge _ _ h1)
  rw [show (-1074 : Int) + -1074 = -2148 by decide] at m2
  rw [m1, m2]
  exact this

/-- A power of two. -/
theorem rscaleL {w : World} {v : Value} {lo : Int} {W : Nat} {z : Int} (n : Int) (hv : IsLv w v lo z) (h1 : Lvl lo W z) (hn : -32768 ≤ n ∧ n ≤ 32768) :
    Calls Tryz.prog 28 #[v, .int .i64 n] w fun r w' => ∃ q, r = .returned q ∧ IsLv w' q (lo + n) z ∧ Below w.heap.size w w' := by
  unfold IsLv at *
  obtain ⟨na, ao, ca, A, rfl, a1, a2, a3, a4, a5⟩ := hv.right h1.right.2
  have x1 := dRt_in h1.right.1
  have := rscale_any na ao ca A _ n w a1 a2 x1 hn
  rw [a3, oM_oM] at this
  by_cases h0 : z = 0
  · subst h0
    rw [oM_zero, oE_zero] at *
    exact this
  · rw [oE_oM _ _ h0] at this
    have hx : oE z (lo + n) = oE z lo + n := by rw [oE_ne _ _ h0, oE_ne _ _ h0]; omega
    rw [hx]
    exact this

set_option maxRecDepth 20000 in
set_option maxHeartbeats 4000000 in
theorem near_neg (n1 n2 : Bool) (a1 a2 : Option Addr) (l1 l2 c1 c2 : Nat) (X1 X2 k : Int) (w : World) (M X M2 Y2 MS YS o : Int) (hM : M < 0) (hk : -5000 ≤ k ∧ k ≤ 5000)
    (C1 : ∀ w', Below w.heap.size w w' → Calls Tryz.prog 26 #[.agg #[.bool n1, .slice a1 l1 c1, .int .i64 X1], .agg #[.bool n2, .slice a2 l2 c2, .int .i64 X2]] w' fun r w'' => ∃ q, r = .returned q ∧ IsDy w'' q M X ∧ Below w'.heap.size w' w'')
    (C2 : ∀ w' v, IsDy w' v M X → Calls Tryz.prog 64 #[v] w' fun r w'' => ∃ q, r = .returned q ∧ IsDy w'' q M2 Y2 ∧ Below w'.heap.size w' w'')
    (C3 : ∀ w', Below w.heap.size w w' → Calls Tryz.prog 28 #[.agg #[.bool n2, .slice a2 l2 c2, .int .i64 X2], .int .i64 (-k)] w' fun r w'' => ∃ q, r = .returned q ∧ IsDy w'' q MS YS ∧ Below w'.heap.size w' w'')
    (C4 : ∀ w' v u, IsDy w' v M2 Y2 → IsDy w' u MS YS → Calls Tryz.prog 31 #[v, u] w' fun r w'' => r = .returned (.int .i64 o) ∧ Below w'.heap.size w' w'') :
    Calls Tryz.prog 24 #[.agg #[.bool n1, .slice a1 l1 c1, .int .i64 X1], .agg #[.bool n2, .slice a2 l2 c2, .int .i64 X2], .int .i64 k] w fun r w' => r = .returned (.bool (decide (o ≤ 0))) ∧ Below w.heap.size w w' := by
  have K1 := hide C1; have K2 := hide C2; have K3 := hide C3; have K4 := hide C4
  have hw : IntKind.i64.wrap (-k) = -k := by simp only [IntKind.wrap_i64]; omega
  have B0 := hide ((below_alloc9 w (.cells #[.bool n1, .slice a1 l1 c1, .int .i64 X1] 54)).alloc (by simp) (.cells #[.bool n2, .slice a2 l2 c2, .int .i64 X2] 54))
  have xb := Box3.new (w.alloc (.cells #[.bool n1, .slice a1 l1 c1, .int .i64 X1] 54)) (.bool n2) (.slice a2 l2 c2) (.int .i64 X2)
  rw [size_alloc9] at xb
  have XB := hide xb
  clear C1 C2 C3 C4 xb
  go_enter Tryz.func24, Tryz.ntmps24
  go_wp2_with fail
  refine (unhide K1 _ (unhide B0)).mono ?_
  rintro e w2 ⟨q, rfl, ⟨n3, a3, c3, L3, rfl, i3⟩, hb2⟩
  have H3 : IsDy w2 (.agg #[.bool n3, .slice a3 L3.length c3, .int .i64 X]) M X := ⟨n3, a3, c3, L3, rfl, i3⟩
  have hs := dy_sign H3
  rw [decide_eq_true hM] at hs
  subst hs
  have XB2 := hide ((unhide XB).all hb2)
  have B2 := hide ((unhide B0).trans (hb2.mono (unhide B0).size))
  generalize L3.length = l3 at *
  have H3' := hide H3
  clear i3 hb2 K1 XB B0 H3
  have hlt2 : w.heap.size + 1 ≠ w2.heap.size := by have := (unhide XB2).lt; omega
  have hsz2 : w.heap.size ≤ w2.heap.size := (unhide B2).size
  have x3 := Box3.new w2 (.bool true) (.slice a3 l3 c3) (.int .i64 X)
  have X3 := hide x3
  have XB3 := hide ((unhide XB2).old (.cells #[.bool true, .slice a3 l3 c3, .int .i64 X] 54))
  have B3 := hide ((unhide B2).alloc hsz2 (.cells #[.bool true, .slice a3 l3 c3, .int .i64 X] 54))
  have H3a := hide ((unhide H3').below (below_alloc9 w2 (.cells #[.bool true, .slice a3 l3 c3, .int .i64 X] 54)))
  have HL := hide hlt2; have HZ := hide hsz2
  clear x3 XB2 B2 H3' hlt2 hsz2
  go_wp2_with fail
  refine (unhide K2 _ _ (unhide H3a)).mono ?_
  rintro e w3 ⟨q, rfl, ⟨n4, a4, c4, L4, rfl, i4⟩, hb3⟩
  have H4 : IsDy w3 (.agg #[.bool n4, .slice a4 L4.length c4, .int .i64 Y2]) M2 Y2 := ⟨n4, a4, c4, L4, rfl, i4⟩
  generalize L4.length = l4 at *
  have x3 := (unhide X3).all hb3
  have y0 := x3.c0; have y1 := x3.c1; have y2 := x3.c2; have f0 := x3.free 0; have f1 := x3.free 1; have f2 := x3.free 2
  have X4 := hide (x3.put (.bool n4) (.slice a4 l4 c4) (.int .i64 Y2))
  have H5 := hide (H4.put3 x3 (.bool n4) (.slice a4 l4 c4) (.int .i64 Y2))
  have B4 := hide ((unhide B3).trans (hb3.mono (unhide B3).size))
  have B5 := hide ((((unhide B4).setCell (p := ⟨w2.heap.size, 0, none⟩) (unhide HZ) (.bool n4)).setCell (p := ⟨w2.heap.size, 1, none⟩) (unhide HZ) (.slice a4 l4 c4)).setCell (p := ⟨w2.heap.size, 2, none⟩) (unhide HZ) (.int .i64 Y2))
  have XB4 := hide (((((unhide XB3).all hb3).other (p := ⟨w2.heap.size, 0, none⟩) (unhide HL) (.bool n4)).other (p := ⟨w2.heap.size, 1, none⟩) (unhide HL) (.slice a4 l4 c4)).other (p := ⟨w2.heap.size, 2, none⟩) (unhide HL) (.int .i64 Y2))
  clear i4 hb3 K2 XB3 B3 B4 H4 H3a X3 x3
  go_wp2_with fail
  refine at_world (fun W => Below w.heap.size w W ∧ Box3 W w2.heap.size (.bool n4) (.slice a4 l4 c4) (.int .i64 Y2) ∧ Box3 W (w.heap.size + 1) (.bool n2) (.slice a2 l2 c2) (.int .i64 X2) ∧ IsDy W (.agg #[.bool n4, .slice a4 l4 c4, .int .i64 Y2]) M2 Y2) ⟨unhide B5, unhide X4, unhide XB4, unhide H5⟩ ?_
  rintro W0 ⟨b0, x4, x5, h5⟩
  have HK := hide (fun w' (h : Below W0.heap.size W0 w') => (show Below W0.heap.size W0 w' ∧ w'.cell? ⟨w2.heap.size, 0, none⟩ = some (.bool n4) ∧ w'.cell? ⟨w2.heap.size, 1, none⟩ = some (.slice a4 l4 c4) ∧ w'.cell? ⟨w2.heap.size, 2, none⟩ = some (.int .i64 Y2) ∧ w'.cell? ⟨w.heap.size + 1, 0, none⟩ = some (.bool n2) ∧ w'.cell? ⟨w.heap.size + 1, 1, none⟩ = some (.slice a2 l2 c2) ∧ w'.cell? ⟨w.heap.size + 1, 2, none⟩ = some (.int .i64 X2) from
    ⟨h, (x4.all h).c0, (x4.all h).c1, (x4.all h).c2, (x5.all h).c0, (x5.all h).c1, (x5.all h).c2⟩))
  have BB := hide b0; have HH := hide h5
  have K3' := hide (fun w' (h : Below W0.heap.size W0 w') => unhide K3 w' (b0.trans (h.mono b0.size)))
  clear b0 x4 x5 h5 B5 X4 XB4 H5 K3
  generalize w2.heap.size = gx at *
  generalize w.heap.size + 1 = gy at *
  go_region_held3 (fun w' => Below W0.heap.size W0 w' ∧ w'.cell? ⟨gx, 0, none⟩ = some (.bool n4) ∧ w'.cell? ⟨gx, 1, none⟩ = some (.slice a4 l4 c4) ∧ w'.cell? ⟨gx, 2, none⟩ = some (.int .i64 Y2) ∧ w'.cell? ⟨gy, 0, none⟩ = some (.bool n2) ∧ w'.cell? ⟨gy, 1, none⟩ = some (.slice a2 l2 c2) ∧ w'.cell? ⟨gy, 2, none⟩ = some (.int .i64 X2))
    (first | exact unhide HK _ (Below.refl _ _).drew | exact unhide HK _ (by assumption) | fail "KK")
    (first | (go_at_call 28; refine (unhide K3' _ (And.left (by assumption))).mono ?_; rintro e w5 ⟨q, rfl, hq, hb5⟩; have hB5 : Below W0.heap.size W0 w5 := Below.trans (And.left (by assumption)) (hb5.mono (Below.size (And.left (by assumption)))); have HQ := hide hq; clear hb5 hq) | (go_at_call 31; refine (unhide K4 _ _ _ ((unhide HH).below (by assumption)) (unhide HQ)).mono ?_; rintro e w6 ⟨rfl, hb6⟩; have hB6 : Below W0.heap.size W0 w6 := Below.trans (And.left (by assumption)) (hb6.mono (Below.size (And.left (by assumption)))); clear hb6) | fail "NO ARM")
  go_wp2
  go_ret
  exact ⟨rfl, (unhide BB).trans (Below.mono (And.left (by assumption)) (unhide BB).size)⟩

set_option maxRecDepth 20000 in
set_option maxHeartbeats 4000000 in
theorem near_pos (n1 n2 : Bool) (a1 a2 : Option Addr) (l1 l2 c1 c2 : Nat) (X1 X2 k : Int) (w : World) (M X MS YS o : Int) (hM : 0 ≤ M) (hk : -5000 ≤ k ∧ k ≤ 5000)
    (C1 : ∀ w', Below w.heap.size w w' → Calls Tryz.prog 26 #[.agg #[.bool n1, .slice a1 l1 c1, .int .i64 X1], .agg #[.bool n2, .slice a2 l2 c2, .int .i64 X2]] w' fun r w'' => ∃ q, r = .returned q ∧ IsDy w'' q M X ∧ Below w'.heap.size w' w'')
    (C3 : ∀ w', Below w.heap.size w w' → Calls Tryz.prog 28 #[.agg #[.bool n2, .slice a2 l2 c2, .int .i64 X2], .int .i64 (-k)] w' fun r w'' => ∃ q, r = .returned q ∧ IsDy w'' q MS YS ∧ Below w'.heap.size w' w'')
    (C4 : ∀ w' v u, IsDy w' v M X → IsDy w' u MS YS → Calls Tryz.prog 31 #[v, u] w' fun r w'' => r = .returned (.int .i64 o) ∧ Below w'.heap.size w' w'') :
    Calls Tryz.prog 24 #[.agg #[.bool n1, .slice a1 l1 c1, .int .i64 X1], .agg #[.bool n2, .slice a2 l2 c2, .int .i64 X2], .int .i64 k] w fun r w' => r = .returned (.bool (decide (o ≤ 0))) ∧ Below w.heap.size w w' := by
  have K1 := hide C1; have K3 := hide C3; have K4 := hide C4
  have hw : IntKind.i64.wrap (-k) = -k := by simp only [IntKind.wrap_i64]; omega
  have B0 := hide ((below_alloc9 w (.cells #[.bool n1, .slice a1 l1 c1, .int .i64 X1] 54)).alloc (by simp) (.cells #[.bool n2, .slice a2 l2 c2, .int .i64 X2] 54))
  have xb := Box3.new (w.alloc (.cells #[.bool n1, .slice a1 l1 c1, .int .i64 X1] 54)) (.bool n2) (.slice a2 l2 c2) (.int .i64 X2)
  rw [size_alloc9] at xb
  have XB := hide xb
  clear C1 C3 C4 xb
  go_enter Tryz.func24, Tryz.ntmps24
  go_wp2_with fail
  refine (unhide K1 _ (unhide B0)).mono ?_
  rintro e w2 ⟨q, rfl, ⟨n3, a3, c3, L3, rfl, i3⟩, hb2⟩
  have H3 : IsDy w2 (.agg #[.bool n3, .slice a3 L3.length c3, .int .i64 X]) M X := ⟨n3, a3, c3, L3, rfl, i3⟩
  have hs := dy_sign H3
  rw [decide_eq_false (show ¬ M < 0 by omega)] at hs
  subst hs
  have XB2 := hide ((unhide XB).all hb2)
  have B2 := hide ((unhide B0).trans (hb2.mono (unhide B0).size))
  generalize L3.length = l3 at *
  have H3' := hide H3
  clear i3 hb2 K1 XB B0 H3
  have hsz2 : w.heap.size ≤ w2.heap.size := (unhide B2).size
  have x3 := Box3.new w2 (.bool false) (.slice a3 l3 c3) (.int .i64 X)
  have X3 := hide x3
  have XB3 := hide ((unhide XB2).old (.cells #[.bool false, .slice a3 l3 c3, .int .i64 X] 54))
  have B3 := hide ((unhide B2).alloc hsz2 (.cells #[.bool false, .slice a3 l3 c3, .int .i64 X] 54))
  have H3a := hide ((unhide H3').below (below_alloc9 w2 (.cells #[.bool false, .slice a3 l3 c3, .int .i64 X] 54)))
  clear x3 XB2 B2 H3' hsz2
  have X4 := X3; have H5 := H3a; have B5 := B3; have XB4 := XB3
  clear X3 H3a B3 XB3
  go_wp2_with fail
  refine at_world (fun W => Below w.heap.size w W ∧ Box3 W w2.heap.size (.bool false) (.slice a3 l3 c3) (.int .i64 X) ∧ Box3 W (w.heap.size + 1) (.bool n2) (.slice a2 l2 c2) (.int .i64 X2) ∧ IsDy W (.agg #[.bool false, .slice a3 l3 c3, .int .i64 X]) M X) ⟨unhide B5, unhide X4, unhide XB4, unhide H5⟩ ?_
  rintro W0 ⟨b0, x4, x5, h5⟩
  have HK := hide (fun w' (h : Below W0.heap.size W0 w') => (show Below W0.heap.size W0 w' ∧ w'.cell? ⟨w2.heap.size, 0, none⟩ = some (.bool false) ∧ w'.cell? ⟨w2.heap.size, 1, none⟩ = some (.slice a3 l3 c3) ∧ w'.cell? ⟨w2.heap.size, 2, none⟩ = some (.int .i64 X) ∧ w'.cell? ⟨w.heap.size + 1, 0, none⟩ = some (.bool n2) ∧ w'.cell? ⟨w.heap.size + 1, 1, none⟩ = some (.slice a2 l2 c2) ∧ w'.cell? ⟨w.heap.size + 1, 2, none⟩ = some (.int .i64 X2) from
    ⟨h, (x4.all h).c0, (x4.all h).c1, (x4.all h).c2, (x5.all h).c0, (x5.all h).c1, (x5.all h).c2⟩))
  have BB := hide b0; have HH := hide h5
  have K3' := hide (fun w' (h : Below W0.heap.size W0 w') => unhide K3 w' (b0.trans (h.mono b0.size)))
  clear b0 x4 x5 h5 B5 X4 XB4 H5 K3
  generalize w2.heap.size = gx at *
  generalize w.heap.size + 1 = gy at *
  go_region_held3 (fun w' => Below W0.heap.size W0 w' ∧ w'.cell? ⟨gx, 0, none⟩ = some (.bool false) ∧ w'.cell? ⟨gx, 1, none⟩ = some (.slice a3 l3 c3) ∧ w'.cell? ⟨gx, 2, none⟩ = some (.int .i64 X) ∧ w'.cell? ⟨gy, 0, none⟩ = some (.bool n2) ∧ w'.cell? ⟨gy, 1, none⟩ = some (.slice a2 l2 c2) ∧ w'.cell? ⟨gy, 2, none⟩ = some (.int .i64 X2))
    (first | exact unhide HK _ (Below.refl _ _).drew | exact unhide HK _ (by assumption) | fail "KK")
    (first | (go_at_call 28; refine (unhide K3' _ (And.left (by assumption))).mono ?_; rintro e w5 ⟨q, rfl, hq, hb5⟩; have hB5 : Below W0.heap.size W0 w5 := Below.trans (And.left (by assumption)) (hb5.mono (Below.size (And.left (by assumption)))); have HQ := hide hq; clear hb5 hq) | (go_at_call 31; refine (unhide K4 _ _ _ ((unhide HH).below (by assumption)) (unhide HQ)).mono ?_; rintro e w6 ⟨rfl, hb6⟩; have hB6 : Below W0.heap.size W0 w6 := Below.trans (And.left (by assumption)) (hb6.mono (Below.size (And.left (by assumption)))); clear hb6) | fail "NO ARM")
  go_wp2
  go_ret
  exact ⟨rfl, (unhide BB).trans (Below.mono (And.left (by assumption)) (unhide BB).size)⟩

end Go.Proofs.YtimejpbmehegeaaGreatDoor

