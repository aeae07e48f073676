/- Part 24 of the texts. -/
import Derived.Test.YtgegjhkiiejhlaaDoorPart23
import Derived.Test.YtgegjhkiiejhlaaDoorPart18
import Derived.Test.YtgegjhkiiejhlaaDoorPart21
/- Contract of the reference's Nearest, any number. -/
namespace Go.Proofs.YtgegjhkiiejhlaaDoor
open Go.RowKit

set_option maxHeartbeats 4000000 in
theorem near_up (ng : Bool) (ao : Option Addr) (ca l n : Nat) (E e q : Int) (w : World) (hE : -20000 ≤ E ∧ E ≤ 20000) (he : -20000 ≤ e ∧ e ≤ 20000) (hlt : decide (e ≤ E) = true)
    (CSH : ∀ w', Below w.heap.size w w' → Calls Tryd.prog 32 #[.agg #[.bool ng, .slice ao l ca], .int .i64 (E - e)] w' fun r w'' => ∃ v, r = .returned v ∧ IsNum 0 w'' v q ∧ Below w'.heap.size w' w'')
    (CSM : ∀ w' v, IsNum 0 w' v q → Calls Tryd.prog 89 #[v] w' fun r w'' => r = .returned (.int .u64 n) ∧ Below w'.heap.size w' w'') :
    Calls Tryd.prog 67 #[.agg #[.bool ng, .slice ao l ca, .int .i64 E], .int .i64 e] w fun r w' => r = .returned (.tuple #[.int .u64 n, .bool true]) ∧ Below w.heap.size w w' := by
  have KSH := hide CSH; have KSM := hide CSM
  clear CSH CSM
  have w1 : IntKind.i64.wrap (E - e) = E - e := by simp only [IntKind.wrap_i64]; omega
  have B0 := hide ((Below.refl w.heap.size w).alloc (Nat.le_refl _) (.cells #[.bool ng, .slice ao l ca, .int .i64 E] 46))
  clear hE he
  go_enter Tryd.func67, Tryd.ntmps67
  go_wp2_with fail
  refine (unhide KSH _ (unhide B0)).mono ?_
  rintro r w1' ⟨v, rfl, hv, hb1⟩
  have B1 := hide ((unhide B0).trans (hb1.mono (unhide B0).size))
  have HV := hide hv
  clear hv hb1 B0 KSH
  go_wp2_with fail
  refine (unhide KSM _ _ (unhide HV)).mono ?_
  rintro r w2 ⟨rfl, hb2⟩
  have B2 := hide ((unhide B1).trans (hb2.mono (unhide B1).size))
  clear hb2 B1 HV KSM
  go_wp2
  exact bodyPost_ret (v := .tuple #[.int .u64 n, .bool true]) (by simp [results, Tryd.results67, go_sem]) rfl ⟨rfl, unhide B2⟩

theorem lvl_of {z : Int} {lo : Int} {W : Nat} (h : z.natAbs < 2 ^ W) (h1 : -16384 ≤ lo) (h2 : lo + W ≤ 16384) (h3 : W ≤ 16384) : Lvl lo W z := ⟨h, h1, h2, h3⟩

theorem cmpI_nat (a b : Nat) : cmpI (a : Int) (b : Int) = if a < b then -1 else if a = b then 0 else 1 := by
  unfold cmpI
  repeat' split
  all_goals omega

theorem odd_oM {z : Int} (h : z % 2 = 1) (e : Int) : oM z = z ∧ oE z e = e := by
  have h0 : z ≠ 0 := by omega
  have := (oddOf z h0).unique (m' := z) (k' := 0) ⟨by simp, h⟩
  exact ⟨this.1, by rw [oE_ne _ _ h0, this.2]; simp⟩

theorem nearest_dy {w : World} {v : Value} {V : Nat} {E : Int} (e : Int) (hv : IsDy w v (V : Int) E) (ho : V % 2 = 1) {B : Nat} (hB : B ≤ 2600) (hV : V < 2 ^ B) (hE : -4000 ≤ E ∧ E ≤ 4000) (he : -1074 ≤ e ∧ e ≤ 980) (hm : mS V (E - e) ≤ 9007199254740992) :
    Calls Tryd.prog 67 #[v, .int .i64 e] w fun r w' => r = .returned (.tuple #[.int .u64 (mS V (E - e) : Nat), .bool (decide (e ≤ E))]) ∧ Below w.heap.size w w' := by
  have hT : (V : Int).natAbs < TOP := lt_TOP (k := B) (by rw [Int.natAbs_natCast]; exact hV) (by omega)
  have hv0 := hv
  obtain ⟨ng, ao, ca, L, rfl, h1, h2, h3, h4, h5⟩ := hv.right hT
  have hng : ng = false := by
    obtain ⟨n', a', c', L', e1, _, _, e4, _⟩ := hv0.parts
    simp only [Value.agg.injEq, Array.mk.injEq, List.cons.injEq, Value.bool.injEq] at e1
    rw [e1.1, e4]; simp
  subst hng
  have hval : val L = V := by have := congrArg Int.natAbs h3; rw [natAbs_sval] at this; simpa using this
  have CSH : ∀ w', Below w.heap.size w w' → Calls Tryd.prog 32 #[.agg #[.bool false, .slice ao L.length ca], .int .i64 (E - e)] w' fun r w'' => ∃ v, r = .returned v ∧ IsNum 0 w'' v (shV false L (E - e)) ∧ Below w'.heap.size w' w'' := fun w' hb =>
    refShift_any false ao ca L (E - e) w' (h1.below hb) h2 (by omega)
  have hsh : shV false L (E - e) = ((if 0 ≤ E - e then V * 2 ^ (E - e).toNat else V / 2 ^ (-(E - e)).toNat : Nat) : Int) := by
    unfold shV sg; rw [hval]; rfl
  rw [hsh] at CSH
  clear hsh
  rcases Int.lt_or_le E e with hlt | hle
  · obtain ⟨k, hk⟩ : ∃ k : Nat, e - E = (k : Int) := ⟨(e - E).toNat, by omega⟩
    have hj : E - e = -(k : Int) := by omega
    rw [if_neg (by omega), show (-(E - e)).toNat = k by omega] at CSH
    rw [decide_eq_false (show ¬ e ≤ E by omega)]
    rw [hj, mS_down V k (by omega)] at hm ⊢
    have hp : 0 < 2 ^ k := Nat.two_pow_pos _
    have hdm := Nat.div_add_mod V (2 ^ k)
    have hml := Nat.mod_lt V hp
    have hq := (cutE_le V k).1
    have hce : cutE V k = V / 2 ^ k + (if 2 ^ k < 2 * (V % 2 ^ k) ∨ (2 ^ k = 2 * (V % 2 ^ k) ∧ V / 2 ^ k % 2 = 1) then 1 else 0) := rfl
    obtain ⟨K, hK⟩ : ∃ K : Nat, K = 5500 := ⟨_, rfl⟩
    have hk6 : k < K := by omega
    have h2k : 2 ^ k < 2 ^ K := Nat.pow_lt_pow_right (by decide) hk6
    have hV6 : V < 2 ^ K := Nat.lt_of_lt_of_le hV (pow_le2 (by omega))
    clear hV
    have hr0 : V % 2 ^ k ≠ 0 := by
      have : V % 2 ^ k % 2 = V % 2 := Nat.mod_mod_of_dvd _ (by obtain ⟨m, rfl⟩ : ∃ m, k = m + 1 := ⟨k - 1, by omega⟩; rw [Nat.pow_succ]; exact Nat.dvd_mul_left _ _)
      omega
    have h5501 : (2 : Nat) ^ (K + 1) = 2 ^ K * 2 := Nat.pow_succ 2 K
    generalize hqq : V / 2 ^ k = q at *
    generalize hrr : V % 2 ^ k = r at *
    have hqk : ((q * 2 ^ k : Nat) : Int) = (q : Int) * 2 ^ k := by rw [Int.natCast_mul, Int.natCast_pow]; rfl
    have hqk2 : q * 2 ^ k ≤ V := by rw [Nat.mul_comm]; omega
    have l1 : Lvl E (K + 1) (V : Int) := lvl_of (by rw [Int.natAbs_natCast]; omega) (by omega) (by omega) (by omega)
    have l2 : Lvl E (K + 1) ((q : Int) * 2 ^ k) := by rw [← hqk]; exact lvl_of (by simp only [Int.natAbs_natCast]; omega) (by omega) (by omega) (by omega)
    have hz : (V : Int) - (q : Int) * 2 ^ k = (r : Int) := by rw [← hqk]; rw [Nat.mul_comm] at hqk2 ⊢; omega
    have l3 : Lvl E (K + 1) (r : Int) := lvl_of (by simp only [Int.natAbs_natCast]; omega) (by omega) (by omega) (by omega)
    have l4 : Lvl E (K + 1) ((r : Int) * 2) := lvl_of (by rw [Int.natAbs_mul, Int.natAbs_natCast, show (2 : Int).natAbs = 2 from rfl]; omega) (by omega) (by omega) (by omega)
    have l5 : Lvl E (K + 1) (1 * 2 ^ k) := lvl_of (by rw [Int.one_mul, Int.natAbs_pow, show (2 : Int).natAbs = 2 from rfl]; omega) (by omega) (by omega) (by omega)
    obtain ⟨o1, o2⟩ := odd_oM (z := (V : Int)) (by omega) E
    have s1 := oM_scale (q : Int) k E
    have s2 := oM_scale 1 k E
    rw [show E + (k : Int) = e by omega] at s1 s2
    have hc : cmpI ((r : Int) * 2) (1 * 2 ^ k) = if r * 2 < 2 ^ k then -1 else if r * 2 = 2 ^ k then 0 else 1 := by
      have := cmpI_nat (r * 2) (2 ^ k)
      rw [Int.natCast_mul, Int.natCast_pow] at this
      rw [Int.one_mul]
      exact this
    have COF : ∀ w' v, IsNum 0 w' v (q : Int) → Calls Tryd.prog 40 #[v, .int .i64 e] w' fun r w'' => ∃ u, r = .returned u ∧ IsDy w'' u (oM ((q : Int) * 2 ^ k)) (oE ((q : Int) * 2 ^ k) E) ∧ Below w'.heap.size w' w'' := fun w' v h => by
      rw [s1.1, s1.2]
      exact rof_small e (h.toM (lt_TOP (k := 64) (by have : (2 : Nat) ^ 64 = 18446744073709551616 := by decide
                                                     simp only [Int.natAbs_natCast]; omega) (by decide))) (by decide) (by omega)
    have CSU : ∀ w' u, Below w.heap.size w w' → IsDy w' u (oM ((q : Int) * 2 ^ k)) (oE ((q : Int) * 2 ^ k) E) → Calls Tryd.prog 50 #[.agg #[.bool false, .slice ao L.length ca, .int .i64 E], u] w' fun r' w'' => ∃ u, r' = .returned u ∧ IsDy w'' u (oM (r : Int)) (oE (r : Int) E) ∧ Below w'.heap.size w' w'' := fun w' u hb hu => by
      have hd : IsDy w' (.agg #[.bool false, .slice ao L.length ca, .int .i64 E]) (oM (V : Int)) (oE (V : Int) E) := by rw [o1, o2]; exact hv.below hb
      have := rsubN hd hu l1 l2
      rwa [hz] at this
    have CO2 : ∀ w' v, IsNumM 2 0 w' v 1 → Calls Tryd.prog 40 #[v, .int .i64 e] w' fun r w'' => ∃ u, r = .returned u ∧ IsDy w'' u (oM (1 * 2 ^ k)) (oE (1 * 2 ^ k) E) ∧ Below w'.heap.size w' w'' := fun w' v h => by
      rw [s2.1, s2.2]
      exact rof_small e h (by decide) (by omega)
    have hR : ∀ W np ap lp cp, IsDy W (.agg #[.bool np, .slice ap lp cp, .int .i64 (oE (r : Int) E)]) (oM (r : Int)) (oE (r : Int) E) → ((lp : Int) == 0) = false := fun W np ap lp cp h => by
      obtain ⟨n', a', c', L', e1, _, _, _, e5, _⟩ := h.parts
      simp only [Value.agg.injEq, Array.mk.injEq, List.cons.injEq, Value.slice.injEq] at e1
      have hne := (oM_ne (r : Int) (by omega)).1
      have : L'.length ≠ 0 := fun h0 => by
        have : L' = [] := List.length_eq_zero_iff.1 h0
        rw [this] at e5
        simp [val] at e5
        omega
      have e2 := e1.2.1.2.1
      simp; omega
    have CSM : ∀ w' v, IsNum 0 w' v (q : Int) → Calls Tryd.prog 89 #[v] w' fun r w'' => r = .returned (.int .u64 q) ∧ Below w'.heap.size w' w'' := fun w' v h => rsmall_num h q rfl (by omega)
    have CCM : ∀ w' v u, IsDy w' v (oM ((r : Int) * 2)) (oE ((r : Int) * 2) E) → IsDy w' u (oM (1 * 2 ^ k)) (oE (1 * 2 ^ k) E) → Calls Tryd.prog 26 #[v, u] w' fun r' w'' => r' = .returned (.int .i64 (cmpI ((r : Int) * 2) (1 * 2 ^ k))) ∧ Below w'.heap.size w' w'' := fun w' v u hv hu => rcmpN hv hu l4 l5
    have HE : -20000 ≤ E ∧ E ≤ 20000 := by omega
    have He : -20000 ≤ e ∧ e ≤ 20000 := by omega
    have hlt' : decide (e ≤ E) = false := decide_eq_false (by omega)
    rw [hj] at CSH
    rw [← hj] at CSH
    by_cases c1 : r * 2 < 2 ^ k
    · rw [if_pos c1] at hc
      rw [hc] at CCM
      rw [hce, if_neg (by omega), Nat.add_zero]
      exact near_d false ao ca L.length q E e _ _ _ _ _ _ _ _ _ _ w HE He hlt' (by omega) hR CSH COF CSU (fun w' v h => rscaleN h l3) CO2 CCM CSM (by decide) (by decide)
    · rw [if_neg c1] at hc
      by_cases c2 : r * 2 = 2 ^ k
      · rw [if_pos c2] at hc
        rw [hc] at CCM
        by_cases c3 : q % 2 = 1
        · rw [hce, if_pos (by omega)]
          exact near_b false ao ca L.length q E e _ _ _ _ _ _ _ _ _ _ w HE He hlt' (by omega) hR CSH COF CSU (fun w' v h => rscaleN h l3) CO2 CCM CSM (by decide) (by decide) (by simp; omega)
        · rw [hce, if_neg (by omega), Nat.add_zero]
          exact near_c false ao ca L.length q E e _ _ _ _ _ _ _ _ _ _ w HE He hlt' (by omega) hR CSH COF CSU (fun w' v h => rscaleN h l3) CO2 CCM CSM (by decide) (by decide) (by simp; omega)
      · rw [if_neg c2] at hc
        rw [hc] at CCM
        rw [hce, if_pos (by omega)]
        exact near_a false ao ca L.length q E e _ _ _ _ _ _ _ _ _ _ w HE He hlt' (by omega) hR CSH COF CSU (fun w' v h => rscaleN h l3) CO2 CCM CSM (by decide)
  · obtain ⟨k, hk⟩ : ∃ k : Nat, E - e = (k : Int) := ⟨(E - e).toNat, by omega⟩
    rw [if_pos (by omega), show (E - e).toNat = k by omega] at CSH
    rw [decide_eq_true hle]
    rw [hk, mS_up] at hm ⊢
    have CSM : ∀ w' v, IsNum 0 w' v ((V * 2 ^ k : Nat) : Int) → Calls Tryd.prog 89 #[v] w' fun r w'' => r = .returned (.int .u64 (V * 2 ^ k : Nat)) ∧ Below w'.heap.size w' w'' := fun w' v h => rsmall_num h _ rfl (by omega)
    exact near_up false ao ca L.length _ E e _ w (by omega) (by omega) (decide_eq_true hle) CSH CSM

end Go.Proofs.YtgegjhkiiejhlaaDoor

/- The reference's Round: the walks. -/
namespace Go.Proofs.YtgegjhkiiejhlaaDoor
open Go.RowKit

set_option maxHeartbeats 4000000 in
theorem rround_z (na : Bool) (ao : Option Addr) (ca : Nat) (E : Int) (w : World) :
    Calls Tryd.prog 39 #[.agg #[.bool na, .slice ao 0 ca, .int .i64 E]] w fun r w' => r = .returned (.tuple #[.int .u64 0, .int .u8 0]) ∧ Below w.heap.size w w' := by
  go_enter Tryd.func39, Tryd.ntmps39
  go_wp2
  exact bodyPost_ret (v := .tuple #[.int .u64 0, .int .u8 0]) (by simp [results, Tryd.results39, go_sem]) rfl ⟨rfl, (Below.refl _ _).alloc (Nat.le_refl _) _⟩

set_option maxHeartbeats 4000000 in
theorem rround_s (na : Bool) (ao : Option Addr) (ca l S : Nat) (E t : Int) (w : World) (h0 : 0 < l) (g1 : decide (t < -1080) = true)
    (CT : ∀ w', Below w.heap.size w w' → Calls Tryd.prog 49 #[.agg #[.bool na, .slice ao l ca, .int .i64 E]] w' fun r w'' => r = .returned (.int .i64 t) ∧ Below w'.heap.size w' w'')
    (CS : ∀ w', Calls Tryd.prog 66 #[.int .u64 0, .bool na] w' fun r w'' => r = .returned (.int .u64 S) ∧ w' = w'') :
    Calls Tryd.prog 39 #[.agg #[.bool na, .slice ao l ca, .int .i64 E]] w fun r w' => r = .returned (.tuple #[.int .u64 S, .int .u8 3]) ∧ Below w.heap.size w w' := by
  have h0' : decide (0 < l) = true := decide_eq_true h0
  have hz : ((l : Int) == 0) = false := by simp; omega
  have KT := hide CT; have KS := hide CS
  clear CT CS
  have B0 := hide ((Below.refl w.heap.size w).alloc (Nat.le_refl _) (.cells #[.bool na, .slice ao l ca, .int .i64 E] 46))
  have X0 := hide (Box3.new w (.bool na) (.slice ao l ca) (.int .i64 E))
  go_enter Tryd.func39, Tryd.ntmps39
  go_wp2_with fail
  refine (unhide KT _ (unhide B0)).mono ?_
  rintro e w1 ⟨rfl, hb1⟩
  have x1 := (unhide X0).all hb1
  have B1 := hide ((unhide B0).trans (hb1.mono (unhide B0).size))
  have X1 := hide x1
  try clear y0 y1 y2
  have y0 := x1.c0; have y1 := x1.c1; have y2 := x1.c2
  clear hb1 x1 B0 X0
  go_wp2_with (go_at_call 66; refine (unhide KS _).mono ?_; rintro e w9 ⟨rfl, rfl⟩)
  exact bodyPost_ret (v := .tuple #[.int .u64 S, .int .u8 3]) (by simp [results, Tryd.results39, go_sem]) rfl ⟨rfl, unhide B1⟩

set_option maxHeartbeats 4000000 in
theorem rround_l (na : Bool) (ao : Option Addr) (ca l S : Nat) (E t : Int) (w : World) (h0 : 0 < l) (g1 : decide (t < -1080) = false) (g2 : decide ((1030 : Int) < t) = true)
    (CT : ∀ w', Below w.heap.size w w' → Calls Tryd.prog 49 #[.agg #[.bool na, .slice ao l ca, .int .i64 E]] w' fun r w'' => r = .returned (.int .i64 t) ∧ Below w'.heap.size w' w'')
    (CS : ∀ w', Calls Tryd.prog 66 #[.int .u64 9218868437227405312, .bool na] w' fun r w'' => r = .returned (.int .u64 S) ∧ w' = w'') :
    Calls Tryd.prog 39 #[.agg #[.bool na, .slice ao l ca, .int .i64 E]] w fun r w' => r = .returned (.tuple #[.int .u64 S, .int .u8 5]) ∧ Below w.heap.size w w' := by
  have h0' : decide (0 < l) = true := decide_eq_true h0
  have hz : ((l : Int) == 0) = false := by simp; omega
  have KT := hide CT; have KS := hide CS
  clear CT CS
  have B0 := hide ((Below.refl w.heap.size w).alloc (Nat.le_refl _) (.cells #[.bool na, .slice ao l ca, .int .i64 E] 46))
  have X0 := hide (Box3.new w (.bool na) (.slice ao l ca) (.int .i64 E))
  go_enter Tryd.func39, Tryd.ntmps39
  go_wp2_with fail
  refine (unhide KT _ (unhide B0)).mono ?_
  rintro e w1 ⟨rfl, hb1⟩
  have x1 := (unhide X0).all hb1
  have B1 := hide ((unhide B0).trans (hb1.mono (unhide B0).size))
  have X1 := hide x1
  try clear y0 y1 y2
  have y0 := x1.c0; have y1 := x1.c1; have y2 := x1.c2
  clear hb1 x1 B0 X0
  go_wp2_with fail
  refine (unhide KT _ (unhide B1)).mono ?_
  rintro e w2 ⟨rfl, hb2⟩
  have x2 := (unhide X1).all hb2
  have B2 := hide ((unhide B1).trans (hb2.mono (unhide B1).size))
  have X2 := hide x2
  try clear y0 y1 y2
  have y0 := x2.c0; have y1 := x2.c1; have y2 := x2.c2
  clear hb2 x2 B1 X1
  go_wp2_with (go_at_call 66; refine (unhide KS _).mono ?_; rintro e w9 ⟨rfl, rfl⟩)
  exact bodyPost_ret (v := .tuple #[.int .u64 S, .int .u8 5]) (by simp [results, Tryd.results39, go_sem]) rfl ⟨rfl, unhide B2⟩

set_option maxHeartbeats 8000000 in
theorem rround_n (na ex : Bool) (ao : Option Addr) (ca l S m R : Nat) (E t last V fl : Int) (w : World) (h0 : 0 < l) (g1 : decide (t < -1080) = false) (g2 : decide ((1030 : Int) < t) = false) (ht : -1080 ≤ t ∧ t ≤ 1030) (hl : max (t - 53) (-1074) = last) (hl2 : -1074 ≤ last ∧ last ≤ 980)
    (CT : ∀ w', Below w.heap.size w w' → Calls Tryd.prog 49 #[.agg #[.bool na, .slice ao l ca, .int .i64 E]] w' fun r w'' => r = .returned (.int .i64 t) ∧ Below w'.heap.size w' w'')
    (CA : ∀ w', Below w.heap.size w w' → Calls Tryd.prog 68 #[.agg #[.bool na, .slice ao l ca, .int .i64 E]] w' fun r w'' => ∃ v, r = .returned v ∧ IsDy w'' v V E ∧ Below w'.heap.size w' w'')
    (CN : ∀ w' v, IsDy w' v V E → Calls Tryd.prog 67 #[v, .int .i64 last] w' fun r w'' => r = .returned (.tuple #[.int .u64 m, .bool ex]) ∧ Below w'.heap.size w' w'')
    (CB : ∀ w', Calls Tryd.prog 69 #[.int .u64 m, .int .i64 last] w' fun r w'' => r = .returned (.int .u64 R) ∧ w' = w'')
    (CF : ∀ w', Calls Tryd.prog 70 #[.int .u64 R, .bool ex] w' fun r w'' => r = .returned (.int .u8 fl) ∧ w' = w'')
    (CS : ∀ w', Calls Tryd.prog 66 #[.int .u64 R, .bool na] w' fun r w'' => r = .returned (.int .u64 S) ∧ w' = w'')
    (hm : ((m : Int) == 9007199254740992) = false) :
    Calls Tryd.prog 39 #[.agg #[.bool na, .slice ao l ca, .int .i64 E]] w fun r w' => r = .returned (.tuple #[.int .u64 S, .int .u8 fl]) ∧ Below w.heap.size w w' := by
  have hmx := fun W ts t' => max2_run Tryd.prog W ts t' (t - 53) (-1074)
  rw [hl] at hmx
  have w1 : IntKind.i64.wrap (t - 53) = t - 53 := by simp only [IntKind.wrap_i64]; omega
  have w2 : IntKind.i64.wrap (last + 1) = last + 1 := by simp only [IntKind.wrap_i64]; omega
  have KA := hide CA; have KN := hide CN; have KB := hide CB; have KF := hide CF
  clear CA CN CB CF hl ht
  have h0' : decide (0 < l) = true := decide_eq_true h0
  have hz : ((l : Int) == 0) = false := by simp; omega
  have KT := hide CT; have KS := hide CS
  clear CT CS
  have B0 := hide ((Below.refl w.heap.size w).alloc (Nat.le_refl _) (.cells #[.bool na, .slice ao l ca, .int .i64 E] 46))
  have X0 := hide (Box3.new w (.bool na) (.slice ao l ca) (.int .i64 E))
  go_enter Tryd.func39, Tryd.ntmps39
  go_wp2_with fail
  refine (unhide KT _ (unhide B0)).mono ?_
  rintro e w1 ⟨rfl, hb1⟩
  have x1 := (unhide X0).all hb1
  have B1 := hide ((unhide B0).trans (hb1.mono (unhide B0).size))
  have X1 := hide x1
  try clear y0 y1 y2
  have y0 := x1.c0; have y1 := x1.c1; have y2 := x1.c2
  clear hb1 x1 B0 X0
  go_wp2_with fail
  refine (unhide KT _ (unhide B1)).mono ?_
  rintro e w2 ⟨rfl, hb2⟩
  have x2 := (unhide X1).all hb2
  have B2 := hide ((unhide B1).trans (hb2.mono (unhide B1).size))
  have X2 := hide x2
  try clear y0 y1 y2
  have y0 := x2.c0; have y1 := x2.c1; have y2 := x2.c2
  clear hb2 x2 B1 X1
  go_wp2_with fail
  refine (unhide KT _ (unhide B2)).mono ?_
  rintro e w3 ⟨rfl, hb3⟩
  have x3 := (unhide X2).all hb3
  have B3 := hide ((unhide B2).trans (hb3.mono (unhide B2).size))
  have X3 := hide x3
  try clear y0 y1 y2
  have y0 := x3.c0; have y1 := x3.c1; have y2 := x3.c2
  clear hb3 x3 B2 X2
  go_wp2_with fail
  refine (unhide KA _ (unhide B3)).mono ?_
  rintro e w4 ⟨v, rfl, hv, hb4⟩
  have x4 := (unhide X3).all hb4
  have B4 := hide ((unhide B3).trans (hb4.mono (unhide B3).size))
  have X4 := hide x4
  have HV := hide hv
  clear hb4 x4 B3 X3 y0 y1 y2 hv KA KT
  go_wp2_with fail
  refine (unhide KN _ _ (unhide HV)).mono ?_
  rintro e w5 ⟨rfl, hb5⟩
  have x5 := (unhide X4).all hb5
  have B5 := hide ((unhide B4).trans (hb5.mono (unhide B4).size))
  have y0 := x5.c0; have y1 := x5.c1; have y2 := x5.c2
  clear hb5 x5 B4 X4 HV KN
  go_wp2_with (first | (go_at_call 69; refine (unhide KB _).mono ?_; rintro e w6 ⟨rfl, rfl⟩) | (go_at_call 66; refine (unhide KS _).mono ?_; rintro e w9 ⟨rfl, rfl⟩) | (go_at_call 70; refine (unhide KF _).mono ?_; rintro e w9 ⟨rfl, rfl⟩))
  exact bodyPost_ret (v := .tuple #[.int .u64 S, .int .u8 fl]) (by simp [results, Tryd.results39, go_sem]) rfl ⟨rfl, unhide B5⟩

set_option maxHeartbeats 8000000 in
theorem rround_c (na ex : Bool) (ao : Option Addr) (ca l S m R : Nat) (E t last V fl : Int) (w : World) (h0 : 0 < l) (g1 : decide (t < -1080) = false) (g2 : decide ((1030 : Int) < t) = false) (ht : -1080 ≤ t ∧ t ≤ 1030) (hl : max (t - 53) (-1074) = last) (hl2 : -1074 ≤ last ∧ last ≤ 980)
    (CT : ∀ w', Below w.heap.size w w' → Calls Tryd.prog 49 #[.agg #[.bool na, .slice ao l ca, .int .i64 E]] w' fun r w'' => r = .returned (.int .i64 t) ∧ Below w'.heap.size w' w'')
    (CA : ∀ w', Below w.heap.size w w' → Calls Tryd.prog 68 #[.agg #[.bool na, .slice ao l ca, .int .i64 E]] w' fun r w'' => ∃ v, r = .returned v ∧ IsDy w'' v V E ∧ Below w'.heap.size w' w'')
    (CN : ∀ w' v, IsDy w' v V E → Calls Tryd.prog 67 #[v, .int .i64 last] w' fun r w'' => r = .returned (.tuple #[.int .u64 m, .bool ex]) ∧ Below w'.heap.size w' w'')
    (CB : ∀ w', Calls Tryd.prog 69 #[.int .u64 4503599627370496, .int .i64 (last + 1)] w' fun r w'' => r = .returned (.int .u64 R) ∧ w' = w'')
    (CF : ∀ w', Calls Tryd.prog 70 #[.int .u64 R, .bool ex] w' fun r w'' => r = .returned (.int .u8 fl) ∧ w' = w'')
    (CS : ∀ w', Calls Tryd.prog 66 #[.int .u64 R, .bool na] w' fun r w'' => r = .returned (.int .u64 S) ∧ w' = w'')
    (hm : ((m : Int) == 9007199254740992) = true) :
    Calls Tryd.prog 39 #[.agg #[.bool na, .slice ao l ca, .int .i64 E]] w fun r w' => r = .returned (.tuple #[.int .u64 S, .int .u8 fl]) ∧ Below w.heap.size w w' := by
  have hmx := fun W ts t' => max2_run Tryd.prog W ts t' (t - 53) (-1074)
  rw [hl] at hmx
  have w1 : IntKind.i64.wrap (t - 53) = t - 53 := by simp only [IntKind.wrap_i64]; omega
  have w2 : IntKind.i64.wrap (last + 1) = last + 1 := by simp only [IntKind.wrap_i64]; omega
  have KA := hide CA; have KN := hide CN; have KB := hide CB; have KF := hide CF
  clear CA CN CB CF hl ht
  have h0' : decide (0 < l) = true := decide_eq_true h0
  have hz : ((l : Int) == 0) = false := by simp; omega
  have KT := hide CT; have KS := hide CS
  clear CT CS
  have B0 := hide ((Below.refl w.heap.size w).alloc (Nat.le_refl _) (.cells #[.bool na, .slice ao l ca, .int .i64 E] 46))
  have X0 := hide (Box3.new w (.bool na) (.slice ao l ca) (.int .i64 E))
  go_enter Tryd.func39, Tryd.ntmps39
  go_wp2_with fail
  refine (unhide KT _ (unhide B0)).mono ?_
  rintro e w1 ⟨rfl, hb1⟩
  have x1 := (unhide X0).all hb1
  have B1 := hide ((unhide B0).trans (hb1.mono (unhide B0).size))
  have X1 := hide x1
  try clear y0 y1 y2
  have y0 := x1.c0; have y1 := x1.c1; have y2 := x1.c2
  clear hb1 x1 B0 X0
  go_wp2_with fail
  refine (unhide KT _ (unhide B1)).mono ?_
  rintro e w2 ⟨rfl, hb2⟩
  have x2 := (unhide X1).all hb2
  have B2 := hide ((unhide B1).trans (hb2.mono (unhide B1).size))
  have X2 := hide x2
  try clear y0 y1 y2
  have y0 := x2.c0; have y1 := x2.c1; have y2 := x2.c2
  clear hb2 x2 B1 X1
  go_wp2_with fail
  refine (unhide KT _ (unhide B2)).mono ?_
  rintro e w3 ⟨rfl, hb3⟩
  have x3 := (unhide X2).all hb3
  have B3 := hide ((unhide B2).trans (hb3.mono (unhide B2).size))
  have X3 := hide x3
  try clear y0 y1 y2
  have y0 := x3.c0; have y1 := x3.c1; have y2 := x3.c2
  clear hb3 x3 B2 X2
  go_wp2_with fail
  refine (unhide KA _ (unhide B3)).mono ?_
  rintro e w4 ⟨v, rfl, hv, hb4⟩
  have x4 := (unhide X3).all hb4
  have B4 := hide ((unhide B3).trans (hb4.mono (unhide B3).size))
  have X4 := hide x4
  have HV := hide hv
  clear hb4 x4 B3 X3 y0 y1 y2 hv KA KT
  go_wp2_with fail
  refine (unhide KN _ _ (unhide HV)).mono ?_
  rintro e w5 ⟨rfl, hb5⟩
  have x5 := (unhide X4).all hb5
  have B5 := hide ((unhide B4).trans (hb5.mono (unhide B4).size))
  have y0 := x5.c0; have y1 := x5.c1; have y2 := x5.c2
  clear hb5 x5 B4 X4 HV KN
  go_wp2_with (first | (go_at_call 69; refine (unhide KB _).mono ?_; rintro e w6 ⟨rfl, rfl⟩) | (go_at_call 66; refine (unhide KS _).mono ?_; rintro e w9 ⟨rfl, rfl⟩) | (go_at_call 70; refine (unhide KF _).mono ?_; rintro e w9 ⟨rfl, rfl⟩))
  exact bodyPost_ret (v := .tuple #[.int .u64 S, .int .u8 fl]) (by simp [results, Tryd.results39, go_sem]) rfl ⟨rfl, unhide B5⟩

end Go.Proofs.YtgegjhkiiejhlaaDoor

/- Contract of the reference's Round; the law SoftRounds, walked. -/
namespace Go.Proofs.YtgegjhkiiejhlaaDoor
open Go.RowKit

theorem fK_rung (r : Nat) (h : r ≤ 9218868437227405312) : (fK r = 3 ↔ r = 9218868437227405312) ∧ (r ≠ 9218868437227405312 → (fK r = 2 ↔ ¬ r < 4503599627370496)) := by
  have h1 : fP r = r / 4503599627370496 := by unfold fP; omega
  have h2 : fF r = r % 4503599627370496 := rfl
  unfold fK
  rw [h1, h2]
  constructor
  · constructor
    · intro hk
      split at hk
      · omega
      · split at hk
        · split at hk <;> simp at hk
        · simp at hk
    · rintro rfl; decide
  · intro hne
    have h3 : r / 4503599627370496 ≠ 2047 := by omega
    rw [if_neg h3]
    by_cases h4 : r < 4503599627370496
    · rw [if_pos (by omega)]
      constructor
      · intro hk; split at hk <;> simp at hk
      · intro h; exact absurd h4 h
    · rw [if_neg (by omega)]
      exact ⟨fun _ => h4, fun _ => rfl⟩

theorem flags_rflag (V : Nat) (E : Int) (h : V ≠ 0) : (if fK (rnd V E) = 3 then 5 else if decide (lastE V E ≤ E) = true then 0 else if fK (rnd V E) = 2 then 1 else 3) = rflag V E := by
  obtain ⟨k1, k2⟩ := fK_rung (rnd V E) (rnd_le V E)
  by_cases ht : 1024 < (bl V : Int) + E
  · have e1 : rnd V E = 9218868437227405312 := by unfold rnd; rw [if_neg h, if_pos ht]
    have e2 : rflag V E = 5 := by unfold rflag; rw [if_neg h, if_pos ht]
    rw [if_pos (k1.2 e1), e2]
  · have e2 : rflag V E = if lastE V E ≤ E then 0 else if rnd V E = 9218868437227405312 then 5 else if rnd V E < 4503599627370496 then 3 else 1 := by unfold rflag; rw [if_neg h, if_neg ht]
    rw [e2]
    by_cases g1 : lastE V E ≤ E
    · have := rnd_exact_lt V E h (by omega) g1
      rw [if_neg (fun hk => by have := k1.1 hk; omega), if_pos (decide_eq_true g1), if_pos g1]
    · rw [if_neg g1, decide_eq_false g1]
      by_cases g2 : rnd V E = 9218868437227405312
      · rw [if_pos (k1.2 g2), if_pos g2]
      · rw [if_neg (fun hk => g2 (k1.1 hk)), if_neg g2, if_neg (by decide)]
        by_cases g3 : rnd V E < 4503599627370496
        · rw [if_neg (fun hk => (k2 g2).1 hk g3), if_pos g3]
        · rw [if_pos ((k2 g2).2 g3), if_neg g3]

theorem rnd_tiny (V : Nat) (E : Int) (h : V ≠ 0) (ht : (bl V : Int) + E < -1080) : rnd V E = 0 ∧ rflag V E = 3 := by
  obtain ⟨a1, a2, a3⟩ := bl_spec V h
  have hl : lastE V E = -1074 := by unfold lastE; omega
  have h0 : rnd V E = 0 := by
    rw [rnd_fin V E h (by omega)]
    unfold rndM
    rw [hl]
    obtain ⟨k, hk⟩ : ∃ k : Nat, -1074 - E = (k : Int) := ⟨(-1074 - E).toNat, by omega⟩
    rw [show E - -1074 = -(k : Int) by omega, mS_down V k (by omega)]
    have h1 : V < 2 ^ (k - 1) := Nat.lt_of_lt_of_le a3 (pow_le2 (by omega))
    have h2 : 2 ^ k = 2 ^ (k - 1) * 2 := by
      obtain ⟨m, rfl⟩ : ∃ m, k = m + 1 := ⟨k - 1, by omega⟩
      exact Nat.pow_succ 2 m
    have h3 : V < 2 ^ k := by omega
    unfold cutE
    rw [Nat.div_eq_of_lt h3, Nat.mod_eq_of_lt h3, if_neg (by omega)]
    simp
  refine ⟨h0, ?_⟩
  unfold rflag
  rw [if_neg h, if_neg (by omega), if_neg (by omega), h0, if_neg (by decide), if_pos (by decide)]

theorem rround_right (na : Bool) (ao : Option Addr) (ca : Nat) (A : List Nat) (E : Int) (w : World) (hA : LimbsAt w ao ca A) (hr : drB na A E = true) (h60 : A.length ≤ 80) :
    Calls Tryd.prog 39 #[.agg #[.bool na, .slice ao A.length ca, .int .i64 E]] w fun r w' => r = .returned (.tuple #[.int .u64 (wrd na (rnd (val A) E) : Nat), .int .u8 (rflag (val A) E)]) ∧ Below w.heap.size w w' := by
  obtain ⟨d1, d2, d3, d4, d5⟩ := drB_bounds hr
  by_cases h0 : A = []
  · subst h0
    have hna : na = false := by
      have := (right_canon d1).2.2
      cases na
      · rfl
      · exact absurd rfl (this rfl)
    subst hna
    have e1 : rnd (val []) E = 0 := by simp [rnd, val]
    have e2 : rflag (val []) E = 0 := by simp [rflag, val]
    rw [e1, e2, wrd_false]
    exact rround_z false ao ca E w
  · have hv := val_ne d1 h0
    have hl : 0 < A.length := List.length_pos_iff.2 h0
    have hval : val A < 2 ^ (32 * 80) := val_lt_pow A hA.2.1 80 h60
    have hbl : bl (val A) ≤ 32 * 80 := by
      have h1 := bl_spec (val A) hv
      have := pow_lt_of (Nat.lt_of_le_of_lt h1.2.1 hval)
      omega
    have hbl1 := (bl_spec (val A) hv).1
    have ho := drB_val hr h0
    have htop : topR A E = (bl (val A) : Int) + E := by unfold topR; rw [if_neg (by omega), lenL_bl hA.2.1 d1]
    have CT : ∀ w', Below w.heap.size w w' → Calls Tryd.prog 49 #[.agg #[.bool na, .slice ao A.length ca, .int .i64 E]] w' fun r w'' => r = .returned (.int .i64 ((bl (val A) : Int) + E)) ∧ Below w'.heap.size w' w'' := fun w' hb => by
      have := rtop_any na ao ca A E w' (hA.below hb) (by omega) (by omega)
      rwa [htop] at this
    have CA : ∀ w', Below w.heap.size w w' → Calls Tryd.prog 68 #[.agg #[.bool na, .slice ao A.length ca, .int .i64 E]] w' fun r w'' => ∃ v, r = .returned v ∧ IsDy w'' v (val A : Int) E ∧ Below w'.heap.size w' w'' := fun w' hb => rabs_any na ao ca A E w' (hA.below hb) d2
    have hle := rnd_le (val A) E
    have CS : ∀ w', Calls Tryd.prog 66 #[.int .u64 (rnd (val A) E : Nat), .bool na] w' fun r w'' => r = .returned (.int .u64 (wrd na (rnd (val A) E) : Nat)) ∧ w' = w'' := fun w' => signed_any _ na w' (by omega)
    have hfl := flags_rflag (val A) E hv
    have htiny := rnd_tiny (val A) E hv
    have hfin := rnd_fin (val A) E hv
    have hbig : 1024 < (bl (val A) : Int) + E → rnd (val A) E = 9218868437227405312 ∧ rflag (val A) E = 5 := fun ht => by
      unfold rnd rflag
      rw [if_neg hv, if_pos ht, if_neg hv, if_pos ht]
      exact ⟨rfl, rfl⟩
    have hM := rndM_bounds (val A) E hv
    obtain ⟨l1, l2, l3⟩ := lastE_ge (val A) E
    have hmx : max ((bl (val A) : Int) + E - 53) (-1074) = lastE (val A) E := rfl
    generalize hVV : val A = V at *
    by_cases g1 : (bl V : Int) + E < -1080
    · obtain ⟨e1, e2⟩ := htiny g1
      rw [e2]
      rw [e1] at CS ⊢
      exact rround_s na ao ca A.length _ E _ w hl (decide_eq_true g1) CT CS
    · by_cases g2 : 1030 < (bl V : Int) + E
      · obtain ⟨e1, e2⟩ := hbig (by omega)
        rw [e2]
        rw [e1] at CS ⊢
        exact rround_l na ao ca A.length _ E _ w hl (decide_eq_false g1) (decide_eq_true g2) CT CS
      · have hm0 : rndM V E = mS V (E - lastE V E) := rfl
        have CN : ∀ w' v, IsDy w' v (V : Int) E → Calls Tryd.prog 67 #[v, .int .i64 (lastE V E)] w' fun r w'' => r = .returned (.tuple #[.int .u64 (rndM V E : Nat), .bool (decide (lastE V E ≤ E))]) ∧ Below w'.heap.size w' w'' := fun w' v h =>
          nearest_dy (lastE V E) h ho (B := 32 * 80) (by decide) hval (by omega) (by omega) (by rw [← hm0]; exact hM.1)
        have CF : ∀ w', Calls Tryd.prog 70 #[.int .u64 (rnd V E : Nat), .bool (decide (lastE V E ≤ E))] w' fun r w'' => r = .returned (.int .u8 (rflag V E)) ∧ w' = w'' := fun w' => by
          have := flags_any (rnd V E) (decide (lastE V E ≤ E)) w' (by omega)
          rw [hfl] at this
          exact this
        generalize rndM V E = m at *
        by_cases g3 : m = 9007199254740992
        · have CB : ∀ w', Calls Tryd.prog 69 #[.int .u64 4503599627370496, .int .i64 (lastE V E + 1)] w' fun r w'' => r = .returned (.int .u64 (rnd V E : Nat)) ∧ w' = w'' := fun w' => by
            by_cases g4 : 971 ≤ lastE V E
            · have hR : rnd V E = 9218868437227405312 := by
                by_cases g5 : 1024 < (bl V : Int) + E
                · exact (hbig g5).1
                · rw [hfin (by omega)]; omega
              rw [hR]
              exact bits_inf 4503599627370496 (lastE V E + 1) w' (by decide) (by omega)
            · have hR := hfin (by omega)
              exact bits_mid 4503599627370496 (lastE V E + 1 + 1074).toNat _ (lastE V E + 1) w' (by decide) (by decide) (by omega) (by omega) (by omega)
          exact rround_c na _ ao ca A.length _ m _ E _ (lastE V E) _ _ w hl (decide_eq_false g1) (decide_eq_false g2) (by omega) hmx (by omega) CT CA CN CB CF CS (by rw [g3]; decide)
        · have CB : ∀ w', Calls Tryd.prog 69 #[.int .u64 m, .int .i64 (lastE V E)] w' fun r w'' => r = .returned (.int .u64 (rnd V E : Nat)) ∧ w' = w'' := fun w' => by
            by_cases g4 : m < 4503599627370496
            · have hlow : lastE V E = -1074 := by
                rcases Int.lt_or_le (-1074) (lastE V E) with h | h
                · have := hM.2.1 h; omega
                · omega
              have hR := hfin (by omega)
              rw [hlow] at hR
              have hR' : rnd V E = m := by rw [hR]; simp
              rw [hR']
              exact bits_low m _ w' (by omega)
            · by_cases g5 : 972 ≤ lastE V E
              · have hR := (hbig (by omega)).1
                rw [hR]
                exact bits_inf m (lastE V E) w' (by omega) (by omega)
              · have hR := hfin (by omega)
                exact bits_mid m (lastE V E + 1074).toNat _ (lastE V E) w' (by omega) (by omega) (by omega) (by omega) hR
          exact rround_n na _ ao ca A.length _ m _ E _ (lastE V E) _ _ w hl (decide_eq_false g1) (decide_eq_false g2) (by omega) hmx (by omega) CT CA CN CB CF CS (by simp; omega)

end Go.Proofs.YtgegjhkiiejhlaaDoor

/- The reference's sum at a level, its rounding of a number at hand; its Add and Sub of layer 5. -/
namespace Go.Proofs.YtgegjhkiiejhlaaDoor
open Go.RowKit

theorem raddN {w : World} {v u : Value} {lo : Int} {W : Nat} {z1 z2 : Int} (hv : IsDy w v (oM z1) (oE z1 lo)) (hu : IsDy w u (oM z2) (oE z2 lo)) (h1 : Lvl lo W z1) (h2 : Lvl lo W z2) :
    Calls Tryd.prog 47 #[v, u] w fun r w' => ∃ q, r = .returned q ∧ IsDy w' q (oM (z1 + z2)) (oE (z1 + z2) lo) ∧ Below w.heap.size w w' := by
  obtain ⟨na, ao, ca, A, rfl, a1, a2, a3, a4, a5⟩ := hv.right h1.right.2
  obtain ⟨nb, bo, cb, B, rfl, b1, b2, b3, b4, b5⟩ := hu.right h2.right.2
  have x1 := dRt_in h1.right.1
  have x2 := dRt_in h2.right.1
  have t1 := h1.tops
  have t2 := h2.tops
  by_cases h0 : z1 = 0 ∧ z2 = 0
  · obtain ⟨rfl, rfl⟩ := h0
    rw [oM_zero] at a3 b3
    rw [oE_zero] at *
    have eZ : sumZ 0 0 0 0 = 0 := by decide
    have eU : upE 0 0 (lowE 0 0 0 0) = 0 := upE_ok _ _ _ (by rw [up_zero]; exact TOP_pos) (by decide)
    have := radd_any na nb ao bo ca cb A B 0 0 w a1 b1 a2 b2 (by omega) (by omega) (by rw [a3, b3]; exact eU) (by rw [a3, b3]; exact eU)
    rw [a3, b3, eZ, oM_zero, oE_zero] at this
    simpa [oM_zero, oE_zero] using this
  · obtain ⟨k, e1, e2, e3, e4, e5⟩ := low_level h1 h2 h0
    have g1 : upE (oM z1) (oE z1 lo) (lo + k) = 0 := upE_ok _ _ _ (Nat.lt_of_le_of_lt (le_scaled e2) t1) e4
    have g2 : upE (oM z2) (oE z2 lo) (lo + k) = 0 := upE_ok _ _ _ (Nat.lt_of_le_of_lt (le_scaled e3) t2) e5
    have := radd_any na nb ao bo ca cb A B _ _ w a1 b1 a2 b2 x1 x2 (by rw [a3, b3, e1]; exact g1) (by rw [a3, b3, e1]; exact g2)
    rw [a3, b3, e1] at this
    have hZ : sumZ (oM z1) (oE z1 lo) (oM z2) (oE z2 lo) * 2 ^ k = z1 + z2 := by
      unfold sumZ
      rw [e1, Int.add_mul, e2, e3]
    generalize sumZ (oM z1) (oE z1 lo) (oM z2) (oE z2 lo) = Z at *
    have hs := oM_scale Z k lo
    rw [hZ] at hs
    rw [hs.1, hs.2]
    exact this

theorem rround_dy {w : World} {v : Value} {m e : Int} (h : IsDy w v m e) (hm : m.natAbs < 4294967296 ^ 80) (hr : dRt m e = true) :
    Calls Tryd.prog 39 #[v] w fun r w' => r = .returned (.tuple #[.int .u64 (wrd (decide (m < 0)) (rnd m.natAbs e) : Nat), .int .u8 (rflag m.natAbs e)]) ∧ Below w.heap.size w w' := by
  have hT : m.natAbs < TOP := Nat.lt_of_lt_of_le hm (Nat.pow_le_pow_right (by decide) (by decide))
  obtain ⟨n, a, c, L, rfl, h1, h2, h3, h4, h5⟩ := h.right hT
  have hn : n = decide (m < 0) := by
    obtain ⟨n', a', c', L', e1, _, _, e4, _⟩ := h.parts
    simp only [Value.agg.injEq, Array.mk.injEq, List.cons.injEq, Value.bool.injEq] at e1
    rw [e1.1]; exact e4
  have hv : val L = m.natAbs := by rw [← h3, natAbs_sval]
  have hl : L.length ≤ 80 := (length_le_iff L h1.2.1 (right_canon h2).2.1 80).2 (by rw [hv]; exact hm)
  have := rround_right n a c L e w h1 (h5.trans hr) hl
  rw [hv, hn] at this
  rw [hn]
  exact this

end Go.Proofs.YtgegjhkiiejhlaaDoor

/- Contracts of package times: signed, mulFinite, Mul, Square. -/
namespace Go.Proofs.YtgegjhkiiejhlaaDoor
open Go.RowKit

theorem p4196 : (2 : Nat) ^ 2098 * 2 ^ 2098 = 2 ^ 4196 := by decide +kernel
theorem mZ_Lvl (a b : Nat) (fa : fFin a = true) (fb : fFin b = true) : Lvl (-1074 + -1074) 4196 (fZ a * fZ b) := by
  have h1 := fZ_lt a fa
  have h2 := fZ_lt b fb
  refine ⟨?_, by decide, by decide, by decide⟩
  have h3 := p4196
  have h4 := Nat.two_pow_pos 2098
  rw [Int.natAbs_mul]
  generalize (2 : Nat) ^ 4196 = P at *
  generalize (2 : Nat) ^ 2098 = Q at *
  rw [← h3]
  exact Nat.mul_lt_mul_of_lt_of_le h1 (Nat.le_of_lt h2) h4

theorem fZ_neg (b : Nat) (h0 : fK b ≠ 0) : fZ b ≠ 0 ∧ decide (fZ b < 0) = fS b := by
  have hr : rv (fR b) ≠ 0 := fun e => h0 ((fK_zero b).2 ((rv_eq0 _).1 e))
  unfold fZ pv
  cases fS b
  · simp only [Bool.false_eq_true, if_false]
    exact ⟨by omega, decide_eq_false (by omega)⟩
  · simp only [if_true]
    exact ⟨by omega, decide_eq_true (by omega)⟩
theorem mZ_neg (a b : Nat) (a0 : fK a ≠ 0) (b0 : fK b ≠ 0) : fZ a * fZ b ≠ 0 ∧ decide (fZ a * fZ b < 0) = (fS a ^^ fS b) := by
  obtain ⟨h1, h2⟩ := fZ_neg a a0
  obtain ⟨h3, h4⟩ := fZ_neg b b0
  refine ⟨Int.mul_ne_zero h1 h3, ?_⟩
  rw [← h2, ← h4]
  generalize fZ a = x at *
  generalize fZ b = y at *
  rcases Int.lt_or_gt_of_ne h1 with hx | hx <;> rcases Int.lt_or_gt_of_ne h3 with hy | hy
  · have := Int.mul_pos_of_neg_of_neg hx hy
    rw [decide_eq_true hx, decide_eq_true hy, decide_eq_false (by omega)]; rfl
  · have := Int.mul_neg_of_neg_of_pos hx hy
    rw [decide_eq_true hx, decide_eq_false (show ¬ y < 0 by omega), decide_eq_true this]; rfl
  · have := Int.mul_neg_of_pos_of_neg hx hy
    rw [decide_eq_false (show ¬ x < 0 by omega), decide_eq_true hy, decide_eq_true this]; rfl
  · have := Int.mul_pos hx hy
    rw [decide_eq_false (show ¬ x < 0 by omega), decide_eq_false (show ¬ y < 0 by omega), decide_eq_false (show ¬ x * y < 0 by omega)]; rfl

end Go.Proofs.YtgegjhkiiejhlaaDoor

