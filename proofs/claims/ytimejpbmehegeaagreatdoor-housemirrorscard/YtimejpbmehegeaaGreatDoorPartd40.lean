/- Part 40 of the texts. -/
import Derived.Test.YtimejpbmehegeaaGreatDoorPartd30
import Derived.Test.YtimejpbmehegeaaGreatDoorPartd28
import Derived.Test.YtimejpbmehegeaaGreatDoorPartd27
import Derived.Test.YtimejpbmehegeaaGreatDoorPartd33
import Derived.Test.YtimejpbmehegeaaGreatDoorPartd31
import Derived.Test.YtimejpbmehegeaaGreatDoorPartd32
import Derived.Test.YtimejpbmehegeaaGreatDoorPartd39
import Derived.Test.YtimejpbmehegeaaGreatDoorPartd38
import Derived.Test.YtimejpbmehegeaaGreatDoorPartd08
import Derived.Test.YtimejpbmehegeaaGreatDoorPartd37
import Derived.Deep.CutRange
/- Package plain: operations without their flags; package givens: place, rowOf, columnOf, check, turnedPair. -/
namespace Go.Proofs.YtimejpbmehegeaaGreatDoor
open Go.RowKit
attribute [local go_sem ↓] Go.wp_at_zero Go.wp_at_succ

set_option maxRecDepth 20000 in
set_option maxHeartbeats 2000000 in
theorem psub_any (a b : Nat) (w : World) (ha : a < 18446744073709551616) (hb : b < 18446744073709551616) (hT : Tab w) :
    Calls Tryz.prog 45 #[.int .u64 a, .int .u64 b] w fun r w' => r = .returned (.int .u64 (aV a (fN b) : Nat)) ∧ Below w.heap.size w w' := by
  have K := hide (ssub_any a b w ha hb hT)
  clear ha hb hT
  generalize aV a (fN b) = o at *
  generalize aF a (fN b) = f at *
  go_enter Tryz.func45, Tryz.ntmps45
  go_wp2_with fail
  refine Calls.mono (unhide K) ?_
  rintro e w1 ⟨rfl, hb1⟩
  clear K
  go_wp2
  go_ret
  exact ⟨rfl, hb1⟩

set_option maxRecDepth 20000 in
set_option maxHeartbeats 2000000 in
theorem pdiv_any (a b : Nat) (w : World) (ha : a < 18446744073709551616) (hb : b < 18446744073709551616) (hT : Tab w) :
    Calls Tryz.prog 47 #[.int .u64 a, .int .u64 b] w fun r w' => r = .returned (.int .u64 (dV a b : Nat)) ∧ Below w.heap.size w w' := by
  have K := hide (tdiv_any a b w ha hb hT)
  clear ha hb hT
  generalize dV a b = o at *
  generalize dF a b = f at *
  go_enter Tryz.func47, Tryz.ntmps47
  go_wp2_with fail
  refine Calls.mono (unhide K) ?_
  rintro e w1 ⟨rfl, hb1⟩
  clear K
  go_wp2
  go_ret
  exact ⟨rfl, hb1⟩

end Go.Proofs.YtimejpbmehegeaaGreatDoor

/- Package house: belowZero, betaOf, oneAnd, the functions of one number. -/
namespace Go.Proofs.YtimejpbmehegeaaGreatDoor
open Go.RowKit
attribute [local go_sem ↓] Go.wp_at_zero Go.wp_at_succ

set_option maxRecDepth 20000 in
set_option maxHeartbeats 4000000 in
theorem hbelow_any (ao : Option Addr) (c : Nat) (I : List Int) (w : World) (hI : BitsAt w ao c I) (hn : I.length ≤ 64) :
    Calls Tryz.prog 86 #[.slice ao I.length c] w fun e w' => e = .returned (.bool (ldS (toN I))) ∧ Below w.heap.size w w' := by
  have HI := hide hI
  obtain ⟨L, hL⟩ : ∃ L : Nat → Bool, L = fun j => ldS ((toN I).drop j) := ⟨_, rfl⟩
  have L0 : ldS (toN I) = L 0 := by rw [hL]; rfl
  have LE : ∀ j, I.length ≤ j → L j = false := fun j hj => by
    rw [hL]
    show ldS ((toN I).drop j) = false
    rw [List.drop_eq_nil_of_le (by rw [toN_len]; exact hj)]
    rfl
  have LS : ∀ j, j < I.length → L j = if fK (atB I j) = 0 then L (j + 1) else fS (atB I j) := fun j hj => by
    rw [hL]
    show ldS ((toN I).drop j) = _
    rw [ldS_drop (toN I) (by rw [toN_len]; exact hj), toN_getD I j hj]
  rw [L0]
  obtain ⟨v, hv⟩ : ∃ v, L 0 = v := ⟨_, rfl⟩
  have HE := hide LE; have HS := hide LS
  obtain ⟨n, hnn⟩ : ∃ n, I.length = n := ⟨_, rfl⟩
  rw [hnn] at hn HE HS ⊢
  rw [hv]
  have HN := hide hnn
  have HV := hide hv
  clear hI hL L0 LE LS hnn hv
  go_enter Tryz.func86, Tryz.ntmps86
  go_wp2_with fail
  go_loopw [7] (fun i wr => ∃ j : Nat, j ≤ n ∧ i = .int .i64 j ∧ Hid (L j = v) ∧ Hid (Below w.heap.size w wr)) (fun i _ => n - (intOf i).toNat)
  case atStart => exact ⟨0, Nat.zero_le _, rfl, HV, Below.refl _ _⟩
  case round =>
    obtain ⟨j, hj, rfl, hL, hB⟩ := hrel
    by_cases hlt : j < n
    · have hjI : (j : Int) < (n : Int) := by omega
      obtain ⟨b, off, hao, hb, hc⟩ := ((unhide HI).below hB.out).ne (by rw [unhide HN]; omega)
      have hck := hide (hc j (by rw [unhide HN]; exact hlt))
      have C1 := hide (fun w' => kind_any (atB I j) w' ((unhide HI).lt j))
      have C2 := hide (fun w' => ssign_any (atB I j) w' ((unhide HI).lt j))
      have HJ := hide (unhide HS j hlt)
      subst hao
      clear hc
      by_cases g0 : fK (atB I j) = 0
      · have R2 := hide (show L (j + 1) = v from by have := unhide HJ; rw [unhide hL, if_pos g0] at this; exact this.symm)
        rw [g0] at C1
        clear HJ g0 C2
        generalize atB I j = x at *
        have hc0 := unhide hck
        go_wp2_with fail
        refine (unhide C1 _).mono ?_
        rintro e w2 ⟨rfl, hb2⟩
        have B2 : Hid (Below w.heap.size w w2) := hB.out.trans (hb2.mono hB.out.size)
        clear C1 hb2 hck hc0 hB
        go_wp2_with fail
        go_round
        case rel => exact ⟨j + 1, by omega, by go_num, R2, B2⟩
        case measure => simp [intOf]; omega
      · have R2 : fS (atB I j) = v := by have := unhide HJ; rw [unhide hL, if_neg g0] at this; exact this.symm
        have g0' : (fK (atB I j) == 0) = false := by rw [beq_eq_false_iff_ne]; exact g0
        rw [R2] at C2
        clear HJ R2
        generalize fK (atB I j) = kd at *
        generalize atB I j = x at *
        have hc0 := unhide hck
        go_wp2_with fail
        refine (unhide C1 _).mono ?_
        rintro e w2 ⟨rfl, hb2⟩
        have B2 : Hid (Below w.heap.size w w2) := hB.out.trans (hb2.mono hB.out.size)
        clear C1 hb2 hck hc0 hB
        go_wp2_with fail
        refine (unhide C2 _).mono ?_
        rintro e w3 ⟨rfl, hb2⟩
        have B3 : Hid (Below w.heap.size w w3) := B2.out.trans (hb2.mono B2.out.size)
        clear C2 hb2 B2
        go_wp2_with fail
        exact bodyPost_ret (v := .bool v) (by simp [results, Tryz.results86, go_sem]) rfl ⟨rfl, B3.out⟩
    · have hv2 : v = false := by have := unhide HE j (by omega); rw [unhide hL] at this; exact this
      subst hv2
      have hjI : (n : Int) ≤ (j : Int) := by omega
      go_wp2_with fail
      exact bodyPost_ret (v := .bool false) (by simp [results, Tryz.results86, go_sem]) rfl ⟨rfl, hB.out⟩

set_option maxRecDepth 20000 in
set_option maxHeartbeats 4000000 in
theorem hbeta_of (ao : Option Addr) (n c m o : Nat) (s : Bool) (w : World) (h : (s = true ∧ o = m) ∨ (s = false ∧ o = fN m)) (hm : m < 18446744073709551616)
    (C1 : Calls Tryz.prog 85 #[.slice ao n c] w fun e w'' => e = .returned (.tuple #[.int .u64 (m : Nat), .int .i64 0]) ∧ Below w.heap.size w w'')
    (C2 : ∀ w', Below w.heap.size w w' → Calls Tryz.prog 86 #[.slice ao n c] w' fun e w'' => e = .returned (.bool s) ∧ Below w'.heap.size w' w'') :
    Calls Tryz.prog 44 #[.slice ao n c] w fun e w' => e = .returned (.int .u64 (o : Nat)) ∧ Below w.heap.size w w' := by
  have K1 := hide C1; have K2 := hide C2
  have K3 := hide (fun w' => sminus_any m w' hm)
  clear C1 C2 hm
  rcases h with ⟨rfl, rfl⟩ | ⟨rfl, rfl⟩
  · clear K3
    go_enter Tryz.func44, Tryz.ntmps44
    go_wp2_with fail
    refine Calls.mono (unhide K1) ?_
    rintro e w1 ⟨rfl, hb1⟩
    have B1 := hide hb1
    clear K1 hb1
    go_wp2_with fail
    refine (unhide K2 _ (unhide B1)).mono ?_
    rintro e w2 ⟨rfl, hb2⟩
    have B2 := hide ((unhide B1).trans (hb2.mono (unhide B1).size))
    clear K2 hb2 B1
    go_wp2
    go_ret
    exact ⟨rfl, unhide B2⟩
  · generalize fN m = o at *
    go_enter Tryz.func44, Tryz.ntmps44
    go_wp2_with fail
    refine Calls.mono (unhide K1) ?_
    rintro e w1 ⟨rfl, hb1⟩
    have B1 := hide hb1
    clear K1 hb1
    go_wp2_with fail
    refine (unhide K2 _ (unhide B1)).mono ?_
    rintro e w2 ⟨rfl, hb2⟩
    have B2 := hide ((unhide B1).trans (hb2.mono (unhide B1).size))
    clear K2 hb2 B1
    go_wp2_with fail
    refine (unhide K3 _).mono ?_
    rintro e w3 ⟨rfl, rfl⟩
    clear K3
    go_wp2
    go_ret
    exact ⟨rfl, unhide B2⟩

theorem hbeta_any (ao : Option Addr) (c : Nat) (I : List Int) (w : World) (hI : BitsAt w ao c I) (hn : I.length ≤ 64) (hT : Tab w) :
    Calls Tryz.prog 44 #[.slice ao I.length c] w fun e w' => e = .returned (.int .u64 ((if ldS (toN I) = true then nrV (toN I) else fN (nrV (toN I)) : Nat) : Nat)) ∧ Below w.heap.size w w' := by
  have C1 := vNorm_ok ao c I w hI hn hT
  rw [nmV_nrV] at C1
  refine hbeta_of ao I.length c (nrV (toN I)) _ (ldS (toN I)) w ?_ (nrV_lt _) C1 (fun w' hb => hbelow_any ao c I w' (hI.below hb) hn)
  cases ldS (toN I)
  · exact .inr ⟨rfl, if_neg (by decide)⟩
  · exact .inl ⟨rfl, if_pos rfl⟩

set_option maxRecDepth 20000 in
set_option maxHeartbeats 2000000 in
theorem hmake1_any (x : Nat) (w : World) :
    Calls Tryz.prog 43 #[.int .u64 x] w fun e w' => e = .returned (.int .u64 (0 : Nat)) ∧ Below w.heap.size w w' := by
  go_enter Tryz.func43, Tryz.ntmps43
  go_wp2
  go_ret
  exact ⟨rfl, Below.refl _ _⟩

set_option maxRecDepth 20000 in
set_option maxHeartbeats 2000000 in
theorem hmake2_any (x d g : Nat) (w : World) (hx : x < 18446744073709551616) (hd : d < 18446744073709551616) (hg : w.cell? ⟨g, 0, none⟩ = some (.int .u64 (d : Nat))) (hT : Tab w) :
    Calls Tryz.prog 46 #[.int .u64 x, .pointer (some ⟨g, 0, none⟩)] w fun e w' => e = .returned (.int .u64 (dV x d : Nat)) ∧ Below w.heap.size w w' := by
  have K := hide (pdiv_any x d w hx hd hT)
  generalize dV x d = o at *
  clear hx hd hT
  go_enter Tryz.func46, Tryz.ntmps46
  go_wp2_with fail
  refine Calls.mono (unhide K) ?_
  rintro e w1 ⟨rfl, hb1⟩
  clear K
  go_wp2
  go_ret
  exact ⟨rfl, hb1⟩

/-- One, and then k numbers. -/
def oaL (f : Nat → Nat) (k : Nat) : List Nat := 4607182418800017408 :: fsL f k
theorem oaL_len (f : Nat → Nat) (k : Nat) : (oaL f k).length = k + 1 := by
  show (fsL f k).length + 1 = _
  rw [fsL_len]
theorem oaL_succ (f : Nat → Nat) (k : Nat) : oaL f (k + 1) = oaL f k ++ [f k] := by
  show 4607182418800017408 :: fsL f (k + 1) = (4607182418800017408 :: fsL f k) ++ [f k]
  rw [fsL_succ]
  rfl

set_option maxRecDepth 20000 in
set_option maxHeartbeats 4000000 in
theorem oneAnd_any (fn : Nat) (caps : Array Value) (ao : Option Addr) (c : Nat) (J : List Int) (f : Nat → Nat) (w : World)
    (hcf : ∀ args w, (callFunc fn args).run Tryz.prog w = .ok (.enter fn args) w) (hJ : BitsAt w ao c J) (hn : J.length ≤ 64) (hf : ∀ k, k < J.length → f k < 18446744073709551616)
    (hstep : ∀ w' k, Below w.heap.size w w' → k < J.length → Calls Tryz.prog fn (#[.int .u64 (atB J k : Nat)] ++ caps) w' fun e w'' => e = .returned (.int .u64 (f k : Nat)) ∧ Below w'.heap.size w' w'') :
    Calls Tryz.prog 42 #[.slice ao J.length c, .func (.func fn) #[] caps] w fun e w' => ∃ bo d, e = .returned (.slice bo (J.length + 1 : Nat) d) ∧ NewB w.heap.size bo (mxL (oaL f J.length)) ∧ BitsAt w' bo d (mxL (oaL f J.length)) ∧ Below w.heap.size w w' := by
  obtain ⟨i0, hi0, hz0, hz1, hz2⟩ := info_parts infoBits
  have HS := hide hstep; have HF := hide hf; have HJ := hide hJ
  obtain ⟨n, hnn⟩ : ∃ n, J.length = n := ⟨_, rfl⟩
  rw [hnn] at hn HS HF ⊢
  have HN := hide hnn
  obtain ⟨m, hm⟩ : ∃ m, n + 1 = m := ⟨_, rfl⟩
  have hmI : (1 : Int) + (n : Int) = (m : Int) := by omega
  obtain ⟨w1, hmk, own1, gr1⟩ := run_make_own (P := Tryz.prog) w w.heap.size 22 24 i0 (.int .u64 0) 1 Tryz.underlying22 hi0 hz0 hz1 .i64 .i64 m (by rw [hz2]; omega) (by unfold maxLen; omega) (by simp)
  have B1 : Below w.heap.size w w1 := (Below.refl w.heap.size w).grown gr1 (by simp) (fun g hg => by cases hg)
  have O1 : OwnB w.heap.size w1 (.slice (some ⟨w.heap.size, 0, none⟩) 0 m) [] := ⟨by simpa using own1, by intro x hx; cases hx⟩
  generalize Value.slice (some ⟨w.heap.size, 0, none⟩) 0 m = v1 at hmk O1
  obtain ⟨v2, w2, run2, own2, bel2, _, _⟩ := O1.push 4607182418800017408 (by decide) (by simp) B1.size 22
  have RUN := hide (show (Builtin.append_ #[22, 22] 22 #[v1, .slice (some ⟨w1.heap.size, 0, none⟩) 1 1]).run Tryz.prog (w1.alloc (.cells #[.int .u64 4607182418800017408] 24)) = .ok v2 w2 from run2)
  have O2 := hide (show OwnB w.heap.size w2 v2 (oaL f 0) from own2)
  have B2 := hide (B1.trans bel2)
  clear own1 gr1 O1 B1 run2 own2 bel2 hstep hf hJ hnn
  go_enter Tryz.func42, Tryz.ntmps42
  go_wp2_with (at_builtin; refine wpList_append_ran _ rfl _ _ 22 rfl _ _ _ _ rfl rfl (unhide RUN) ?_; clear RUN)
  clear hmk
  go_loopw [5, 17] (fun v i wr => ∃ k : Nat, k ≤ n ∧ i = .int .i64 k ∧ Hid (OwnB w.heap.size wr v (oaL f k)) ∧ Hid (Below w.heap.size w wr)) (fun _ i _ => n - (intOf i).toNat)
  case atStart => exact ⟨0, Nat.zero_le _, rfl, O2, B2⟩
  case round =>
    clear O2 B2
    obtain ⟨k, hk, rfl, hO, hB⟩ := hrel
    by_cases hlt : k < n
    · have hkI : (k : Int) < (n : Int) := by omega
      obtain ⟨b, off, hao, hb, hc⟩ := ((unhide HJ).below hB.out).ne (by rw [unhide HN]; omega)
      have hck := hc k (by rw [unhide HN]; exact hlt)
      have C := hide (fun w' h => unhide HS w' k h hlt)
      have ho := hide (unhide HF k hlt)
      have eo := hide (show f k = f k from rfl)
      have hlen := hide (show (oaL f k).length ≤ 1000000 from by rw [oaL_len]; omega)
      subst hao
      clear hc
      obtain ⟨o, eo⟩ : ∃ o, f k = o := ⟨_, rfl⟩
      rw [eo] at C ho
      have eV := hide eo
      clear eo
      generalize atB J k = x at *
      go_wp2_with fail
      refine (unhide C _ hB.out).mono ?_
      rintro e w2 ⟨rfl, hb2⟩
      have own2 := (unhide hO).below hb2
      have B2 := hB.out.trans (hb2.mono hB.out.size)
      obtain ⟨v3, w3, run3, own3, bel3, _, _⟩ := own2.push o (unhide ho) (unhide hlen) B2.size 22
      have RUN := hide run3
      have O3 := hide (show OwnB w.heap.size w3 v3 (oaL f (k + 1)) from by
        rw [oaL_succ, unhide eV]; exact own3)
      have B3 := hide (B2.trans bel3)
      clear hb2 C hO hB own2 B2 run3 own3 bel3 ho eV hlen hck
      go_wp2_with (at_builtin; refine wpList_append_ran _ rfl _ _ 22 rfl _ _ _ _ rfl rfl (unhide RUN) ?_; clear RUN)
      go_round
      case rel => exact ⟨k + 1, by omega, by go_num, O3, B3⟩
      case measure => simp [intOf]; omega
    · have hkk : k = n := by omega
      subst hkk
      obtain ⟨b1, d1, e1, q1⟩ := (unhide hO).bits
      rw [oaL_len, hm] at e1
      subst e1
      have HNew := hide (unhide hO).newB
      have Q1 := hide q1
      clear q1 hO
      go_wp2_with fail
      exact bodyPost_ret (v := .slice b1 m d1) (by simp [results, Tryz.results42, go_sem]) rfl ⟨b1, d1, by rw [hm], unhide HNew, unhide Q1, hB.out⟩

end Go.Proofs.YtimejpbmehegeaaGreatDoor

/- The mirror in whole numbers. Ahead of stage 13 (HouseRight, HouseMirrors). -/
namespace Go.Proofs.YtimejpbmehegeaaGreatDoor
/-- A vector as a matrix of one column, mirrored. -/
theorem ap_one_col (S vs : List Nat) (tau : Nat) (hl : vs.length = S.length) : apM S.length 1 S 0 0 vs tau = apV (mV tau (dtV 0 vs S)) vs S := by
  have hc : colL 1 S 0 vs.length 0 = S := by
    rw [hl]
    conv => rhs; rw [list_range S]
    unfold colL elM
    refine List.map_congr_left (fun j _ => ?_)
    rw [Nat.zero_add, Nat.mul_one, Nat.add_zero]
  have hL : (apV (mV tau (dtV 0 vs S)) vs S).length = S.length * 1 := by rw [apV_len _ _ _ hl, hl, Nat.mul_one]
  rw [← mkM_of S.length 1 _ hL]
  unfold apM
  refine mkM_congr (fun p q hp hq => ?_)
  obtain rfl : q = 0 := by omega
  rw [if_pos ⟨Nat.le_refl _, Nat.zero_le _, by rw [Nat.zero_add, hl]; exact hp⟩]
  unfold apL
  rw [hc, Nat.mul_one, Nat.add_zero, Nat.sub_zero]

theorem own_units (U B D : Rat) (u b s : Int) (p : Rat) (hp : p * p = p2 (-2148)) (hU : U = (u : Rat) * p) (hB : B = (b : Rat) * p) (hD : D = (s : Rat) * p2 (-2148)) (h : 1208925819614629174706176 * ((U - B) * (U - B) + D) ≤ B * B) : ((u - b) * (u - b) + s) * 2 ^ 80 ≤ b * b := by
  have e80 : ((2 ^ 80 : Int) : Rat) = 1208925819614629174706176 := by rw [show (2 ^ 80 : Int) = 1208925819614629174706176 from rfl]; rfl
  rw [← Rat.intCast_le_intCast, Rat.intCast_mul, Rat.intCast_add, Rat.intCast_mul, Rat.intCast_mul, Rat.intCast_sub, e80]
  refine Rat.le_of_mul_le_mul_right (c := p2 (-2148)) ?_ (p2_pos _)
  rw [hU, hB, hD] at h
  rw [← hp] at h ⊢
  generalize (u : Rat) = x at *
  generalize (b : Rat) = y at *
  generalize (s : Rat) = z at *
  have e1 : (x * p - y * p) * (x * p - y * p) + z * (p * p) = ((x - y) * (x - y) + z) * (p * p) := by grind
  have e2 : y * p * (y * p) = y * y * (p * p) := by grind
  rw [e1, e2] at h
  generalize p * p = P at *
  grind

theorem smI_front (f : Nat → Int) (n : Nat) : smI f (n + 1) = f 0 + smI (fun j => f (j + 1)) n := by
  have h := smI_app f 1 n
  rw [Nat.add_comm 1 n] at h
  rw [h]
  show 0 + f 0 + smI (fun i => f (1 + i)) n = _
  rw [Int.zero_add]
  congr 1
  exact smI_congr n (fun j _ => by rw [Nat.add_comm])

theorem el_one_eye : elM 1 (eyM 1) 0 0 = 4607182418800017408 := by
  unfold eyM
  rw [el_mk 1 1 _ (by decide) (by decide)]
  rfl
/-- What is left of a vector's numbers less those that are wanted. -/
theorem rs_col (A B : List Nat) (n : Nat) : rsQ n 1 1 A B (eyM 1) = smI (fun i => (fZ (A.getD i 0) - fZ (B.getD i 0)) * (fZ (A.getD i 0) - fZ (B.getD i 0))) n * (2 ^ 1074 * 2 ^ 1074) := by
  unfold rsQ
  rw [Int.mul_comm, ← smI_mul]
  refine smI_congr n (fun i _ => ?_)
  show 0 + rsZ 1 1 A B (eyM 1) i 0 * rsZ 1 1 A B (eyM 1) i 0 = _
  have e : rsZ 1 1 A B (eyM 1) i 0 = (fZ (A.getD i 0) - fZ (B.getD i 0)) * 2 ^ 1074 := by
    show fZ (elM 1 A i 0) * 2 ^ 1074 - (0 + fZ (elM 1 B i 0) * fZ (elM 1 (eyM 1) 0 0)) = _
    rw [el_one_eye, fZ_one11, Int.zero_add]
    unfold elM
    rw [Nat.mul_one, Nat.add_zero, Int.sub_mul]
  rw [e, Int.zero_add]
  generalize (2 : Int) ^ 1074 = P
  generalize fZ (A.getD i 0) - fZ (B.getD i 0) = d
  rw [Int.mul_assoc, Int.mul_left_comm P d P, Int.mul_left_comm d d, Int.mul_comm d (P * P), Int.mul_left_comm d (P * P) d]

/-- A vector mirrored by its own mirror is beta, and then noughts. -/
theorem own_int (S : List Nat) (h0 : S ≠ []) (hl : S.length ≤ 6) (h : TameV 200 S) :
    rsQ S.length 1 1 (apM S.length 1 S 0 0 (mrV S) (mrT S)) ((List.replicate (S.length * 1) 0).set 0 (mrB S)) (eyM 1) * 2 ^ 80 ≤ fZ (mrB S) * fZ (mrB S) * (2 ^ 1074 * 2 ^ 1074) := by
  rw [ap_one_col S (mrV S) (mrT S) (mrV_len S), rs_col]
  match S, h0 with
  | a :: xs, _ =>
    have ev : mrV (a :: xs) = 4607182418800017408 :: xs.map (fun x => if ngt xs = true then 0 else dV x (hmD a xs)) := rfl
    obtain ⟨u, us, hu⟩ : ∃ u us, u :: us = apV (mV (mrT (a :: xs)) (dtV 0 (mrV (a :: xs)) (a :: xs))) (mrV (a :: xs)) (a :: xs) := by
      have hlen := apV_len (mV (mrT (a :: xs)) (dtV 0 (mrV (a :: xs)) (a :: xs))) (mrV (a :: xs)) (a :: xs) (mrV_len _)
      cases hq : apV (mV (mrT (a :: xs)) (dtV 0 (mrV (a :: xs)) (a :: xs))) (mrV (a :: xs)) (a :: xs) with
      | nil => rw [hq, mrV_len] at hlen; simp at hlen
      | cons u us => exact ⟨u, us, rfl⟩
    have own := own_mirror a xs hl h u us hu
    have hul : us.length = xs.length := by
      have e := congrArg List.length hu
      rw [apV_len _ _ _ (mrV_len _), mrV_len] at e
      simpa using e
    rw [← hu]
    generalize mrB (a :: xs) = b at *
    have k := own_units (fQ u) (fQ b) (sumQ us) (fZ u) (fZ b) _ (p2 (-1074)) p2_split.symm rfl rfl (sum_list us) own
    have e : smI (fun i => (fZ ((u :: us).getD i 0) - fZ (((List.replicate ((a :: xs).length * 1) 0).set 0 b).getD i 0)) * (fZ ((u :: us).getD i 0) - fZ (((List.replicate ((a :: xs).length * 1) 0).set 0 b).getD i 0))) (a :: xs).length = (fZ u - fZ b) * (fZ u - fZ b) + smI (fun j => fZ (us.getD j 0) * fZ (us.getD j 0)) us.length := by
      rw [show (a :: xs).length = xs.length + 1 from rfl, smI_front, Nat.mul_one, hul]
      rw [show ((List.replicate (xs.length + 1) 0).set 0 b) = b :: List.replicate xs.length 0 from rfl]
      congr 1
      refine smI_congr _ (fun j hj => ?_)
      show (fZ (us.getD j 0) - fZ ((List.replicate xs.length 0).getD j 0)) * (fZ (us.getD j 0) - fZ ((List.replicate xs.length 0).getD j 0)) = _
      rw [show (List.replicate xs.length 0).getD j 0 = 0 from by simp [List.getD_eq_getElem?_getD, List.getElem?_replicate]; split <;> rfl, fZ_zero11, Int.sub_zero]
    rw [e]
    generalize (fZ u - fZ b) * (fZ u - fZ b) + smI (fun j => fZ (us.getD j 0) * fZ (us.getD j 0)) us.length = X at *
    have pp : (0 : Int) ≤ 2 ^ 1074 * 2 ^ 1074 := Int.mul_nonneg (Int.le_of_lt (Int.pow_pos (show (0 : Int) < 2 by decide))) (Int.le_of_lt (Int.pow_pos (show (0 : Int) < 2 by decide)))
    generalize (2 : Int) ^ 1074 * 2 ^ 1074 = P at *
    have := Int.mul_le_mul_of_nonneg_right k pp
    rw [Int.mul_right_comm]
    exact this

end Go.Proofs.YtimejpbmehegeaaGreatDoor

/- Package certify: is a number at most another one times a power of two, and 2^-4000 more? -/
namespace Go.Proofs.YtimejpbmehegeaaGreatDoor
open Go.RowKit
attribute [local go_sem ↓] Go.wp_at_zero Go.wp_at_succ
/-- What holds in atMost: the numbers' boxes. -/
def AmSt (w wr : World) (na nb : Bool) (ao bo : Option Addr) (ka kb ca cb : Nat) (x y : Int) : Prop :=
  Box3 wr w.heap.size (.bool na) (.slice ao ka ca) (.int .i64 x) ∧ Box3 wr (w.heap.size + 1) (.bool nb) (.slice bo kb cb) (.int .i64 y) ∧ Below w.heap.size w wr
theorem AmSt.all {w wr w' : World} {na nb : Bool} {ao bo : Option Addr} {ka kb ca cb : Nat} {x y : Int} (h : AmSt w wr na nb ao bo ka kb ca cb x y) (hb : Below wr.heap.size wr w') : AmSt w w' na nb ao bo ka kb ca cb x y := ⟨h.1.all hb, h.2.1.all hb, h.2.2.trans (hb.mono h.2.2.size)⟩
theorem AmSt.start (w : World) (na nb : Bool) (ao bo : Option Addr) (ka kb ca cb : Nat) (x y : Int) : AmSt w ((w.alloc (.cells #[.bool na, .slice ao ka ca, .int .i64 x] 54)).alloc (.cells #[.bool nb, .slice bo kb cb, .int .i64 y] 54)) na nb ao bo ka kb ca cb x y := by
  have b0 := below_alloc9 w (.cells #[.bool na, .slice ao ka ca, .int .i64 x] 54)
  have s0 := size_alloc9 w (.cells #[.bool na, .slice ao ka ca, .int .i64 x] 54)
  have x0 := Box3.new w (.bool na) (.slice ao ka ca) (.int .i64 x)
  generalize w.alloc (.cells #[.bool na, .slice ao ka ca, .int .i64 x] 54) = w0 at *
  have b1 := below_alloc9 w0 (.cells #[.bool nb, .slice bo kb cb, .int .i64 y] 54)
  have k1 := Box3.new w0 (.bool nb) (.slice bo kb cb) (.int .i64 y)
  rw [s0] at k1
  exact ⟨x0.all b1, k1, b0.trans (b1.mono b0.size)⟩

end Go.Proofs.YtimejpbmehegeaaGreatDoor

/- The reference of layer 11: Dot. -/
namespace Go.Proofs.YtimejpbmehegeaaGreatDoor
open Go.RowKit
attribute [local go_sem ↓] Go.wp_at_zero Go.wp_at_succ

/-- What holds in a sum's loop: the answer's box, the sum. -/
def DtSt (w wr : World) (lo s : Int) : Prop := Box3 wr w.heap.size (.bool false) (.slice none 0 0) (.int .i64 0) ∧ Kept wr (w.heap.size + 1) lo s ∧ Below w.heap.size w wr
theorem DtSt.all {w wr w' : World} {lo s : Int} (h : DtSt w wr lo s) (hb : Below wr.heap.size wr w') : DtSt w w' lo s := ⟨h.1.all hb, h.2.1.all hb, h.2.2.trans (hb.mono h.2.2.size)⟩
theorem DtSt.start (w : World) (lo : Int) : DtSt w ((w.alloc (.cells #[.bool false, .slice none 0 0, .int .i64 0] 54)).alloc (.cells #[.bool false, .slice none 0 0, .int .i64 0] 54)) lo 0 := by
  have b0 := below_alloc9 w (.cells #[.bool false, .slice none 0 0, .int .i64 0] 54)
  have s0 := size_alloc9 w (.cells #[.bool false, .slice none 0 0, .int .i64 0] 54)
  have x0 := Box3.new w (.bool false) (.slice none 0 0) (.int .i64 0)
  generalize w.alloc (.cells #[.bool false, .slice none 0 0, .int .i64 0] 54) = w0 at *
  have b1 := below_alloc9 w0 (.cells #[.bool false, .slice none 0 0, .int .i64 0] 54)
  have k1 := Kept.new w0 lo
  rw [s0] at k1
  exact ⟨x0.all b1, k1, b0.trans (b1.mono b0.size)⟩
/-- The sum's box is written. -/
theorem DtSt.put {w wr : World} {lo s t : Int} (h : DtSt w wr lo s) {n : Bool} {a : Option Addr} {l c : Nat} {X : Int} (hv : IsLv wr (.agg #[.bool n, .slice a l c, .int .i64 X]) lo t) :
    DtSt w (((wr.setCell ⟨w.heap.size + 1, 0, none⟩ (.bool n)).setCell ⟨w.heap.size + 1, 1, none⟩ (.slice a l c)).setCell ⟨w.heap.size + 1, 2, none⟩ (.int .i64 X)) lo t := by
  obtain ⟨h1, ⟨n', a', l', c', X', h2, _⟩, h3⟩ := h
  have ne : w.heap.size ≠ w.heap.size + 1 := by omega
  exact ⟨((h1.other (p := ⟨w.heap.size + 1, 0, none⟩) ne _).other (p := ⟨w.heap.size + 1, 1, none⟩) ne _).other (p := ⟨w.heap.size + 1, 2, none⟩) ne _, ⟨n, a, l, c, X, h2.put _ _ _, IsDy.put3 hv h2 _ _ _⟩, below_put3 h3 (by omega) _ _ _⟩

set_option maxRecDepth 20000 in
set_option maxHeartbeats 16000000 in
theorem rdot_of (ao bo : Option Addr) (c d n : Nat) (I J : List Int) (lo lo2 : Int) (fa fb sm : Nat → Int) (w : World) (hI : BitsAt w ao c I) (hJ : BitsAt w bo d J) (hi : I.length = n) (hj : J.length = n) (hn : n ≤ 8) (h0 : sm 0 = 0)
    (C1 : ∀ w' k, k < n → Calls Tryz.prog 23 #[.int .u64 (atB I k : Nat)] w' fun r w'' => ∃ u, r = .returned u ∧ IsLv w'' u lo (fa k) ∧ Below w'.heap.size w' w'')
    (C2 : ∀ w' k, k < n → Calls Tryz.prog 23 #[.int .u64 (atB J k : Nat)] w' fun r w'' => ∃ u, r = .returned u ∧ IsLv w'' u lo (fb k) ∧ Below w'.heap.size w' w'')
    (C3 : ∀ w' k v u, k < n → IsLv w' v lo (fa k) → IsLv w' u lo (fb k) → Calls Tryz.prog 65 #[v, u] w' fun r w'' => ∃ q, r = .returned q ∧ IsLv w'' q lo2 (fa k * fb k) ∧ Below w'.heap.size w' w'')
    (C4 : ∀ w' k v u, k < n → IsLv w' v lo2 (sm k) → IsLv w' u lo2 (fa k * fb k) → Calls Tryz.prog 29 #[v, u] w' fun r w'' => ∃ q, r = .returned q ∧ IsLv w'' q lo2 (sm (k + 1)) ∧ Below w'.heap.size w' w'') :
    Calls Tryz.prog 76 #[.slice ao n c, .slice bo n d] w fun e w' => ∃ v, e = .returned v ∧ IsLv w' v lo2 (sm n) ∧ Below w.heap.size w w' := by
  have K1 := hide C1; have K2 := hide C2; have K3 := hide C3; have K4 := hide C4; have HI := hide hI; have HJ := hide hJ; have LI := hide hi; have LJ := hide hj
  have ST := hide (show DtSt w _ lo2 (sm 0) from by rw [h0]; exact DtSt.start w lo2)
  clear C1 C2 C3 C4 hI hJ hi hj h0
  go_enter Tryz.func76, Tryz.ntmps76
  go_wp2_with fail
  go_loopw [6] (fun i wr => ∃ k : Nat, k ≤ n ∧ i = .int .i64 k ∧ Hid (DtSt w wr lo2 (sm k))) (fun i _ => n - (intOf i).toNat)
  case atStart => exact ⟨0, Nat.zero_le _, rfl, ST⟩
  case round =>
    clear ST
    obtain ⟨k, hk, rfl, hS⟩ := hrel
    by_cases hlt : k < n
    · have hkI : (k : Int) < (n : Int) := by omega
      have W1 := hide (fun w' => unhide K1 w' k hlt)
      have W2 := hide (fun w' => unhide K2 w' k hlt)
      have W3 := hide (fun w' v u => unhide K3 w' k v u hlt)
      have W4 := hide (fun w' v u => unhide K4 w' k v u hlt)
      obtain ⟨b1, o1, rfl, p1, q1⟩ := (unhide HI).ne (by rw [unhide LI]; omega)
      obtain ⟨b2, o2, rfl, p2, q2⟩ := (unhide HJ).ne (by rw [unhide LJ]; omega)
      have cx := q1 k (by rw [unhide LI]; exact hlt)
      have cy := q2 k (by rw [unhide LJ]; exact hlt)
      generalize atB I k = x at *
      generalize atB J k = y at *
      have KX := hide cx; have KY := hide cy; have P1 := hide p1; have P2 := hide p2
      clear q1 q2 cx cy p1 p2
      go_wp2_with fail
      refine at_world (fun W => DtSt w W lo2 (sm k)) (unhide hS) ?_
      clear hS
      rintro W0 hS
      have D0 := (Below.refl W0.heap.size W0).drew
      have SS := hide (hS.all D0)
      obtain ⟨nn, aa, ll, cc, X, bx, ix⟩ := (unhide SS).2.1
      have y0 := bx.c0; have y1 := bx.c1; have y2 := bx.c2; have f0 := bx.free 0; have f1 := bx.free 1; have f2 := bx.free 2
      have BX := hide bx; have IX := hide ix
      have HK := hide (show ∀ w' (h : Below w.heap.size w w'), w'.cell? ⟨b1, o1 + k, none⟩ = some (.int .u64 (x : Nat)) ∧ w'.cell? ⟨b2, o2 + k, none⟩ = some (.int .u64 (y : Nat)) from fun w' h =>
        ⟨(h.cell (p := ⟨b1, o1 + k, none⟩) (unhide P1)).trans (unhide KX), (h.cell (p := ⟨b2, o2 + k, none⟩) (unhide P2)).trans (unhide KY)⟩)
      clear hS D0 bx ix KX KY P1 P2
      obtain ⟨cx, cy⟩ := unhide HK _ (unhide SS).2.2
      go_region_with (first
          | (go_at_call_of 23 x; refine (unhide W1 _).mono ?_; rintro e w4 ⟨q, rfl, hq, hb1⟩; replace SS := hide ((unhide SS).all hb1); (first | (replace QY := hide ((unhide QY).below hb1)) | skip); have QX := hide hq; clear y0 y1 y2 f0 f1 f2 cx cy; replace BX := hide ((unhide BX).all hb1); replace IX := hide ((unhide IX).below hb1); obtain ⟨cx, cy⟩ := unhide HK _ (unhide SS).2.2; have y0 := (unhide BX).c0; have y1 := (unhide BX).c1; have y2 := (unhide BX).c2; have f0 := (unhide BX).free 0; have f1 := (unhide BX).free 1; have f2 := (unhide BX).free 2; clear hq hb1)
          | (go_at_call_of 23 y; refine (unhide W2 _).mono ?_; rintro e w4 ⟨q, rfl, hq, hb1⟩; replace SS := hide ((unhide SS).all hb1); (first | (replace QX := hide ((unhide QX).below hb1)) | skip); have QY := hide hq; clear y0 y1 y2 f0 f1 f2 cx cy; replace BX := hide ((unhide BX).all hb1); replace IX := hide ((unhide IX).below hb1); obtain ⟨cx, cy⟩ := unhide HK _ (unhide SS).2.2; have y0 := (unhide BX).c0; have y1 := (unhide BX).c1; have y2 := (unhide BX).c2; have f0 := (unhide BX).free 0; have f1 := (unhide BX).free 1; have f2 := (unhide BX).free 2; clear hq hb1)
          | (go_at_call 65; refine (unhide W3 _ _ _ (unhide QX) (unhide QY)).mono ?_; rintro e w4 ⟨q, rfl, hq, hb1⟩; replace SS := hide ((unhide SS).all hb1); have QP := hide hq; clear y0 y1 y2 f0 f1 f2 cx cy; replace BX := hide ((unhide BX).all hb1); replace IX := hide ((unhide IX).below hb1); obtain ⟨cx, cy⟩ := unhide HK _ (unhide SS).2.2; have y0 := (unhide BX).c0; have y1 := (unhide BX).c1; have y2 := (unhide BX).c2; have f0 := (unhide BX).free 0; have f1 := (unhide BX).free 1; have f2 := (unhide BX).free 2; clear hq hb1)
          | (go_at_call 29; refine (unhide W4 _ _ _ (unhide IX) (unhide QP)).mono ?_; rintro e w4 ⟨q, rfl, ⟨n5, a5, c5, L5, rfl, i5⟩, hb1⟩; replace SS := hide ((unhide SS).all hb1); have QS := hide (show IsLv w4 (.agg #[.bool n5, .slice a5 L5.length c5, .int .i64 (oE (sm (k + 1)) lo2)]) lo2 (sm (k + 1)) from ⟨n5, a5, c5, L5, rfl, i5⟩); clear y0 y1 y2 f0 f1 f2 cx cy; replace BX := hide ((unhide BX).all hb1); obtain ⟨cx, cy⟩ := unhide HK _ (unhide SS).2.2; have y0 := (unhide BX).c0; have y1 := (unhide BX).c1; have y2 := (unhide BX).c2; have f0 := (unhide BX).free 0; have f1 := (unhide BX).free 1; have f2 := (unhide BX).free 2; have SF := hide ((unhide SS).put (unhide QS)); clear i5 hb1)
          | fail "NO ARM")
      all_goals
        go_wp2_with fail
        go_round
        case rel => exact ⟨k + 1, by omega, by go_num, SF⟩
        case measure => simp [intOf]; omega
    · have hkk : k = n := by omega
      subst hkk
      obtain ⟨h1, ⟨nn, aa, ll, cc, X, bx, ix⟩, h3⟩ := unhide hS
      have y0 := bx.c0; have y1 := bx.c1; have y2 := bx.c2
      have r0 := h1.c0; have r1 := h1.c1; have r2 := h1.c2; have f0 := h1.free 0; have f1 := h1.free 1; have f2 := h1.free 2
      have xe := h1.put (.bool nn) (.slice aa ll cc) (.int .i64 X)
      have e0 := xe.c0; have e1 := xe.c1; have e2 := xe.c2
      have HS := hide (IsDy.put3 ix h1 (.bool nn) (.slice aa ll cc) (.int .i64 X))
      have BE := hide (below_put3 h3 (Nat.le_refl _) (.bool nn) (.slice aa ll cc) (.int .i64 X))
      clear xe h1 bx ix h3 hS
      go_wp2_with fail
      exact bodyPost_ret (v := .agg #[.bool nn, .slice aa ll cc, .int .i64 X]) (by simp [results, Tryz.results76, go_sem, e0, e1, e2]) rfl ⟨_, rfl, unhide HS, unhide BE⟩

end Go.Proofs.YtimejpbmehegeaaGreatDoor

