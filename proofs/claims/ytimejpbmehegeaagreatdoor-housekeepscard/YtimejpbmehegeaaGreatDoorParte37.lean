/- Part 37 of the texts. -/
import Derived.Test.YtimejpbmehegeaaGreatDoorParte36
import Derived.Deep.RegionWith
import Derived.Deep.RegionLaw
import Derived.Test.YtimejpbmehegeaaGreatDoorParte29
import Derived.Deep.RegionHeld3
import Derived.Test.YtimejpbmehegeaaGreatDoorParte30
import Derived.Test.YtimejpbmehegeaaGreatDoorParte31
import Derived.Test.YtimejpbmehegeaaGreatDoorParte32
import Derived.Test.YtimejpbmehegeaaGreatDoorParte28
import Derived.Test.YtimejpbmehegeaaGreatDoorParte27
/- The reference of layer 10: In, Copy, Stack, Beside. -/
namespace Go.Proofs.YtimejpbmehegeaaGreatDoor
open Go.RowKit
attribute [local go_sem ↓] Go.wp_at_zero Go.wp_at_succ
theorem OwnB.least {base base' : Nat} {w : World} {v : Value} {S : List Nat} (h : OwnB base w v S) (hb : base' ≤ base) : OwnB base' w v S := by
  refine ⟨⟨h.1.1, ?_⟩, h.2⟩
  rcases h.1.2 with e | ⟨g, cap, cur, hv, hg, rest⟩
  · exact .inl e
  · exact .inr ⟨g, cap, cur, hv, Nat.le_trans hb hg, rest⟩
/-- Stores into a box that lies elsewhere. -/
theorem OwnB.putM {base : Nat} {w : World} {v : Value} {S : List Nat} (h : OwnB base w v S) {b : Nat} {x y z : Value} (_hx : BoxM w b x y z) (hb : b < base) (u u' u'' : Value) : OwnB base (((w.setCell ⟨b, 0, none⟩ u).setCell ⟨b, 1, none⟩ u').setCell ⟨b, 2, none⟩ u'') v S := by
  refine ⟨⟨h.1.1, ?_⟩, h.2⟩
  rcases h.1.2 with e | ⟨g, cap, cur, hv, hg, hh, rest⟩
  · exact .inl e
  · refine .inr ⟨g, cap, cur, hv, hg, ?_, rest⟩
    have ne : g ≠ b := by omega
    rw [Below.heap_setCell _ ⟨b, 2, none⟩ u'' g ne, Below.heap_setCell _ ⟨b, 1, none⟩ u' g ne, Below.heap_setCell _ ⟨b, 0, none⟩ u g ne]
    exact hh

end Go.Proofs.YtimejpbmehegeaaGreatDoor

/- The reference of layer 13: noughts, lead. -/
namespace Go.Proofs.YtimejpbmehegeaaGreatDoor
open Go.RowKit
attribute [local go_sem ↓] Go.wp_at_zero Go.wp_at_succ

theorem toN_getD (I : List Int) (j : Nat) (hj : j < I.length) : (toN I).getD j 0 = atB I j := by
  rw [List.getD_eq_getElem?_getD, toN_at I j hj]
  rfl
theorem ldS_drop (L : List Nat) {j : Nat} (h : j < L.length) : ldS (L.drop j) = if fK (L.getD j 0) = 0 then ldS (L.drop (j + 1)) else fS (L.getD j 0) := by
  rw [List.drop_eq_getElem_cons h, List.getD_eq_getElem?_getD, List.getElem?_eq_getElem h]
  rfl

end Go.Proofs.YtimejpbmehegeaaGreatDoor

/- A matrix mirrored place by place. Ahead of stage 13. -/
namespace Go.Proofs.YtimejpbmehegeaaGreatDoor

/-- The columns before d mirrored, of column d the first j numbers. -/
def apJ (r c : Nat) (S : List Nat) (i k : Nat) (vs : List Nat) (tau d j : Nat) : List Nat := mkM r c (fun p q => if (k ≤ q ∧ i ≤ p ∧ p < i + vs.length) ∧ (q < d ∨ (q = d ∧ p < i + j)) then (apL c S i q vs tau).getD (p - i) 0 else elM c S p q)
theorem apJ_len (r c : Nat) (S : List Nat) (i k : Nat) (vs : List Nat) (tau d j : Nat) : (apJ r c S i k vs tau d j).length = r * c := mkM_len _ _ _
theorem apJ_0 (r c : Nat) (S : List Nat) (i k : Nat) (vs : List Nat) (tau : Nat) (h : S.length = r * c) : apJ r c S i k vs tau k 0 = S := by
  unfold apJ
  rw [← mkM_of r c S h]
  refine mkM_congr (fun p q _ _ => ?_)
  rw [mkM_of r c S h, if_neg (fun g => by omega)]
  rfl
theorem apJ_next (r c : Nat) (S : List Nat) (i k : Nat) (vs : List Nat) (tau d : Nat) : apJ r c S i k vs tau d vs.length = apJ r c S i k vs tau (d + 1) 0 := by
  unfold apJ
  refine mkM_congr (fun p q _ _ => ?_)
  by_cases g : (k ≤ q ∧ i ≤ p ∧ p < i + vs.length) ∧ (q < d ∨ (q = d ∧ p < i + vs.length))
  · rw [if_pos g, if_pos ⟨g.1, by omega⟩]
  · rw [if_neg g, if_neg (fun g2 => g ⟨g2.1, by omega⟩)]
theorem apJ_all (r c : Nat) (S : List Nat) (i k : Nat) (vs : List Nat) (tau d : Nat) (hd : c ≤ d) : apJ r c S i k vs tau d 0 = apM r c S i k vs tau := by
  unfold apJ apM
  refine mkM_congr (fun p q _ hq => ?_)
  by_cases g : k ≤ q ∧ i ≤ p ∧ p < i + vs.length
  · rw [if_pos g, if_pos ⟨g, by omega⟩]
  · rw [if_neg g, if_neg (fun g2 => g g2.1)]
theorem apJ_set (r c : Nat) (S : List Nat) {i k : Nat} {vs : List Nat} {tau d j : Nat} (hi : i + vs.length ≤ r) (hd : d < c) (hk : k ≤ d) (hj : j < vs.length) :
    (apJ r c S i k vs tau d j).set ((i + j) * c + d) ((apL c S i d vs tau).getD j 0) = apJ r c S i k vs tau d (j + 1) := by
  unfold apJ
  rw [mkM_set r c _ _ (show i + j < r by omega) hd]
  refine mkM_congr (fun p q _ _ => ?_)
  by_cases e : p = i + j ∧ q = d
  · obtain ⟨rfl, rfl⟩ := e
    rw [if_pos ⟨rfl, rfl⟩, if_pos ⟨⟨hk, by omega, by omega⟩, .inr ⟨rfl, by omega⟩⟩, show i + j - i = j by omega]
  · rw [if_neg e]
    by_cases g : (k ≤ q ∧ i ≤ p ∧ p < i + vs.length) ∧ (q < d ∨ (q = d ∧ p < i + j))
    · rw [if_pos g, if_pos ⟨g.1, by omega⟩]
    · rw [if_neg g, if_neg (fun g2 => g ⟨g2.1, by omega⟩)]
theorem apL_at (c : Nat) (S : List Nat) (i q : Nat) (vs : List Nat) (tau : Nat) {j : Nat} (hj : j < vs.length) :
    (apL c S i q vs tau).getD j 0 = aV (elM c S (i + j) q) (fN (mV (mV tau (dtV 0 vs (colL c S i vs.length q))) (vs.getD j 0))) := by
  unfold apL
  rw [apV_at _ vs _ j (colL_len _ _ _ _ _).symm hj, colL_at c S i vs.length q hj]
theorem apL_lt (c : Nat) (S : List Nat) (i q : Nat) (vs : List Nat) (tau : Nat) {j : Nat} (hj : j < vs.length) (hS : ∀ p q, elM c S p q < 18446744073709551616) : (apL c S i q vs tau).getD j 0 < 18446744073709551616 := by
  rw [apL_at c S i q vs tau hj]
  exact aV_lt _ _ (hS _ _) (fN_lt _ (mV_lt _ _))

/-- A sum of products by places and by lists. -/
theorem dtV_snoc (x y : Nat) : ∀ (xs ys : List Nat) (s : Nat), xs.length = ys.length → dtV s (xs ++ [x]) (ys ++ [y]) = aV (dtV s xs ys) (mV x y) := by
  intro xs
  induction xs with
  | nil =>
    intro ys s h
    match ys with
    | [] => rfl
    | y' :: ys => cases h
  | cons x' xs ih =>
    intro ys s h
    match ys with
    | [] => cases h
    | y' :: ys => exact ih ys _ (by simpa using h)
theorem dtK_dtV (I J : List Int) : ∀ j, j ≤ I.length → j ≤ J.length → dtK I J j = dtV 0 ((toN I).take j) ((toN J).take j) := by
  intro j
  induction j with
  | zero => intro _ _; rfl
  | succ j ih =>
    intro h1 h2
    rw [toN_take I j h1, toN_take J j h2, dtV_snoc _ _ _ _ _ (by simp [toN_len]; omega), ← ih (by omega) (by omega)]
    rfl

end Go.Proofs.YtimejpbmehegeaaGreatDoor

/- Package plain: operations without their flags; package givens: place, rowOf, columnOf, check, turnedPair. -/
namespace Go.Proofs.YtimejpbmehegeaaGreatDoor
open Go.RowKit
attribute [local go_sem ↓] Go.wp_at_zero Go.wp_at_succ

set_option maxRecDepth 20000 in
set_option maxHeartbeats 2000000 in
theorem psub_any (a b : Nat) (w : World) (ha : a < 18446744073709551616) (hb : b < 18446744073709551616) (hT : Tab w) :
    Calls Tryz.prog 45 #[.int .u64 a, .int .u64 b] w fun r w' => r = .returned (.int .u64 (aV a (fN b) : Nat)) ∧ Below w.heap.size w w' := by
  have K := hide (ssub_any a b w ha hb hT)
  clear ha hb hT
  generalize aV a (fN b) = o at *
  generalize aF a (fN b) = f at *
  go_enter Tryz.func45, Tryz.ntmps45
  go_wp2_with fail
  refine Calls.mono (unhide K) ?_
  rintro e w1 ⟨rfl, hb1⟩
  clear K
  go_wp2
  go_ret
  exact ⟨rfl, hb1⟩

set_option maxRecDepth 20000 in
set_option maxHeartbeats 2000000 in
theorem pdiv_any (a b : Nat) (w : World) (ha : a < 18446744073709551616) (hb : b < 18446744073709551616) (hT : Tab w) :
    Calls Tryz.prog 47 #[.int .u64 a, .int .u64 b] w fun r w' => r = .returned (.int .u64 (dV a b : Nat)) ∧ Below w.heap.size w w' := by
  have K := hide (tdiv_any a b w ha hb hT)
  clear ha hb hT
  generalize dV a b = o at *
  generalize dF a b = f at *
  go_enter Tryz.func47, Tryz.ntmps47
  go_wp2_with fail
  refine Calls.mono (unhide K) ?_
  rintro e w1 ⟨rfl, hb1⟩
  clear K
  go_wp2
  go_ret
  exact ⟨rfl, hb1⟩

end Go.Proofs.YtimejpbmehegeaaGreatDoor

/- Package house: belowZero, betaOf, oneAnd, the functions of one number. -/
namespace Go.Proofs.YtimejpbmehegeaaGreatDoor
open Go.RowKit
attribute [local go_sem ↓] Go.wp_at_zero Go.wp_at_succ

set_option maxRecDepth 20000 in
set_option maxHeartbeats 4000000 in
theorem hbelow_any (ao : Option Addr) (c : Nat) (I : List Int) (w : World) (hI : BitsAt w ao c I) (hn : I.length ≤ 64) :
    Calls Tryz.prog 86 #[.slice ao I.length c] w fun e w' => e = .returned (.bool (ldS (toN I))) ∧ Below w.heap.size w w' := by
  have HI := hide hI
  obtain ⟨L, hL⟩ : ∃ L : Nat → Bool, L = fun j => ldS ((toN I).drop j) := ⟨_, rfl⟩
  have L0 : ldS (toN I) = L 0 := by rw [hL]; rfl
  have LE : ∀ j, I.length ≤ j → L j = false := fun j hj => by
    rw [hL]
    show ldS ((toN I).drop j) = false
    rw [List.drop_eq_nil_of_le (by rw [toN_len]; exact hj)]
    rfl
  have LS : ∀ j, j < I.length → L j = if fK (atB I j) = 0 then L (j + 1) else fS (atB I j) := fun j hj => by
    rw [hL]
    show ldS ((toN I).drop j) = _
    rw [ldS_drop (toN I) (by rw [toN_len]; exact hj), toN_getD I j hj]
  rw [L0]
  obtain ⟨v, hv⟩ : ∃ v, L 0 = v := ⟨_, rfl⟩
  have HE := hide LE; have HS := hide LS
  obtain ⟨n, hnn⟩ : ∃ n, I.length = n := ⟨_, rfl⟩
  rw [hnn] at hn HE HS ⊢
  rw [hv]
  have HN := hide hnn
  have HV := hide hv
  clear hI hL L0 LE LS hnn hv
  go_enter Tryz.func86, Tryz.ntmps86
  go_wp2_with fail
  go_loopw [7] (fun i wr => ∃ j : Nat, j ≤ n ∧ i = .int .i64 j ∧ Hid (L j = v) ∧ Hid (Below w.heap.size w wr)) (fun i _ => n - (intOf i).toNat)
  case atStart => exact ⟨0, Nat.zero_le _, rfl, HV, Below.refl _ _⟩
  case round =>
    obtain ⟨j, hj, rfl, hL, hB⟩ := hrel
    by_cases hlt : j < n
    · have hjI : (j : Int) < (n : Int) := by omega
      obtain ⟨b, off, hao, hb, hc⟩ := ((unhide HI).below hB.out).ne (by rw [unhide HN]; omega)
      have hck := hide (hc j (by rw [unhide HN]; exact hlt))
      have C1 := hide (fun w' => kind_any (atB I j) w' ((unhide HI).lt j))
      have C2 := hide (fun w' => ssign_any (atB I j) w' ((unhide HI).lt j))
      have HJ := hide (unhide HS j hlt)
      subst hao
      clear hc
      by_cases g0 : fK (atB I j) = 0
      · have R2 := hide (show L (j + 1) = v from by have := unhide HJ; rw [unhide hL, if_pos g0] at this; exact this.symm)
        rw [g0] at C1
        clear HJ g0 C2
        generalize atB I j = x at *
        have hc0 := unhide hck
        go_wp2_with fail
        refine (unhide C1 _).mono ?_
        rintro e w2 ⟨rfl, hb2⟩
        have B2 : Hid (Below w.heap.size w w2) := hB.out.trans (hb2.mono hB.out.size)
        clear C1 hb2 hck hc0 hB
        go_wp2_with fail
        go_round
        case rel => exact ⟨j + 1, by omega, by go_num, R2, B2⟩
        case measure => simp [intOf]; omega
      · have R2 : fS (atB I j) = v := by have := unhide HJ; rw [unhide hL, if_neg g0] at this; exact this.symm
        have g0' : (fK (atB I j) == 0) = false := by rw [beq_eq_false_iff_ne]; exact g0
        rw [R2] at C2
        clear HJ R2
        generalize fK (atB I j) = kd at *
        generalize atB I j = x at *
        have hc0 := unhide hck
        go_wp2_with fail
        refine (unhide C1 _).mono ?_
        rintro e w2 ⟨rfl, hb2⟩
        have B2 : Hid (Below w.heap.size w w2) := hB.out.trans (hb2.mono hB.out.size)
        clear C1 hb2 hck hc0 hB
        go_wp2_with fail
        refine (unhide C2 _).mono ?_
        rintro e w3 ⟨rfl, hb2⟩
        have B3 : Hid (Below w.heap.size w w3) := B2.out.trans (hb2.mono B2.out.size)
        clear C2 hb2 B2
        go_wp2_with fail
        exact bodyPost_ret (v := .bool v) (by simp [results, Tryz.results86, go_sem]) rfl ⟨rfl, B3.out⟩
    · have hv2 : v = false := by have := unhide HE j (by omega); rw [unhide hL] at this; exact this
      subst hv2
      have hjI : (n : Int) ≤ (j : Int) := by omega
      go_wp2_with fail
      exact bodyPost_ret (v := .bool false) (by simp [results, Tryz.results86, go_sem]) rfl ⟨rfl, hB.out⟩

set_option maxRecDepth 20000 in
set_option maxHeartbeats 4000000 in
theorem hbeta_of (ao : Option Addr) (n c m o : Nat) (s : Bool) (w : World) (h : (s = true ∧ o = m) ∨ (s = false ∧ o = fN m)) (hm : m < 18446744073709551616)
    (C1 : Calls Tryz.prog 85 #[.slice ao n c] w fun e w'' => e = .returned (.tuple #[.int .u64 (m : Nat), .int .i64 0]) ∧ Below w.heap.size w w'')
    (C2 : ∀ w', Below w.heap.size w w' → Calls Tryz.prog 86 #[.slice ao n c] w' fun e w'' => e = .returned (.bool s) ∧ Below w'.heap.size w' w'') :
    Calls Tryz.prog 44 #[.slice ao n c] w fun e w' => e = .returned (.int .u64 (o : Nat)) ∧ Below w.heap.size w w' := by
  have K1 := hide C1; have K2 := hide C2
  have K3 := hide (fun w' => sminus_any m w' hm)
  clear C1 C2 hm
  rcases h with ⟨rfl, rfl⟩ | ⟨rfl, rfl⟩
  · clear K3
    go_enter Tryz.func44, Tryz.ntmps44
    go_wp2_with fail
    refine Calls.mono (unhide K1) ?_
    rintro e w1 ⟨rfl, hb1⟩
    have B1 := hide hb1
    clear K1 hb1
    go_wp2_with fail
    refine (unhide K2 _ (unhide B1)).mono ?_
    rintro e w2 ⟨rfl, hb2⟩
    have B2 := hide ((unhide B1).trans (hb2.mono (unhide B1).size))
    clear K2 hb2 B1
    go_wp2
    go_ret
    exact ⟨rfl, unhide B2⟩
  · generalize fN m = o at *
    go_enter Tryz.func44, Tryz.ntmps44
    go_wp2_with fail
    refine Calls.mono (unhide K1) ?_
    rintro e w1 ⟨rfl, hb1⟩
    have B1 := hide hb1
    clear K1 hb1
    go_wp2_with fail
    refine (unhide K2 _ (unhide B1)).mono ?_
    rintro e w2 ⟨rfl, hb2⟩
    have B2 := hide ((unhide B1).trans (hb2.mono (unhide B1).size))
    clear K2 hb2 B1
    go_wp2_with fail
    refine (unhide K3 _).mono ?_
    rintro e w3 ⟨rfl, rfl⟩
    clear K3
    go_wp2
    go_ret
    exact ⟨rfl, unhide B2⟩

theorem hbeta_any (ao : Option Addr) (c : Nat) (I : List Int) (w : World) (hI : BitsAt w ao c I) (hn : I.length ≤ 64) (hT : Tab w) :
    Calls Tryz.prog 44 #[.slice ao I.length c] w fun e w' => e = .returned (.int .u64 ((if ldS (toN I) = true then nrV (toN I) else fN (nrV (toN I)) : Nat) : Nat)) ∧ Below w.heap.size w w' := by
  have C1 := vNorm_ok ao c I w hI hn hT
  rw [nmV_nrV] at C1
  refine hbeta_of ao I.length c (nrV (toN I)) _ (ldS (toN I)) w ?_ (nrV_lt _) C1 (fun w' hb => hbelow_any ao c I w' (hI.below hb) hn)
  cases ldS (toN I)
  · exact .inr ⟨rfl, if_neg (by decide)⟩
  · exact .inl ⟨rfl, if_pos rfl⟩

set_option maxRecDepth 20000 in
set_option maxHeartbeats 2000000 in
theorem hmake1_any (x : Nat) (w : World) :
    Calls Tryz.prog 43 #[.int .u64 x] w fun e w' => e = .returned (.int .u64 (0 : Nat)) ∧ Below w.heap.size w w' := by
  go_enter Tryz.func43, Tryz.ntmps43
  go_wp2
  go_ret
  exact ⟨rfl, Below.refl _ _⟩

set_option maxRecDepth 20000 in
set_option maxHeartbeats 2000000 in
theorem hmake2_any (x d g : Nat) (w : World) (hx : x < 18446744073709551616) (hd : d < 18446744073709551616) (hg : w.cell? ⟨g, 0, none⟩ = some (.int .u64 (d : Nat))) (hT : Tab w) :
    Calls Tryz.prog 46 #[.int .u64 x, .pointer (some ⟨g, 0, none⟩)] w fun e w' => e = .returned (.int .u64 (dV x d : Nat)) ∧ Below w.heap.size w w' := by
  have K := hide (pdiv_any x d w hx hd hT)
  generalize dV x d = o at *
  clear hx hd hT
  go_enter Tryz.func46, Tryz.ntmps46
  go_wp2_with fail
  refine Calls.mono (unhide K) ?_
  rintro e w1 ⟨rfl, hb1⟩
  clear K
  go_wp2
  go_ret
  exact ⟨rfl, hb1⟩

/-- One, and then k numbers. -/
def oaL (f : Nat → Nat) (k : Nat) : List Nat := 4607182418800017408 :: fsL f k
theorem oaL_len (f : Nat → Nat) (k : Nat) : (oaL f k).length = k + 1 := by
  show (fsL f k).length + 1 = _
  rw [fsL_len]
theorem oaL_succ (f : Nat → Nat) (k : Nat) : oaL f (k + 1) = oaL f k ++ [f k] := by
  show 4607182418800017408 :: fsL f (k + 1) = (4607182418800017408 :: fsL f k) ++ [f k]
  rw [fsL_succ]
  rfl

set_option maxRecDepth 20000 in
set_option maxHeartbeats 4000000 in
theorem oneAnd_any (fn : Nat) (caps : Array Value) (ao : Option Addr) (c : Nat) (J : List Int) (f : Nat → Nat) (w : World)
    (hcf : ∀ args w, (callFunc fn args).run Tryz.prog w = .ok (.enter fn args) w) (hJ : BitsAt w ao c J) (hn : J.length ≤ 64) (hf : ∀ k, k < J.length → f k < 18446744073709551616)
    (hstep : ∀ w' k, Below w.heap.size w w' → k < J.length → Calls Tryz.prog fn (#[.int .u64 (atB J k : Nat)] ++ caps) w' fun e w'' => e = .returned (.int .u64 (f k : Nat)) ∧ Below w'.heap.size w' w'') :
    Calls Tryz.prog 42 #[.slice ao J.length c, .func (.func fn) #[] caps] w fun e w' => ∃ bo d, e = .returned (.slice bo (J.length + 1 : Nat) d) ∧ NewB w.heap.size bo (mxL (oaL f J.length)) ∧ BitsAt w' bo d (mxL (oaL f J.length)) ∧ Below w.heap.size w w' := by
  obtain ⟨i0, hi0, hz0, hz1, hz2⟩ := info_parts infoBits
  have HS := hide hstep; have HF := hide hf; have HJ := hide hJ
  obtain ⟨n, hnn⟩ : ∃ n, J.length = n := ⟨_, rfl⟩
  rw [hnn] at hn HS HF ⊢
  have HN := hide hnn
  obtain ⟨m, hm⟩ : ∃ m, n + 1 = m := ⟨_, rfl⟩
  have hmI : (1 : Int) + (n : Int) = (m : Int) := by omega
  obtain ⟨w1, hmk, own1, gr1⟩ := run_make_own (P := Tryz.prog) w w.heap.size 22 24 i0 (.int .u64 0) 1 Tryz.underlying22 hi0 hz0 hz1 .i64 .i64 m (by rw [hz2]; omega) (by unfold maxLen; omega) (by simp)
  have B1 : Below w.heap.size w w1 := (Below.refl w.heap.size w).grown gr1 (by simp) (fun g hg => by cases hg)
  have O1 : OwnB w.heap.size w1 (.slice (some ⟨w.heap.size, 0, none⟩) 0 m) [] := ⟨by simpa using own1, by intro x hx; cases hx⟩
  generalize Value.slice (some ⟨w.heap.size, 0, none⟩) 0 m = v1 at hmk O1
  obtain ⟨v2, w2, run2, own2, bel2, _, _⟩ := O1.push 4607182418800017408 (by decide) (by simp) B1.size 22
  have RUN := hide (show (Builtin.append_ #[22, 22] 22 #[v1, .slice (some ⟨w1.heap.size, 0, none⟩) 1 1]).run Tryz.prog (w1.alloc (.cells #[.int .u64 4607182418800017408] 24)) = .ok v2 w2 from run2)
  have O2 := hide (show OwnB w.heap.size w2 v2 (oaL f 0) from own2)
  have B2 := hide (B1.trans bel2)
  clear own1 gr1 O1 B1 run2 own2 bel2 hstep hf hJ hnn
  go_enter Tryz.func42, Tryz.ntmps42
  go_wp2_with (at_builtin; refine wpList_append_ran _ rfl _ _ 22 rfl _ _ _ _ rfl rfl (unhide RUN) ?_; clear RUN)
  clear hmk
  go_loopw [5, 17] (fun v i wr => ∃ k : Nat, k ≤ n ∧ i = .int .i64 k ∧ Hid (OwnB w.heap.size wr v (oaL f k)) ∧ Hid (Below w.heap.size w wr)) (fun _ i _ => n - (intOf i).toNat)
  case atStart => exact ⟨0, Nat.zero_le _, rfl, O2, B2⟩
  case round =>
    clear O2 B2
    obtain ⟨k, hk, rfl, hO, hB⟩ := hrel
    by_cases hlt : k < n
    · have hkI : (k : Int) < (n : Int) := by omega
      obtain ⟨b, off, hao, hb, hc⟩ := ((unhide HJ).below hB.out).ne (by rw [unhide HN]; omega)
      have hck := hc k (by rw [unhide HN]; exact hlt)
      have C := hide (fun w' h => unhide HS w' k h hlt)
      have ho := hide (unhide HF k hlt)
      have eo := hide (show f k = f k from rfl)
      have hlen := hide (show (oaL f k).length ≤ 1000000 from by rw [oaL_len]; omega)
      subst hao
      clear hc
      obtain ⟨o, eo⟩ : ∃ o, f k = o := ⟨_, rfl⟩
      rw [eo] at C ho
      have eV := hide eo
      clear eo
      generalize atB J k = x at *
      go_wp2_with fail
      refine (unhide C _ hB.out).mono ?_
      rintro e w2 ⟨rfl, hb2⟩
      have own2 := (unhide hO).below hb2
      have B2 := hB.out.trans (hb2.mono hB.out.size)
      obtain ⟨v3, w3, run3, own3, bel3, _, _⟩ := own2.push o (unhide ho) (unhide hlen) B2.size 22
      have RUN := hide run3
      have O3 := hide (show OwnB w.heap.size w3 v3 (oaL f (k + 1)) from by
        rw [oaL_succ, unhide eV]; exact own3)
      have B3 := hide (B2.trans bel3)
      clear hb2 C hO hB own2 B2 run3 own3 bel3 ho eV hlen hck
      go_wp2_with (at_builtin; refine wpList_append_ran _ rfl _ _ 22 rfl _ _ _ _ rfl rfl (unhide RUN) ?_; clear RUN)
      go_round
      case rel => exact ⟨k + 1, by omega, by go_num, O3, B3⟩
      case measure => simp [intOf]; omega
    · have hkk : k = n := by omega
      subst hkk
      obtain ⟨b1, d1, e1, q1⟩ := (unhide hO).bits
      rw [oaL_len, hm] at e1
      subst e1
      have HNew := hide (unhide hO).newB
      have Q1 := hide q1
      clear q1 hO
      go_wp2_with fail
      exact bodyPost_ret (v := .slice b1 m d1) (by simp [results, Tryz.results42, go_sem]) rfl ⟨b1, d1, by rw [hm], unhide HNew, unhide Q1, hB.out⟩

end Go.Proofs.YtimejpbmehegeaaGreatDoor

