/- Part 33 of the texts. -/
import Derived.Test.YtimejpbmehegeaaGreatDoorParta32
import Derived.Test.YtimejpbmehegeaaGreatDoorParta31
import Derived.Test.YtimejpbmehegeaaGreatDoorParta29
/- The reference of layer 13: what Make answers. -/
namespace Go.Proofs.YtimejpbmehegeaaGreatDoor
open Go.RowKit

theorem toN_cons {I : List Int} (h : 1 ≤ I.length) : toN I = atB I 0 :: (toN I).drop 1 := by
  have h1 : 0 < (toN I).length := by rw [toN_len]; omega
  have := List.drop_eq_getElem_cons h1
  rw [List.drop_zero] at this
  rw [this]
  congr 1
  have e := toN_at I 0 (by omega)
  rw [List.getElem?_eq_getElem h1] at e
  exact Option.some.inj e
theorem drop_getD (I : List Int) {j : Nat} (h : j + 1 < I.length) : ((toN I).drop 1).getD j 0 = atB I (j + 1) := by
  rw [List.getD_eq_getElem?_getD, List.getElem?_drop, Nat.add_comm 1 j, toN_at I (j + 1) h]
  rfl
/-- The list v, place by place. -/
theorem mr_mkJ {I : List Int} (h : 1 ≤ I.length) (k : Nat → Nat) (hk : ∀ x, (if ngt ((toN I).drop 1) = true then 0 else dV x (hmD (atB I 0) ((toN I).drop 1))) = k x) : mrV (toN I) = mkJ (fun j => k (atB I (j + 1))) I.length := by
  have hl : ((toN I).drop 1).length = I.length - 1 := by rw [List.length_drop, toN_len]
  rw [toN_cons h]
  show 4607182418800017408 :: ((toN I).drop 1).map (fun x => if ngt ((toN I).drop 1) = true then 0 else dV x (hmD (atB I 0) ((toN I).drop 1))) = 4607182418800017408 :: fsL (fun j => k (atB I (j + 1))) (I.length - 1)
  congr 1
  rw [List.map_congr_left (g := k) (fun x _ => hk x), list_range ((toN I).drop 1), List.map_map, hl]
  unfold fsL
  refine List.map_congr_left (fun j hj => ?_)
  show k (((toN I).drop 1).getD j 0) = _
  rw [drop_getD I (by have := List.mem_range.1 hj; omega)]

theorem mk_facts {I : List Int} (h : 1 ≤ I.length) : mrB (toN I) = (if ngt ((toN I).drop 1) = true then atB I 0 else hmB (atB I 0) ((toN I).drop 1)) ∧ mrT (toN I) = (if ngt ((toN I).drop 1) = true then 0 else dV (aV (hmB (atB I 0) ((toN I).drop 1)) (fN (atB I 0))) (hmB (atB I 0) ((toN I).drop 1))) ∧ mrK (toN I) = (ngt ((toN I).drop 1) || (fFin (hmB (atB I 0) ((toN I).drop 1)) && fFin (hmD (atB I 0) ((toN I).drop 1)))) := by
  have e := toN_cons h
  refine ⟨?_, ?_, ?_⟩
  · conv => lhs; rw [e]
    rfl
  · conv => lhs; rw [e]
    rfl
  · conv => lhs; rw [e]
    rfl

theorem ngt_all {I : List Int} (h : 1 ≤ I.length) (hn : ngt ((toN I).drop 1) = false) : ngt (toN I) = false := by
  rw [toN_cons h]
  show (decide (fK (atB I 0) = 0) && ngt ((toN I).drop 1)) = false
  rw [hn, Bool.and_false]

theorem cells_of {w : World} {ao : Option Addr} {c : Nat} {I : List Int} (hI : BitsAt w ao c I) (h : 1 ≤ I.length) (w' : World) (hb : Below w.heap.size w w') : ∃ b off, ao = some ⟨b, off, none⟩ ∧ ∀ j, j < I.length → w'.cell? ⟨b, off + j, none⟩ = some (.int .u64 (atB I j : Nat)) := by
  obtain ⟨b, off, e1, _, e3⟩ := (hI.below hb).ne (by omega)
  exact ⟨b, off, e1, e3⟩

/-- The reference's Make, of a mirror that there is. -/
theorem rmake13_yes (ao : Option Addr) (c : Nat) (I : List Int) (w : World) (hI : BitsAt w ao c I) (h1 : 1 ≤ I.length) (h2 : I.length ≤ 64) (hk : mrK (toN I) = true) :
    Calls Tryz.prog 10 #[.slice ao I.length c] w fun e w' => ∃ vo vc, e = .returned (.tuple #[.agg #[.slice vo I.length vc, .int .u64 (mrT (toN I) : Nat), .int .u64 (mrB (toN I) : Nat)], .bool true]) ∧ BitsAt w' vo vc (mxL (mrV (toN I))) ∧ Below w.heap.size w w' := by
  obtain ⟨eB, eT, eK⟩ := mk_facts h1
  have N1 := fun w' (hb : Below w.heap.size w w') => rnoughts13_any ao c I w' (hI.below hb) h2
  cases hn : ngt ((toN I).drop 1)
  · rw [hn] at N1
    rw [hn, if_neg (by decide)] at eB eT
    rw [hk, hn, Bool.false_or] at eK
    obtain ⟨f1, f2⟩ := Bool.and_eq_true_iff.1 eK.symm
    rw [mr_mkJ h1 (fun x => dV x (hmD (atB I 0) ((toN I).drop 1))) (fun x => if_neg (by rw [hn]; decide)), eB, eT]
    have la := hI.lt 0
    have lB := hmB_lt (atB I 0) ((toN I).drop 1)
    have lD := hmD_lt (atB I 0) ((toN I).drop 1) la
    refine rmake13_ok ao I.length c (nrV (toN I)) (fN (nrV (toN I))) (hmB (atB I 0) ((toN I).drop 1)) (hmD (atB I 0) ((toN I).drop 1)) (aV (hmB (atB I 0) ((toN I).drop 1)) (fN (atB I 0))) _ (ldS (toN I)) true true (fun j => atB I j) (fun j => dV (atB I (j + 1)) (hmD (atB I 0) ((toN I).drop 1))) w h1 h2 rfl rfl (fun j _ => dV_lt _ _) (cells_of hI h1) N1 (fun w' hb => ?_) (fun w' hb => rlead13_any ao c I w' (hI.below hb) h2 (ngt_all h1 hn)) (fun w' p hs => ?_) (fun w' => rminus4_any _ w' (nrV_lt _)) ?_ (fun w' => r9sub_any _ _ w' la lB) (fun w' => ?_) (fun w' => ?_) (fun j hj1 hj w' => ?_) (fun w' => r9sub_any _ _ w' lB la) (fun w' => r9div_any _ _ w' (aV_lt _ _ lB (fN_lt _ la)) lB)
    · have := r9norm_any ao c I w' (hI.below hb) (by omega)
      rwa [nmV_nrV] at this
    · have := rneg4_any (atB I p) w' (hI.lt p)
      rwa [hs] at this
    · have e : hmB (atB I 0) ((toN I).drop 1) = if ldS (toN I) = true then nrV (toN I) else fN (nrV (toN I)) := by
        unfold hmB
        rw [← toN_cons h1]
      rw [e]
      cases hl : ldS (toN I)
      · exact .inr ⟨rfl, rfl⟩
      · exact .inl ⟨rfl, rfl⟩
    · have := rfinite_any (hmB (atB I 0) ((toN I).drop 1)) w' lB
      rwa [f1] at this
    · have := rfinite_any (hmD (atB I 0) ((toN I).drop 1)) w' lD
      rwa [f2] at this
    · have := r9div_any (atB I j) (hmD (atB I 0) ((toN I).drop 1)) w' (hI.lt j) lD
      rw [show j - 1 + 1 = j by omega]
      exact this
  · rw [hn] at N1
    rw [if_pos hn] at eB eT
    rw [mr_mkJ h1 (fun _ => 0) (fun x => if_pos hn), eB, eT]
    refine rmake13_noughts ao I.length c (atB I 0) w h1 h2 (fun w' hb => ?_) N1
    obtain ⟨b, off, e1, e2⟩ := cells_of hI h1 w' hb
    exact ⟨b, off, e1, e2 0 (by omega)⟩

/-- The reference's Make, where there is no mirror. -/
theorem rmake13_no (ao : Option Addr) (c : Nat) (I : List Int) (w : World) (hI : BitsAt w ao c I) (h1 : 1 ≤ I.length) (h2 : I.length ≤ 64) (hk : mrK (toN I) = false) :
    Calls Tryz.prog 10 #[.slice ao I.length c] w fun e w' => e = .returned (.tuple #[.agg #[.slice none 0 0, .int .u64 0, .int .u64 0], .bool false]) ∧ Below w.heap.size w w' := by
  obtain ⟨_, _, eK⟩ := mk_facts h1
  have N1 := fun w' (hb : Below w.heap.size w w') => rnoughts13_any ao c I w' (hI.below hb) h2
  rw [hk] at eK
  obtain ⟨hn, hf⟩ := Bool.or_eq_false_iff.1 eK.symm
  rw [hn] at N1
  have la := hI.lt 0
  have lB := hmB_lt (atB I 0) ((toN I).drop 1)
  have lD := hmD_lt (atB I 0) ((toN I).drop 1) la
  refine rmake13_bad ao I.length c (nrV (toN I)) (fN (nrV (toN I))) (hmB (atB I 0) ((toN I).drop 1)) (hmD (atB I 0) ((toN I).drop 1)) (ldS (toN I)) (fFin (hmB (atB I 0) ((toN I).drop 1))) (fFin (hmD (atB I 0) ((toN I).drop 1))) (fun j => atB I j) w h1 h2 ?_ (cells_of hI h1) N1 (fun w' hb => ?_) (fun w' hb => rlead13_any ao c I w' (hI.below hb) h2 (ngt_all h1 hn)) (fun w' p hs => ?_) (fun w' => rminus4_any _ w' (nrV_lt _)) ?_ (fun w' => r9sub_any _ _ w' la lB) (fun w' => rfinite_any _ w' lB) (fun w' => rfinite_any _ w' lD)
  · cases g1 : fFin (hmB (atB I 0) ((toN I).drop 1))
    · exact .inl rfl
    · cases g2 : fFin (hmD (atB I 0) ((toN I).drop 1))
      · exact .inr ⟨rfl, rfl⟩
      · rw [g1, g2] at hf; cases hf
  · have := r9norm_any ao c I w' (hI.below hb) (by omega)
    rwa [nmV_nrV] at this
  · have := rneg4_any (atB I p) w' (hI.lt p)
    rwa [hs] at this
  · have e : hmB (atB I 0) ((toN I).drop 1) = if ldS (toN I) = true then nrV (toN I) else fN (nrV (toN I)) := by
      unfold hmB
      rw [← toN_cons h1]
    rw [e]
    cases hl : ldS (toN I)
    · exact .inr ⟨rfl, rfl⟩
    · exact .inl ⟨rfl, rfl⟩

end Go.Proofs.YtimejpbmehegeaaGreatDoor

/- Package house: Make, by letters (mkhy.py). -/
namespace Go.Proofs.YtimejpbmehegeaaGreatDoor
open Go.RowKit
attribute [local go_sem ↓] Go.wp_at_zero Go.wp_at_succ

set_option maxRecDepth 20000 in
set_option maxHeartbeats 4000000 in
theorem hmake_shape (ao : Option Addr) (n c : Nat) (w : World) (h : n = 0 ∨ 64 < n) :
    Calls Tryz.prog 8 #[.slice ao n c] w fun e w' => e = .returned (.tuple #[.slice none 0 0, .int .u64 0, .int .u64 0, .int .i64 3]) ∧ Below w.heap.size w w' := by
  rcases h with rfl | h
  · go_enter Tryz.func8, Tryz.ntmps8
    go_wp2
    exact bodyPost_ret (v := .tuple #[.slice none 0 0, .int .u64 0, .int .u64 0, .int .i64 3]) (by simp [results, Tryz.results8, go_sem]) rfl ⟨rfl, Below.refl _ _⟩
  · have h1I : (64 : Int) < (n : Int) := by omega
    have h2I : ¬ (n : Int) = 0 := by omega
    have e0 : ((n : Int) == 0) = false := by rw [beq_eq_false_iff_ne]; exact h2I
    go_enter Tryz.func8, Tryz.ntmps8
    go_wp2
    exact bodyPost_ret (v := .tuple #[.slice none 0 0, .int .u64 0, .int .u64 0, .int .i64 3]) (by simp [results, Tryz.results8, go_sem]) rfl ⟨rfl, Below.refl _ _⟩

set_option maxRecDepth 20000 in
set_option maxHeartbeats 4000000 in
theorem hmake_inf (ao : Option Addr) (n c : Nat) (w : World) (h1 : 1 ≤ n) (h2 : n ≤ 64)
    (C1 : Calls Tryz.prog 40 #[.slice ao n c] w fun e w'' => e = .returned (.bool false) ∧ Below w.heap.size w w'') :
    Calls Tryz.prog 8 #[.slice ao n c] w fun e w' => e = .returned (.tuple #[.slice none 0 0, .int .u64 0, .int .u64 0, .int .i64 4]) ∧ Below w.heap.size w w' := by
  have K1 := hide C1
  have h1I : (n : Int) ≤ 64 := by omega
  have h2I : ¬ (n : Int) = 0 := by omega
  have e0 : ((n : Int) == 0) = false := by rw [beq_eq_false_iff_ne]; exact h2I
  clear C1
  go_enter Tryz.func8, Tryz.ntmps8
  go_wp2_with fail
  refine Calls.mono (unhide K1) ?_
  rintro e w1 ⟨rfl, hb1⟩
  clear K1
  go_wp2
  exact bodyPost_ret (v := .tuple #[.slice none 0 0, .int .u64 0, .int .u64 0, .int .i64 4]) (by simp [results, Tryz.results8, go_sem]) rfl ⟨rfl, hb1⟩

/-- One number in a box of its own. -/
theorem box_new13 (w : World) (d : Nat) : (w.alloc (.cells #[.int .u64 (d : Nat)] 24)).cell? ⟨w.heap.size, 0, none⟩ = some (.int .u64 (d : Nat)) := by
  rw [cell_of_row _ w.heap.size 0 _ _ _ (heap_alloc_new w (.cells #[.int .u64 (d : Nat)] 24))]
  rfl
/-- A number in its box, and two in a row. -/
theorem box_two13 (w : World) (bt d : Nat) (hbt : bt < 18446744073709551616) (hd : d < 18446744073709551616) :
    BitsAt ((w.alloc (.cells #[.int .u64 (d : Nat)] 24)).alloc (.cells #[.int .u64 (bt : Nat), .int .u64 (d : Nat)] 24)) (some ⟨w.heap.size + 1, 0, none⟩) 2 [(bt : Int), (d : Int)] ∧ Below w.heap.size w ((w.alloc (.cells #[.int .u64 (d : Nat)] 24)).alloc (.cells #[.int .u64 (bt : Nat), .int .u64 (d : Nat)] 24)) ∧ ((w.alloc (.cells #[.int .u64 (d : Nat)] 24)).alloc (.cells #[.int .u64 (bt : Nat), .int .u64 (d : Nat)] 24)).cell? ⟨w.heap.size, 0, none⟩ = some (.int .u64 (d : Nat)) := by
  have h1 := two_bits (w.alloc (.cells #[.int .u64 (d : Nat)] 24)) bt d hbt hd
  rw [size_alloc9] at h1
  have b1 := below_alloc9 w (.cells #[.int .u64 (d : Nat)] 24)
  have b2 := below_alloc9 (w.alloc (.cells #[.int .u64 (d : Nat)] 24)) (.cells #[.int .u64 (bt : Nat), .int .u64 (d : Nat)] 24)
  exact ⟨h1, b1.trans (b2.mono b1.size), cell_keep (box_new13 w d) b2⟩

set_option maxRecDepth 20000 in
set_option maxHeartbeats 4000000 in
theorem hmake_flat1 (b off c a : Nat) (w : World) (hc : 1 ≤ c)
    (hx : w.cell? ⟨b, off, none⟩ = some (.int .u64 (a : Nat)))
    (C1 : Calls Tryz.prog 40 #[.slice (some ⟨b, off, none⟩) 1 c] w fun e w'' => e = .returned (.bool true) ∧ Below w.heap.size w w'')
    (C2 : ∀ w', Below w.heap.size w w' → Calls Tryz.prog 41 #[.slice (some ⟨b, off, none⟩) 0 0] w' fun e w'' => e = .returned (.int .u64 (0 : Nat)) ∧ Below w'.heap.size w' w'')
    (S : List Nat)
    (C3 : ∀ w', Below w.heap.size w w' → Calls Tryz.prog 42 #[.slice (some ⟨b, off, none⟩) 0 0, .func (.func 43) #[] #[]] w' fun e w'' => ∃ vo vc, e = .returned (.slice vo 1 vc) ∧ NewB w'.heap.size vo (mxL S) ∧ BitsAt w'' vo vc (mxL S) ∧ Below w'.heap.size w' w'') :
    Calls Tryz.prog 8 #[.slice (some ⟨b, off, none⟩) 1 c] w fun e w' => ∃ vo vc, e = .returned (.tuple #[.slice vo 1 vc, .int .u64 0, .int .u64 (a : Nat), .int .i64 0]) ∧ NewB w.heap.size vo (mxL S) ∧ BitsAt w' vo vc (mxL S) ∧ Below w.heap.size w w' := by
  have K1 := hide C1; have K2 := hide C2; have K3 := hide C3
  have h4I : (1 : Int) ≤ (c : Int) := by omega
  clear C1 C2 C3
  go_enter Tryz.func8, Tryz.ntmps8
  go_wp2_with fail
  refine Calls.mono (unhide K1) ?_
  rintro e w1 ⟨rfl, hb1⟩
  have c0 := cell_keep hx hb1
  have B1 := hide hb1
  clear K1 hx hb1
  go_wp2_with fail
  go_quiet (fail)
  clear c0
  go_wp2_with fail
  have B2 := hide (below_drewN (unhide B1) nq)
  clear B1
  refine (unhide K2 _ (unhide B2)).mono ?_
  rintro e w2 ⟨rfl, hb2⟩
  have B3 := hide ((unhide B2).trans (hb2.mono (unhide B2).size))
  clear K2 B2 hb2
  go_wp2_with fail
  refine (unhide K3 _ (unhide B3)).mono ?_
  rintro e w3 ⟨vo, vc, rfl, hn, hs, hb3⟩
  have B4 := hide ((unhide B3).trans (hb3.mono (unhide B3).size))
  have HN := hide (NewB.least hn (unhide B3).size)
  have HS := hide hs
  clear K3 B3 hb3 hn hs
  go_wp2
  exact bodyPost_ret (v := .tuple #[.slice vo 1 vc, .int .u64 0, .int .u64 (a : Nat), .int .i64 0]) (by simp [results, Tryz.results8, go_sem]) rfl ⟨vo, vc, rfl, unhide HN, unhide HS, unhide B4⟩

set_option maxRecDepth 20000 in
set_option maxHeartbeats 4000000 in
theorem hmake_flat (b off n c a : Nat) (w : World) (h1 : 2 ≤ n) (h2 : n ≤ 64) (hc : n ≤ c)
    (hx : w.cell? ⟨b, off, none⟩ = some (.int .u64 (a : Nat)))
    (C1 : Calls Tryz.prog 40 #[.slice (some ⟨b, off, none⟩) n c] w fun e w'' => e = .returned (.bool true) ∧ Below w.heap.size w w'')
    (C2 : ∀ w', Below w.heap.size w w' → Calls Tryz.prog 41 #[.slice (some ⟨b, off + 1, none⟩) (n - 1) (n - 1)] w' fun e w'' => e = .returned (.int .u64 (0 : Nat)) ∧ Below w'.heap.size w' w'')
    (S : List Nat)
    (C3 : ∀ w', Below w.heap.size w w' → Calls Tryz.prog 42 #[.slice (some ⟨b, off + 1, none⟩) (n - 1) (n - 1), .func (.func 43) #[] #[]] w' fun e w'' => ∃ vo vc, e = .returned (.slice vo n vc) ∧ NewB w'.heap.size vo (mxL S) ∧ BitsAt w'' vo vc (mxL S) ∧ Below w'.heap.size w' w'') :
    Calls Tryz.prog 8 #[.slice (some ⟨b, off, none⟩) n c] w fun e w' => ∃ vo vc, e = .returned (.tuple #[.slice vo n vc, .int .u64 0, .int .u64 (a : Nat), .int .i64 0]) ∧ NewB w.heap.size vo (mxL S) ∧ BitsAt w' vo vc (mxL S) ∧ Below w.heap.size w w' := by
  have K1 := hide C1; have K2 := hide C2; have K3 := hide C3
  have h1I : (n : Int) ≤ 64 := by omega
  have h3I : (2 : Int) ≤ (n : Int) := by omega
  have h4I : (n : Int) ≤ (c : Int) := by omega
  have h2I : ¬ (n : Int) = 0 := by omega
  have e0 : ((n : Int) == 0) = false := by rw [beq_eq_false_iff_ne]; exact h2I
  have e1 : decide ((64 : Int) < (n : Int)) = false := decide_eq_false (by omega)
  clear C1 C2 C3
  go_enter Tryz.func8, Tryz.ntmps8
  go_wp2_with fail
  refine Calls.mono (unhide K1) ?_
  rintro e w1 ⟨rfl, hb1⟩
  have c0 := cell_keep hx hb1
  have B1 := hide hb1
  clear K1 hx hb1
  go_wp2_with fail
  go_quiet (fail)
  clear c0
  go_wp2_with fail
  have B2 := hide (below_drewN (unhide B1) nq)
  clear B1
  refine (unhide K2 _ (unhide B2)).mono ?_
  rintro e w2 ⟨rfl, hb2⟩
  have B3 := hide ((unhide B2).trans (hb2.mono (unhide B2).size))
  clear K2 B2 hb2
  go_wp2_with fail
  refine (unhide K3 _ (unhide B3)).mono ?_
  rintro e w3 ⟨vo, vc, rfl, hn, hs, hb3⟩
  have B4 := hide ((unhide B3).trans (hb3.mono (unhide B3).size))
  have HN := hide (NewB.least hn (unhide B3).size)
  have HS := hide hs
  clear K3 B3 hb3 hn hs
  go_wp2
  exact bodyPost_ret (v := .tuple #[.slice vo n vc, .int .u64 0, .int .u64 (a : Nat), .int .i64 0]) (by simp [results, Tryz.results8, go_sem]) rfl ⟨vo, vc, rfl, unhide HN, unhide HS, unhide B4⟩

set_option maxRecDepth 20000 in
set_option maxHeartbeats 4000000 in
theorem hmake_range (b off n c a m bt d : Nat) (w : World) (h1 : 2 ≤ n) (h2 : n ≤ 64) (hc : n ≤ c) (hm : ¬ m = 0) (hbt : bt < 18446744073709551616) (hd : d < 18446744073709551616)
    (hx : w.cell? ⟨b, off, none⟩ = some (.int .u64 (a : Nat)))
    (C1 : Calls Tryz.prog 40 #[.slice (some ⟨b, off, none⟩) n c] w fun e w'' => e = .returned (.bool true) ∧ Below w.heap.size w w'')
    (C2 : ∀ w', Below w.heap.size w w' → Calls Tryz.prog 41 #[.slice (some ⟨b, off + 1, none⟩) (n - 1) (n - 1)] w' fun e w'' => e = .returned (.int .u64 (m : Nat)) ∧ Below w'.heap.size w' w'')
    (C4 : ∀ w', Below w.heap.size w w' → Calls Tryz.prog 44 #[.slice (some ⟨b, off, none⟩) n c] w' fun e w'' => e = .returned (.int .u64 (bt : Nat)) ∧ Below w'.heap.size w' w'')
    (C5 : ∀ w', Below w.heap.size w w' → Calls Tryz.prog 45 #[.int .u64 a, .int .u64 bt] w' fun e w'' => e = .returned (.int .u64 (d : Nat)) ∧ Below w'.heap.size w' w'')
    (C6 : ∀ w' ao, Below w.heap.size w w' → BitsAt w' ao 2 [(bt : Int), (d : Int)] → Calls Tryz.prog 40 #[.slice ao 2 2] w' fun e w'' => e = .returned (.bool false) ∧ Below w'.heap.size w' w'') :
    Calls Tryz.prog 8 #[.slice (some ⟨b, off, none⟩) n c] w fun e w' => e = .returned (.tuple #[.slice none 0 0, .int .u64 0, .int .u64 0, .int .i64 2]) ∧ Below w.heap.size w w' := by
  have K1 := hide C1; have K2 := hide C2; have K4 := hide C4; have K5 := hide C5; have K6 := hide C6
  have h1I : (n : Int) ≤ 64 := by omega
  have h3I : (2 : Int) ≤ (n : Int) := by omega
  have h4I : (n : Int) ≤ (c : Int) := by omega
  have h2I : ¬ (n : Int) = 0 := by omega
  have e0 : ((n : Int) == 0) = false := by rw [beq_eq_false_iff_ne]; exact h2I
  have e1 : decide ((64 : Int) < (n : Int)) = false := decide_eq_false (by omega)
  have em : ((m : Int) == 0) = false := by rw [beq_eq_false_iff_ne]; omega
  have HBT := hide hbt; have HD := hide hd
  clear hbt hd
  clear C1 C2 C4 C5 C6
  go_enter Tryz.func8, Tryz.ntmps8
  go_wp2_with fail
  refine Calls.mono (unhide K1) ?_
  rintro e w1 ⟨rfl, hb1⟩
  have c0 := cell_keep hx hb1
  have B1 := hide hb1
  clear K1 hx hb1
  go_wp2_with fail
  go_quiet (fail)
  clear c0
  go_wp2_with fail
  have B2 := hide (below_drewN (unhide B1) nq)
  clear B1
  refine (unhide K2 _ (unhide B2)).mono ?_
  rintro e w2 ⟨rfl, hb2⟩
  have B3 := hide ((unhide B2).trans (hb2.mono (unhide B2).size))
  clear K2 B2 hb2
  go_wp2_with fail
  refine (unhide K4 _ (unhide B3)).mono ?_
  rintro e w3 ⟨rfl, hb3⟩
  have B4 := hide ((unhide B3).trans (hb3.mono (unhide B3).size))
  clear K4 B3 hb3
  go_wp2_with fail
  refine (unhide K5 _ (unhide B4)).mono ?_
  rintro e w4 ⟨rfl, hb3⟩
  have B5 := hide ((unhide B4).trans (hb3.mono (unhide B4).size))
  clear K5 B4 hb3
  go_wp2_with fail
  obtain ⟨hb1, hb2, hb3⟩ := box_two13 w4 bt d (unhide HBT) (unhide HD)
  have B6 := hide ((unhide B5).trans (hb2.mono (unhide B5).size))
  have CB := hide hb3
  refine (unhide K6 _ _ (unhide B6) hb1).mono ?_
  clear hb1 hb2 hb3
  rintro e w5 ⟨rfl, hb3⟩
  have B7 := hide ((unhide B6).trans (hb3.mono (unhide B6).size))
  have CD := hide (cell_keep (unhide CB) hb3)
  clear K6 B5 B6 CB hb3 HBT HD
  go_wp2
  exact bodyPost_ret (v := .tuple #[.slice none 0 0, .int .u64 0, .int .u64 0, .int .i64 2]) (by simp [results, Tryz.results8, go_sem]) rfl ⟨rfl, unhide B7⟩

set_option maxRecDepth 20000 in
set_option maxHeartbeats 4000000 in
theorem hmake_ok (b off n c a m bt d u t : Nat) (w : World) (h1 : 2 ≤ n) (h2 : n ≤ 64) (hc : n ≤ c) (hm : ¬ m = 0) (hbt : bt < 18446744073709551616) (hd : d < 18446744073709551616)
    (hx : w.cell? ⟨b, off, none⟩ = some (.int .u64 (a : Nat)))
    (C1 : Calls Tryz.prog 40 #[.slice (some ⟨b, off, none⟩) n c] w fun e w'' => e = .returned (.bool true) ∧ Below w.heap.size w w'')
    (C2 : ∀ w', Below w.heap.size w w' → Calls Tryz.prog 41 #[.slice (some ⟨b, off + 1, none⟩) (n - 1) (n - 1)] w' fun e w'' => e = .returned (.int .u64 (m : Nat)) ∧ Below w'.heap.size w' w'')
    (C4 : ∀ w', Below w.heap.size w w' → Calls Tryz.prog 44 #[.slice (some ⟨b, off, none⟩) n c] w' fun e w'' => e = .returned (.int .u64 (bt : Nat)) ∧ Below w'.heap.size w' w'')
    (C5 : ∀ w', Below w.heap.size w w' → Calls Tryz.prog 45 #[.int .u64 a, .int .u64 bt] w' fun e w'' => e = .returned (.int .u64 (d : Nat)) ∧ Below w'.heap.size w' w'')
    (C6 : ∀ w' ao, Below w.heap.size w w' → BitsAt w' ao 2 [(bt : Int), (d : Int)] → Calls Tryz.prog 40 #[.slice ao 2 2] w' fun e w'' => e = .returned (.bool true) ∧ Below w'.heap.size w' w'')
    (S : List Nat)
    (C7 : ∀ w' g, Below w.heap.size w w' → w'.cell? ⟨g, 0, none⟩ = some (.int .u64 (d : Nat)) → Calls Tryz.prog 42 #[.slice (some ⟨b, off + 1, none⟩) (n - 1) (n - 1), .func (.func 46) #[] #[.pointer (some ⟨g, 0, none⟩)]] w' fun e w'' => ∃ vo vc, e = .returned (.slice vo n vc) ∧ NewB w'.heap.size vo (mxL S) ∧ BitsAt w'' vo vc (mxL S) ∧ Below w'.heap.size w' w'')
    (C8 : ∀ w', Below w.heap.size w w' → Calls Tryz.prog 45 #[.int .u64 bt, .int .u64 a] w' fun e w'' => e = .returned (.int .u64 (u : Nat)) ∧ Below w'.heap.size w' w'')
    (C9 : ∀ w', Below w.heap.size w w' → Calls Tryz.prog 47 #[.int .u64 u, .int .u64 bt] w' fun e w'' => e = .returned (.int .u64 (t : Nat)) ∧ Below w'.heap.size w' w'') :
    Calls Tryz.prog 8 #[.slice (some ⟨b, off, none⟩) n c] w fun e w' => ∃ vo vc, e = .returned (.tuple #[.slice vo n vc, .int .u64 (t : Nat), .int .u64 (bt : Nat), .int .i64 0]) ∧ NewB w.heap.size vo (mxL S) ∧ BitsAt w' vo vc (mxL S) ∧ Below w.heap.size w w' := by
  have K1 := hide C1; have K2 := hide C2; have K4 := hide C4; have K5 := hide C5; have K6 := hide C6; have K7 := hide C7; have K8 := hide C8; have K9 := hide C9
  have h1I : (n : Int) ≤ 64 := by omega
  have h3I : (2 : Int) ≤ (n : Int) := by omega
  have h4I : (n : Int) ≤ (c : Int) := by omega
  have h2I : ¬ (n : Int) = 0 := by omega
  have e0 : ((n : Int) == 0) = false := by rw [beq_eq_false_iff_ne]; exact h2I
  have e1 : decide ((64 : Int) < (n : Int)) = false := decide_eq_false (by omega)
  have em : ((m : Int) == 0) = false := by rw [beq_eq_false_iff_ne]; omega
  have HBT := hide hbt; have HD := hide hd
  clear hbt hd
  clear C1 C2 C4 C5 C6 C7 C8 C9
  go_enter Tryz.func8, Tryz.ntmps8
  go_wp2_with fail
  refine Calls.mono (unhide K1) ?_
  rintro e w1 ⟨rfl, hb1⟩
  have c0 := cell_keep hx hb1
  have B1 := hide hb1
  clear K1 hx hb1
  go_wp2_with fail
  go_quiet (fail)
  clear c0
  go_wp2_with fail
  have B2 := hide (below_drewN (unhide B1) nq)
  clear B1
  refine (unhide K2 _ (unhide B2)).mono ?_
  rintro e w2 ⟨rfl, hb2⟩
  have B3 := hide ((unhide B2).trans (hb2.mono (unhide B2).size))
  clear K2 B2 hb2
  go_wp2_with fail
  refine (unhide K4 _ (unhide B3)).mono ?_
  rintro e w3 ⟨rfl, hb3⟩
  have B4 := hide ((unhide B3).trans (hb3.mono (unhide B3).size))
  clear K4 B3 hb3
  go_wp2_with fail
  refine (unhide K5 _ (unhide B4)).mono ?_
  rintro e w4 ⟨rfl, hb3⟩
  have B5 := hide ((unhide B4).trans (hb3.mono (unhide B4).size))
  clear K5 B4 hb3
  go_wp2_with fail
  obtain ⟨hb1, hb2, hb3⟩ := box_two13 w4 bt d (unhide HBT) (unhide HD)
  have B6 := hide ((unhide B5).trans (hb2.mono (unhide B5).size))
  have CB := hide hb3
  refine (unhide K6 _ _ (unhide B6) hb1).mono ?_
  clear hb1 hb2 hb3
  rintro e w5 ⟨rfl, hb3⟩
  have B7 := hide ((unhide B6).trans (hb3.mono (unhide B6).size))
  have CD := hide (cell_keep (unhide CB) hb3)
  clear K6 B5 B6 CB hb3 HBT HD
  go_wp2_with fail
  refine (unhide K7 _ _ (unhide B7) (unhide CD)).mono ?_
  rintro e w6 ⟨vo, vc, rfl, hn, hs, hb3⟩
  have B8 := hide ((unhide B7).trans (hb3.mono (unhide B7).size))
  have HN := hide (NewB.least hn (unhide B7).size)
  have HS := hide hs
  clear K7 B7 hb3 hn hs CD
  go_wp2_with fail
  refine (unhide K8 _ (unhide B8)).mono ?_
  rintro e w7 ⟨rfl, hb3⟩
  have B9 := hide ((unhide B8).trans (hb3.mono (unhide B8).size))
  replace HS := hide ((unhide HS).below hb3)
  clear K8 B8 hb3
  go_wp2_with fail
  refine (unhide K9 _ (unhide B9)).mono ?_
  rintro e w8 ⟨rfl, hb3⟩
  have BA := hide ((unhide B9).trans (hb3.mono (unhide B9).size))
  replace HS := hide ((unhide HS).below hb3)
  clear K9 B9 hb3
  go_wp2
  exact bodyPost_ret (v := .tuple #[.slice vo n vc, .int .u64 (t : Nat), .int .u64 (bt : Nat), .int .i64 0]) (by simp [results, Tryz.results8, go_sem]) rfl ⟨vo, vc, rfl, unhide HN, unhide HS, unhide BA⟩

end Go.Proofs.YtimejpbmehegeaaGreatDoor

/- Package house: what Make answers. -/
namespace Go.Proofs.YtimejpbmehegeaaGreatDoor
open Go.RowKit

/-- The greatest is nought where all are noughts. -/
theorem bg_ngt {xs : List Nat} (h : ∀ x ∈ xs, fFin x = true) : bgF 0 xs = 0 ↔ ngt xs = true := by
  obtain ⟨g1, g2, g3, g4⟩ := bgF_fin xs 0 (by decide) h
  constructor
  · intro h0
    exact List.all_eq_true.2 (fun x hx => decide_eq_true ((fK_zero x).2 (by have := g3 x hx; omega)))
  · intro hn
    rcases g4 with g4 | ⟨x, hx, g4⟩
    · exact g4
    · rw [← g4]
      exact (fK_zero x).1 (ngt_true hn x hx)

theorem toN_drop (I : List Int) (k : Nat) : toN (I.drop k) = (toN I).drop k := by
  unfold toN
  rw [List.map_drop]
/-- What lies behind the first number. -/
theorem bits_rest {w : World} {b off c : Nat} {I : List Int} (h : BitsAt w (some ⟨b, off, none⟩) c I) (h1 : 2 ≤ I.length) : BitsAt w (some ⟨b, off + 1, none⟩) (I.length - 1) (I.drop 1) := by
  obtain ⟨b', off', e, hb, hc⟩ := h.ne (by omega)
  simp only [Option.some.injEq, Addr.mk.injEq] at e
  obtain ⟨rfl, rfl, _⟩ := e
  refine ⟨by rw [List.length_drop]; omega, fun x hx => h.2.1 x (List.mem_of_mem_drop hx), .inr ⟨b, off + 1, rfl, hb, fun i hi => ?_⟩⟩
  have hi' : 1 + i < I.length := by rw [List.length_drop] at hi; omega
  have e2 := hc (1 + i) hi'
  rw [List.getElem?_drop, show off + 1 + i = off + (1 + i) by omega, e2, (h.wf (1 + i)).1]
theorem atB_drop (I : List Int) (j : Nat) : atB (I.drop 1) j = atB I (j + 1) := by
  unfold atB
  rw [List.getElem?_drop, Nat.add_comm 1 j]
theorem fin_rest {I : List Int} (h : fnK I I.length = true) : ∀ x ∈ (toN I).drop 1, fFin x = true := fun x hx => toN_all I (fun x => fFin x = true) ((fnK_all _).1 h) x (List.mem_of_mem_drop hx)

theorem hMake_flat (ao : Option Addr) (c : Nat) (I : List Int) (w : World) (hI : BitsAt w ao c I) (h1 : 1 ≤ I.length) (h2 : I.length ≤ 64) (hf : fnK I I.length = true) (hn : ngt ((toN I).drop 1) = true) :
    Calls Tryz.prog 8 #[.slice ao I.length c] w fun e w' => ∃ vo vc, e = .returned (.tuple #[.slice vo I.length vc, .int .u64 0, .int .u64 (atB I 0 : Nat), .int .i64 0]) ∧ NewB w.heap.size vo (mxL (mkJ (fun _ => 0) I.length)) ∧ BitsAt w' vo vc (mxL (mkJ (fun _ => 0) I.length)) ∧ Below w.heap.size w w' := by
  obtain ⟨b, off, rfl, hb, hc⟩ := hI.ne (by omega)
  have c0 := hc 0 (by omega)
  have C1 := vFinite_any _ c I w hI (by omega)
  rw [hf] at C1
  have cf : ∀ args w, (callFunc 43 args).run Tryz.prog w = .ok (.enter 43 args) w := fun _ _ => by kernel_rfl
  have hle := hI.1
  rcases Nat.lt_or_ge 1 I.length with g | g
  · have R := fun w' (h : Below w.heap.size w w') => bits_rest (hI.below h) g
    have e : ((I.drop 1).length : Nat) = I.length - 1 := by rw [List.length_drop]
    refine hmake_flat b off I.length c (atB I 0) w g h2 hle c0 C1 (fun w' h => ?_) (mkJ (fun _ => 0) I.length) (fun w' h => ?_)
    · have B := vBiggest_any _ _ (I.drop 1) w' (R w' h) (by omega)
      rw [bgK_all, toN_drop, (bg_ngt (fin_rest hf)).2 hn, e] at B
      exact B
    · have O := oneAnd_any 43 #[] _ _ (I.drop 1) (fun _ => 0) w' cf (R w' h) (by omega) (fun _ _ => by show 0 < 18446744073709551616; decide) (fun w'' k _ _ => hmake1_any _ w'')
      rw [e, show I.length - 1 + 1 = I.length by omega] at O
      exact O
  · have e1 : I.length = 1 := by omega
    rw [e1] at hle C1 ⊢
    refine hmake_flat1 b off c (atB I 0) w hle c0 C1 (fun w' h => vBiggest_any _ _ [] w' (BitsAt.nilAt _ _ _) (by simp)) (mkJ (fun _ => 0) 1) (fun w' h => ?_)
    exact oneAnd_any 43 #[] _ _ [] (fun _ => 0) w' cf (BitsAt.nilAt _ _ _) (by simp) (fun _ _ => by show 0 < 18446744073709551616; decide) (fun w'' k _ _ => hmake1_any _ w'')

theorem ngt_two {I : List Int} (hn : ngt ((toN I).drop 1) = false) : 2 ≤ I.length := by
  rcases Nat.lt_or_ge I.length 2 with g | g
  · rw [List.drop_eq_nil_of_le (by rw [toN_len]; omega)] at hn
    cases hn
  · exact g

theorem hMake_no (ao : Option Addr) (c : Nat) (I : List Int) (w : World) (hI : BitsAt w ao c I) (h2 : I.length ≤ 64) (hf : fnK I I.length = true) (hn : ngt ((toN I).drop 1) = false) (hk : (fFin (hmB (atB I 0) ((toN I).drop 1)) && fFin (hmD (atB I 0) ((toN I).drop 1))) = false) (hT : Tab w) :
    Calls Tryz.prog 8 #[.slice ao I.length c] w fun e w' => e = .returned (.tuple #[.slice none 0 0, .int .u64 0, .int .u64 0, .int .i64 2]) ∧ Below w.heap.size w w' := by
  have g := ngt_two hn
  obtain ⟨b, off, rfl, hb, hc⟩ := hI.ne (by omega)
  have c0 := hc 0 (by omega)
  have C1 := vFinite_any _ c I w hI (by omega)
  rw [hf] at C1
  have R := fun w' (h : Below w.heap.size w w') => bits_rest (hI.below h) g
  have e : ((I.drop 1).length : Nat) = I.length - 1 := by rw [List.length_drop]
  have ha := hI.lt 0
  have eB : (if ldS (toN I) = true then nrV (toN I) else fN (nrV (toN I))) = hmB (atB I 0) ((toN I).drop 1) := by
    unfold hmB
    rw [← toN_cons (by omega)]
  refine hmake_range b off I.length c (atB I 0) (bgF 0 ((toN I).drop 1)) (hmB (atB I 0) ((toN I).drop 1)) (hmD (atB I 0) ((toN I).drop 1)) w g h2 hI.1 (fun h0 => by rw [(bg_ngt (fin_rest hf)).1 h0] at hn; cases hn) (hmB_lt _ _) (hmD_lt _ _ ha) c0 C1 (fun w' h => ?_) (fun w' h => ?_) (fun w' h => psub_any _ _ w' ha (hmB_lt _ _) (hT.all h)) (fun w' ao h h2 => ?_)
  · have B := vBiggest_any _ _ (I.drop 1) w' (R w' h) (by omega)
    rw [bgK_all, toN_drop, e] at B
    exact B
  · have B := hbeta_any _ c I w' (hI.below h) h2 (hT.all h)
    rw [eB] at B
    exact B
  · have F := vFinite_any ao 2 _ w' h2 (by simp)
    rw [show fnK [((hmB (atB I 0) ((toN I).drop 1) : Nat) : Int), ((hmD (atB I 0) ((toN I).drop 1) : Nat) : Int)] [((hmB (atB I 0) ((toN I).drop 1) : Nat) : Int), ((hmD (atB I 0) ((toN I).drop 1) : Nat) : Int)].length = false from (show fnK [((hmB (atB I 0) ((toN I).drop 1) : Nat) : Int), ((hmD (atB I 0) ((toN I).drop 1) : Nat) : Int)] 2 = _ from by show ((true && fFin (hmB (atB I 0) ((toN I).drop 1))) && fFin (hmD (atB I 0) ((toN I).drop 1))) = _; rw [Bool.true_and, hk])] at F
    exact F

theorem hMake_yes (ao : Option Addr) (c : Nat) (I : List Int) (w : World) (hI : BitsAt w ao c I) (h2 : I.length ≤ 64) (hf : fnK I I.length = true) (hn : ngt ((toN I).drop 1) = false) (hk : (fFin (hmB (atB I 0) ((toN I).drop 1)) && fFin (hmD (atB I 0) ((toN I).drop 1))) = true) (hT : Tab w) :
    Calls Tryz.prog 8 #[.slice ao I.length c] w fun e w' => ∃ vo vc, e = .returned (.tuple #[.slice vo I.length vc, .int .u64 (dV (aV (hmB (atB I 0) ((toN I).drop 1)) (fN (atB I 0))) (hmB (atB I 0) ((toN I).drop 1)) : Nat), .int .u64 (hmB (atB I 0) ((toN I).drop 1) : Nat), .int .i64 0]) ∧ NewB w.heap.size vo (mxL (mkJ (fun j => dV (atB I (j + 1)) (hmD (atB I 0) ((toN I).drop 1))) I.length)) ∧ BitsAt w' vo vc (mxL (mkJ (fun j => dV (atB I (j + 1)) (hmD (atB I 0) ((toN I).drop 1))) I.length)) ∧ Below w.heap.size w w' := by
  have g := ngt_two hn
  obtain ⟨b, off, rfl, hb, hc⟩ := hI.ne (by omega)
  have c0 := hc 0 (by omega)
  have C1 := vFinite_any _ c I w hI (by omega)
  rw [hf] at C1
  have R := fun w' (h : Below w.heap.size w w') => bits_rest (hI.below h) g
  have e : ((I.drop 1).length : Nat) = I.length - 1 := by rw [List.length_drop]
  have ha := hI.lt 0
  have eB : (if ldS (toN I) = true then nrV (toN I) else fN (nrV (toN I))) = hmB (atB I 0) ((toN I).drop 1) := by
    unfold hmB
    rw [← toN_cons (by omega)]
  have cf : ∀ args w, (callFunc 46 args).run Tryz.prog w = .ok (.enter 46 args) w := fun _ _ => by kernel_rfl
  refine hmake_ok b off I.length c (atB I 0) (bgF 0 ((toN I).drop 1)) (hmB (atB I 0) ((toN I).drop 1)) (hmD (atB I 0) ((toN I).drop 1)) (aV (hmB (atB I 0) ((toN I).drop 1)) (fN (atB I 0))) _ w g h2 hI.1 (fun h0 => by rw [(bg_ngt (fin_rest hf)).1 h0] at hn; cases hn) (hmB_lt _ _) (hmD_lt _ _ ha) c0 C1 (fun w' h => ?_) (fun w' h => ?_) (fun w' h => psub_any _ _ w' ha (hmB_lt _ _) (hT.all h)) (fun w' ao h h2 => ?_) (mkJ (fun j => dV (atB I (j + 1)) (hmD (atB I 0) ((toN I).drop 1))) I.length) (fun w' gx h hg => ?_) (fun w' h => psub_any _ _ w' (hmB_lt _ _) ha (hT.all h)) (fun w' h => pdiv_any _ _ w' (aV_lt _ _ (hmB_lt _ _) (fN_lt _ ha)) (hmB_lt _ _) (hT.all h))
  · have B := vBiggest_any _ _ (I.drop 1) w' (R w' h) (by omega)
    rw [bgK_all, toN_drop, e] at B
    exact B
  · have B := hbeta_any _ c I w' (hI.below h) h2 (hT.all h)
    rw [eB] at B
    exact B
  · have F := vFinite_any ao 2 _ w' h2 (by simp)
    rw [show fnK [((hmB (atB I 0) ((toN I).drop 1) : Nat) : Int), ((hmD (atB I 0) ((toN I).drop 1) : Nat) : Int)] [((hmB (atB I 0) ((toN I).drop 1) : Nat) : Int), ((hmD (atB I 0) ((toN I).drop 1) : Nat) : Int)].length = true from (show fnK [((hmB (atB I 0) ((toN I).drop 1) : Nat) : Int), ((hmD (atB I 0) ((toN I).drop 1) : Nat) : Int)] 2 = _ from by show ((true && fFin (hmB (atB I 0) ((toN I).drop 1))) && fFin (hmD (atB I 0) ((toN I).drop 1))) = _; rw [Bool.true_and, hk])] at F
    exact F
  · have O := oneAnd_any 46 #[.pointer (some ⟨gx, 0, none⟩)] _ _ (I.drop 1) (fun j => dV (atB I (j + 1)) (hmD (atB I 0) ((toN I).drop 1))) w' cf (R w' h) (by omega) (fun _ _ => dV_lt _ _) (fun w'' k hb hk2 => by
      rw [atB_drop]
      exact hmake2_any _ _ gx w'' (hI.lt _) (hmD_lt _ _ ha) (cell_keep hg hb) ((hT.all h).all hb))
    rw [e, show I.length - 1 + 1 = I.length by omega] at O
    exact O

/-- What Make answers to numbers that have a mirror, and to such as have none. -/
theorem hMake_ok (ao : Option Addr) (c : Nat) (I : List Int) (w : World) (hI : BitsAt w ao c I) (h1 : 1 ≤ I.length) (h2 : I.length ≤ 64) (hf : fnK I I.length = true) (hk : mrK (toN I) = true) (hT : Tab w) :
    Calls Tryz.prog 8 #[.slice ao I.length c] w fun e w'' => ∃ vo vc, e = .returned (.tuple #[.slice vo I.length vc, .int .u64 (mrT (toN I) : Nat), .int .u64 (mrB (toN I) : Nat), .int .i64 0]) ∧ NewB w.heap.size vo (mxL (mrV (toN I))) ∧ BitsAt w'' vo vc (mxL (mrV (toN I))) ∧ Below w.heap.size w w'' := by
  obtain ⟨e1, e2, e3⟩ := mk_facts h1
  cases hn : ngt ((toN I).drop 1)
  · rw [hn, Bool.false_or] at e3
    rw [e3] at hk
    rw [e1, e2, hn, if_neg (by decide), if_neg (by decide), mr_mkJ h1 (fun x => dV x (hmD (atB I 0) ((toN I).drop 1))) (fun x => by rw [hn, if_neg (by decide)])]
    exact hMake_yes ao c I w hI h2 hf hn hk hT
  · rw [e1, e2, hn, if_pos rfl, if_pos rfl, mr_mkJ h1 (fun _ => 0) (fun x => by rw [hn, if_pos rfl])]
    exact hMake_flat ao c I w hI h1 h2 hf hn
theorem hMake_none (ao : Option Addr) (c : Nat) (I : List Int) (w : World) (hI : BitsAt w ao c I) (h1 : 1 ≤ I.length) (h2 : I.length ≤ 64) (hf : fnK I I.length = true) (hk : mrK (toN I) = false) (hT : Tab w) :
    Calls Tryz.prog 8 #[.slice ao I.length c] w fun e w'' => ∃ so cs, e = .returned (.tuple #[.slice so 0 cs, .int .u64 0, .int .u64 0, .int .i64 2]) ∧ Below w.heap.size w w'' := by
  obtain ⟨_, _, e3⟩ := mk_facts h1
  rw [hk] at e3
  have e3' := e3.symm
  rw [Bool.or_eq_false_iff] at e3'
  refine (hMake_no ao c I w hI h2 hf e3'.1 e3'.2 hT).mono ?_
  rintro e w' ⟨rfl, hb⟩
  exact ⟨_, _, rfl, hb⟩
theorem hMake_shape (ao : Option Addr) (c : Nat) (I : List Int) (w : World) (h : I.length = 0 ∨ 64 < I.length) :
    Calls Tryz.prog 8 #[.slice ao I.length c] w fun e w'' => ∃ so cs, e = .returned (.tuple #[.slice so 0 cs, .int .u64 0, .int .u64 0, .int .i64 3]) ∧ Below w.heap.size w w'' := by
  refine (hmake_shape ao I.length c w h).mono ?_
  rintro e w' ⟨rfl, hb⟩
  exact ⟨_, _, rfl, hb⟩
theorem hMake_inf (ao : Option Addr) (c : Nat) (I : List Int) (w : World) (hI : BitsAt w ao c I) (h1 : 1 ≤ I.length) (h2 : I.length ≤ 64) (hf : fnK I I.length = false) :
    Calls Tryz.prog 8 #[.slice ao I.length c] w fun e w'' => ∃ so cs, e = .returned (.tuple #[.slice so 0 cs, .int .u64 0, .int .u64 0, .int .i64 4]) ∧ Below w.heap.size w w'' := by
  have C1 := vFinite_any ao c I w hI (by omega)
  rw [hf] at C1
  refine (hmake_inf ao I.length c w h1 h2 C1).mono ?_
  rintro e w' ⟨rfl, hb⟩
  exact ⟨_, _, rfl, hb⟩

end Go.Proofs.YtimejpbmehegeaaGreatDoor

/- The law HouseMakes, walked (mkhu.py). -/
namespace Go.Proofs.YtimejpbmehegeaaGreatDoor
open Go.RowKit
attribute [local go_sem ↓] Go.wp_at_zero Go.wp_at_succ

/-- A list's copy spoiled, an answer beside it. -/
structure HwSt (w wr : World) (H : Nat) (po : Option Addr) (n : Nat) (so : Option Addr) (cs : Nat) (S : List Int) : Prop where
  bel : Below w.heap.size w wr
  p : CopyB w.heap.size H wr po n
  s : BitsAt wr so cs S
  ns : NewB H so S
theorem HwSt.put {w wr : World} {H : Nat} {po : Option Addr} {n : Nat} {so : Option Addr} {cs : Nat} {S : List Int} (h : HwSt w wr H po n so cs S) {g : Nat} (hg : w.heap.size ≤ g) (hH : g < H) (j : Nat) (z : Int) : HwSt w (wr.setCell ⟨g, j, none⟩ (.int .u64 z)) H po n so cs S :=
  ⟨h.bel.setCell (p := ⟨g, j, none⟩) hg _, h.p.set g j z, h.s.far h.ns hH j _, h.ns⟩
theorem HwSt.all {w wr w' : World} {H : Nat} {po : Option Addr} {n : Nat} {so : Option Addr} {cs : Nat} {S : List Int} (h : HwSt w wr H po n so cs S) (hb : Below wr.heap.size wr w') : HwSt w w' H po n so cs S :=
  ⟨h.bel.trans (hb.mono h.bel.size), h.p.below hb, h.s.below hb, h.ns⟩

theorem bits_oth3 {w : World} {ao : Option Addr} {c : Nat} {I : List Int} {g : Nat} (h : BitsAt w ao c I) (hp : I = [] ∨ ∃ b off, ao = some ⟨b, off, none⟩ ∧ b ≠ g) (u u' u'' : Value) : BitsAt (((w.setCell ⟨g, 0, none⟩ u).setCell ⟨g, 1, none⟩ u').setCell ⟨g, 2, none⟩ u'') ao c I :=
  ((h.other (p := ⟨g, 0, none⟩) hp u).other (p := ⟨g, 1, none⟩) hp u').other (p := ⟨g, 2, none⟩) hp u''
theorem bel_put3 {B : Nat} {w w' : World} (h : Below B w w') {g : Nat} (hg : B ≤ g) (u u' u'' : Value) : Below B w (((w'.setCell ⟨g, 0, none⟩ u).setCell ⟨g, 1, none⟩ u').setCell ⟨g, 2, none⟩ u'') :=
  ((h.setCell (p := ⟨g, 0, none⟩) hg u).setCell (p := ⟨g, 1, none⟩) hg u').setCell (p := ⟨g, 2, none⟩) hg u''
theorem bits_under {w : World} {ao : Option Addr} {c : Nat} {I : List Int} (h : BitsAt w ao c I) : I = [] ∨ ∃ b off, ao = some ⟨b, off, none⟩ ∧ b ≠ w.heap.size := by
  by_cases hz : I = []
  · exact .inl hz
  · obtain ⟨b, off, e, hl, _⟩ := h.ne (List.length_pos_iff.2 hz)
    exact .inr ⟨b, off, e, by omega⟩
/-- A list that begins with a number other than nought lies in no empty mirror's box. -/
theorem bits_outBox {T : Nat} {w : World} {b : Nat} {ao : Option Addr} {c : Nat} {I : List Int} (h : BitsAt w ao c I) (h0 : atB I 0 ≠ 0) (hx : BoxT T w b (.slice none 0 0) (.int .u64 0) (.int .u64 0)) : I = [] ∨ ∃ b' off, ao = some ⟨b', off, none⟩ ∧ b' ≠ b := by
  by_cases hz : I = []
  · exact .inl hz
  · obtain ⟨b', off, e, hl, hc⟩ := h.ne (List.length_pos_iff.2 hz)
    refine .inr ⟨b', off, e, ?_⟩
    rintro rfl
    have hc := hc 0 (List.length_pos_iff.2 hz)
    rw [cell_of_row w b' _ _ _ _ hx] at hc
    rcases (show off = 0 ∨ off = 1 ∨ off = 2 ∨ 3 ≤ off by omega) with e | e | e | e
    · subst e; simp at hc
    · subst e; simp at hc; omega
    · subst e; simp at hc; omega
    · rw [Array.getElem?_eq_none (by simp; omega)] at hc; simp at hc

set_option maxRecDepth 20000 in
set_option maxHeartbeats 16000000 in
theorem houseMakes_of (ao : Option Addr) (c : Nat) (I S : List Int) (T B : Nat) (f : Int) (fin ok : Bool) (w : World) (hI : BitsAt w ao c I) (hi : I.length ≤ 17592186043904)
    (way : (I.length = 0 ∧ f = 3 ∧ S = [] ∧ T = 0 ∧ B = 0) ∨ (64 < I.length ∧ f = 3 ∧ S = [] ∧ T = 0 ∧ B = 0) ∨ (1 ≤ I.length ∧ I.length ≤ 64 ∧ fin = false ∧ f = 4 ∧ S = [] ∧ T = 0 ∧ B = 0) ∨ (1 ≤ I.length ∧ I.length ≤ 64 ∧ fin = true ∧ ok = false ∧ f = 2 ∧ S = [] ∧ T = 0 ∧ B = 0) ∨ (1 ≤ I.length ∧ I.length ≤ 64 ∧ fin = true ∧ ok = true ∧ f = 0 ∧ S.length = I.length ∧ atB S 0 ≠ 0))
    (C1 : ∀ w' po pc, Below w.heap.size w w' → BitsAt w' po pc I → Calls Tryz.prog 8 #[.slice po I.length pc] w' fun e w'' => ∃ so cs, e = .returned (.tuple #[.slice so S.length cs, .int .u64 (T : Nat), .int .u64 (B : Nat), .int .i64 f]) ∧ NewB w'.heap.size so S ∧ BitsAt w'' so cs S ∧ Below w'.heap.size w' w'')
    (C2 : 1 ≤ I.length → I.length ≤ 64 → ∀ w', Below w.heap.size w w' → Calls Tryz.prog 9 #[.slice ao I.length c] w' fun e w'' => e = .returned (.bool fin) ∧ Below w'.heap.size w' w'')
    (C3 : fin = true → ok = false → ∀ w', Below w.heap.size w w' → Calls Tryz.prog 10 #[.slice ao I.length c] w' fun e w'' => e = .returned (.tuple #[.agg #[.slice none 0 0, .int .u64 0, .int .u64 0], .bool false]) ∧ Below w'.heap.size w' w'')
    (C4 : fin = true → ok = true → ∀ w', Below w.heap.size w w' → Calls Tryz.prog 10 #[.slice ao I.length c] w' fun e w'' => ∃ uo cu, e = .returned (.tuple #[.agg #[.slice uo S.length cu, .int .u64 (T : Nat), .int .u64 (B : Nat)], .bool true]) ∧ BitsAt w'' uo cu S ∧ Below w'.heap.size w' w'')
    (CA : ∀ w', Below w.heap.size w w' → Calls Tryz.prog 12 #[] w' fun e w'' => e = .returned (.bool true) ∧ Below w'.heap.size w' w'') :
    Calls Tryz.prog 3 #[.slice ao I.length c] w fun r w' => r = .returned (.bool true) ∧ Below w.heap.size w w' := by
  have WAY := hide way
  have K1 := hide C1; have K2 := hide C2; have K3 := hide C3; have K4 := hide C4; have KA := hide CA
  have KZ := hide (fun w' so cs => same_any so none cs 0 [] w' (BitsAt.nilAt w' _ _) (BitsAt.nilAt w' _ _) (by simp))
  simp only [List.length_nil] at KZ
  have b0 := below_alloc9 w (.cells #[] 24)
  obtain ⟨po, pc, w1, run1, own1, gr1⟩ := copy_bits (w.alloc (.cells #[] 24)) w.heap.size 22 ao c I w.heap.size (hI.below b0) hi (OwnB.nil w w.heap.size (Nat.le_refl _)).1 (by simp)
  have b1 := b0.grown gr1 (by simp) (fun g hg => by cases hg; exact Nat.le_refl _)
  have BB := hide b1; have O1 := hide (own1.same hI); have RUN1 := hide run1; have P1 := hide own1.copy
  have hl2 := hide (show I.length ≤ 35184372088830 by omega)
  clear hI hi way C1 C2 C3 C4 CA b0 gr1 own1 b1 run1
  go_enter Tryz.func3, Tryz.ntmps3
  go_wp2_with (first | (at_builtin; refine wpList_append_eq _ rfl _ _ 22 rfl _ _ _ _ rfl rfl (unhide RUN1) ?_; clear RUN1))
  refine (unhide K1 _ _ _ (unhide BB) (unhide O1)).mono ?_
  rintro e w3 ⟨so, cs, rfl, ns, hs, hb3⟩
  have SP := hide (show HwSt w w3 w1.heap.size po I.length so cs S from ⟨(unhide BB).trans (hb3.mono (unhide BB).size), (unhide P1).below hb3, hs, ns⟩)
  clear K1 BB O1 P1 hb3 hs ns
  generalize hn : I.length = n at *
  go_wp2_with fail
  go_loopw [8] (fun i wr => ∃ k : Nat, k ≤ n ∧ i = .int .i64 k ∧ Hid (HwSt w wr w1.heap.size po n so cs S)) (fun i _ => n - (intOf i).toNat)
  case atStart => exact ⟨0, Nat.zero_le _, rfl, SP⟩
  case round =>
    clear SP
    obtain ⟨k, hk, rfl, hP⟩ := hrel
    by_cases hlt : k < n
    · have hkI : (k : Int) < (n : Int) := by omega
      have hl3 := unhide hl2
      obtain ⟨g, e1, e2, e3, e4⟩ := (unhide hP).p.resolve_left (by omega)
      obtain ⟨z, cz⟩ := e4.cell hlt
      have fz := e4.free k
      subst e1
      have PUT := hide (fun z => (unhide hP).put e2 e3 k z)
      clear e2 e3 e4 hP
      go_wp2_with fail
      go_round
      case rel => exact ⟨k + 1, by omega, by go_num, unhide PUT _⟩
      case measure => simp [intOf]; omega
    · have SP := hP
      have hkk : k = n := by omega
      subst hkk
      clear hP hlt hk
      rcases unhide WAY with ⟨n0, rfl, rfl, rfl, rfl⟩ | ⟨n0, rfl, rfl, rfl, rfl⟩ | ⟨n1, n2, rfl, rfl, rfl, rfl, rfl⟩ | ⟨n1, n2, rfl, rfl, rfl, rfl, rfl, rfl⟩ | ⟨n1, n2, rfl, rfl, rfl, n3, n4⟩
      · clear WAY K2 K3 K4
        subst n0
        have BE := hide (((unhide SP).all (below_alloc9 wr (.cells #[.slice none 0 0, .int .u64 0, .int .u64 0] 29))).bel)
        clear SP
        simp only [List.length_nil]
        go_wp2_with fail
        refine (unhide KZ _ _ _).mono ?_
        rintro e w8 ⟨rfl, hb⟩
        replace BE := hide ((unhide BE).trans (hb.mono (unhide BE).size))
        clear hb
        go_wp2_with fail
        refine (unhide KA _ (unhide BE)).mono ?_
        rintro e w19 ⟨rfl, hb⟩
        replace BE := hide ((unhide BE).trans (hb.mono (unhide BE).size))
        clear hb
        go_wp2
        go_ret
        exact ⟨rfl, unhide BE⟩
      · clear WAY K2 K3 K4
        have d1 : ((k : Int) == 0) = false := by simp; omega
        have d2 : decide (64 < (k : Int)) = true := by simp; omega
        have BE := hide (((unhide SP).all (below_alloc9 wr (.cells #[.slice none 0 0, .int .u64 0, .int .u64 0] 29))).bel)
        clear SP
        simp only [List.length_nil]
        go_wp2_with fail
        refine (unhide KZ _ _ _).mono ?_
        rintro e w8 ⟨rfl, hb⟩
        replace BE := hide ((unhide BE).trans (hb.mono (unhide BE).size))
        clear hb
        go_wp2_with fail
        refine (unhide KA _ (unhide BE)).mono ?_
        rintro e w19 ⟨rfl, hb⟩
        replace BE := hide ((unhide BE).trans (hb.mono (unhide BE).size))
        clear hb
        go_wp2
        go_ret
        exact ⟨rfl, unhide BE⟩
      · clear WAY K3 K4
        have d1 : ((k : Int) == 0) = false := by simp; omega
        have d2 : decide (64 < (k : Int)) = false := by simp; omega
        have HX := hide (BoxT.new 29 wr (.slice none 0 0) (.int .u64 0) (.int .u64 0))
        have BE := hide (((unhide SP).all (below_alloc9 wr (.cells #[.slice none 0 0, .int .u64 0, .int .u64 0] 29))).bel)
        have SB := hide (((unhide SP).all (below_alloc9 wr (.cells #[.slice none 0 0, .int .u64 0, .int .u64 0] 29))).s)
        have FAR := hide (bits_under (unhide SP).s); have HZ := hide (unhide SP).bel.size
        clear SP
        go_wp2_with fail
        refine (unhide K2 n1 n2 _ (unhide BE)).mono ?_
        rintro e w5 ⟨rfl, hb⟩
        replace HX := hide ((unhide HX).all hb)
        have a0 := (unhide HX).c0; have a1 := (unhide HX).c1; have a2 := (unhide HX).c2
        replace SB := hide ((unhide SB).below hb)
        replace BE := hide ((unhide BE).trans (hb.mono (unhide BE).size))
        clear hb K2
        clear a0 a1 a2
        have a0 := (unhide HX).c0; have a1 := (unhide HX).c1; have a2 := (unhide HX).c2
        clear HX
        go_wp2_with fail
        refine (unhide KZ _ _ _).mono ?_
        rintro e w8 ⟨rfl, hb⟩
        replace BE := hide ((unhide BE).trans (hb.mono (unhide BE).size))
        clear hb
        go_wp2_with fail
        refine (unhide KA _ (unhide BE)).mono ?_
        rintro e w19 ⟨rfl, hb⟩
        replace BE := hide ((unhide BE).trans (hb.mono (unhide BE).size))
        clear hb
        go_wp2
        go_ret
        exact ⟨rfl, unhide BE⟩
      · clear WAY K4
        have d1 : ((k : Int) == 0) = false := by simp; omega
        have d2 : decide (64 < (k : Int)) = false := by simp; omega
        have HX := hide (BoxT.new 29 wr (.slice none 0 0) (.int .u64 0) (.int .u64 0))
        have BE := hide (((unhide SP).all (below_alloc9 wr (.cells #[.slice none 0 0, .int .u64 0, .int .u64 0] 29))).bel)
        have SB := hide (((unhide SP).all (below_alloc9 wr (.cells #[.slice none 0 0, .int .u64 0, .int .u64 0] 29))).s)
        have FAR := hide (bits_under (unhide SP).s); have HZ := hide (unhide SP).bel.size
        clear SP
        go_wp2_with fail
        refine (unhide K2 n1 n2 _ (unhide BE)).mono ?_
        rintro e w5 ⟨rfl, hb⟩
        replace HX := hide ((unhide HX).all hb)
        have a0 := (unhide HX).c0; have a1 := (unhide HX).c1; have a2 := (unhide HX).c2
        replace SB := hide ((unhide SB).below hb)
        replace BE := hide ((unhide BE).trans (hb.mono (unhide BE).size))
        clear hb K2
        go_wp2_with fail
        refine (unhide K3 (by first | rfl | trivial) (by first | rfl | trivial) _ (unhide BE)).mono ?_
        rintro e w7 ⟨rfl, hb⟩
        replace HX := hide ((unhide HX).all hb)
        clear a0 a1 a2
        have a0 := (unhide HX).c0; have a1 := (unhide HX).c1; have a2 := (unhide HX).c2
        replace BE := hide ((unhide BE).trans (hb.mono (unhide BE).size))
        have f0 := (unhide HX).free 0; have f1 := (unhide HX).free 1; have f2 := (unhide HX).free 2
        clear hb
        go_wp2_with fail
        replace BE := hide (bel_put3 (unhide BE) (unhide HZ) (.slice none 0 0) (.int .u64 0) (.int .u64 0))
        refine (unhide KZ _ _ _).mono ?_
        rintro e w8 ⟨rfl, hb⟩
        replace BE := hide ((unhide BE).trans (hb.mono (unhide BE).size))
        clear hb
        go_wp2_with fail
        refine (unhide KA _ (unhide BE)).mono ?_
        rintro e w19 ⟨rfl, hb⟩
        replace BE := hide ((unhide BE).trans (hb.mono (unhide BE).size))
        clear hb
        go_wp2
        go_ret
        exact ⟨rfl, unhide BE⟩
      · clear WAY K3
        have q1 := hide (show S.length ≤ 35184372088830 by omega)
        have N4 := hide n4
        clear n3 n4
        have d1 : ((k : Int) == 0) = false := by simp; omega
        have d2 : decide (64 < (k : Int)) = false := by simp; omega
        have HX := hide (BoxT.new 29 wr (.slice none 0 0) (.int .u64 0) (.int .u64 0))
        have BE := hide (((unhide SP).all (below_alloc9 wr (.cells #[.slice none 0 0, .int .u64 0, .int .u64 0] 29))).bel)
        have SB := hide (((unhide SP).all (below_alloc9 wr (.cells #[.slice none 0 0, .int .u64 0, .int .u64 0] 29))).s)
        have FAR := hide (bits_under (unhide SP).s); have HZ := hide (unhide SP).bel.size
        clear SP
        go_wp2_with fail
        refine (unhide K2 n1 n2 _ (unhide BE)).mono ?_
        rintro e w5 ⟨rfl, hb⟩
        replace HX := hide ((unhide HX).all hb)
        have a0 := (unhide HX).c0; have a1 := (unhide HX).c1; have a2 := (unhide HX).c2
        replace SB := hide ((unhide SB).below hb)
        replace BE := hide ((unhide BE).trans (hb.mono (unhide BE).size))
        clear hb K2
        go_wp2_with fail
        refine (unhide K4 (by first | rfl | trivial) (by first | rfl | trivial) _ (unhide BE)).mono ?_
        rintro e w7 ⟨uo, cu, rfl, hu, hb⟩
        replace HX := hide ((unhide HX).all hb)
        clear a0 a1 a2
        have a0 := (unhide HX).c0; have a1 := (unhide HX).c1; have a2 := (unhide HX).c2
        have f0 := (unhide HX).free 0; have f1 := (unhide HX).free 1; have f2 := (unhide HX).free 2
        replace BE := hide (bel_put3 ((unhide BE).trans (hb.mono (unhide BE).size)) (unhide HZ) (.slice uo S.length cu) (.int .u64 (T : Nat)) (.int .u64 (B : Nat)))
        replace SB := hide (bits_oth3 ((unhide SB).below hb) (unhide FAR) (.slice uo S.length cu) (.int .u64 (T : Nat)) (.int .u64 (B : Nat)))
        have HU := hide (bits_oth3 hu (bits_outBox hu (unhide N4) (unhide HX)) (.slice uo S.length cu) (.int .u64 (T : Nat)) (.int .u64 (B : Nat)))
        clear hb hu FAR
        go_wp2_with fail
        refine (same_any _ _ _ _ S _ (unhide SB) (unhide HU) (unhide q1)).mono ?_
        rintro e w8 ⟨rfl, hb⟩
        replace BE := hide ((unhide BE).trans (hb.mono (unhide BE).size))
        clear hb
        go_wp2_with fail
        refine (unhide KA _ (unhide BE)).mono ?_
        rintro e w19 ⟨rfl, hb⟩
        replace BE := hide ((unhide BE).trans (hb.mono (unhide BE).size))
        clear hb
        go_wp2
        go_ret
        exact ⟨rfl, unhide BE⟩

end Go.Proofs.YtimejpbmehegeaaGreatDoor

/- The law HouseMakes, by what house.Make answers. -/
namespace Go.Proofs.YtimejpbmehegeaaGreatDoor
open Go.RowKit

theorem mrV_front (xs : List Nat) (h : 1 ≤ xs.length) : atB (mxL (mrV xs)) 0 ≠ 0 := by
  rw [mxL_at]
  cases xs with
  | nil => simp at h
  | cons a xs => simp [mrV]

theorem houseMakes_by (ao : Option Addr) (c : Nat) (I : List Int) (w : World) (hI : BitsAt w ao c I) (hi : I.length ≤ 17592186043904)
    (CZ : ∀ w' ao c, Below w.heap.size w w' → BitsAt w' ao c I → (I.length = 0 ∨ 64 < I.length) → Calls Tryz.prog 8 #[.slice ao I.length c] w' fun e w'' => ∃ so cs, e = .returned (.tuple #[.slice so 0 cs, .int .u64 0, .int .u64 0, .int .i64 3]) ∧ Below w'.heap.size w' w'')
    (CF : ∀ w' ao c, Below w.heap.size w w' → BitsAt w' ao c I → 1 ≤ I.length → I.length ≤ 64 → fnK I I.length = false → Calls Tryz.prog 8 #[.slice ao I.length c] w' fun e w'' => ∃ so cs, e = .returned (.tuple #[.slice so 0 cs, .int .u64 0, .int .u64 0, .int .i64 4]) ∧ Below w'.heap.size w' w'')
    (CN : ∀ w' ao c, Below w.heap.size w w' → BitsAt w' ao c I → 1 ≤ I.length → I.length ≤ 64 → fnK I I.length = true → mrK (toN I) = false → Calls Tryz.prog 8 #[.slice ao I.length c] w' fun e w'' => ∃ so cs, e = .returned (.tuple #[.slice so 0 cs, .int .u64 0, .int .u64 0, .int .i64 2]) ∧ Below w'.heap.size w' w'')
    (CM : ∀ w' ao c, Below w.heap.size w w' → BitsAt w' ao c I → 1 ≤ I.length → I.length ≤ 64 → fnK I I.length = true → mrK (toN I) = true → Calls Tryz.prog 8 #[.slice ao I.length c] w' fun e w'' => ∃ vo vc, e = .returned (.tuple #[.slice vo I.length vc, .int .u64 (mrT (toN I) : Nat), .int .u64 (mrB (toN I) : Nat), .int .i64 0]) ∧ NewB w'.heap.size vo (mxL (mrV (toN I))) ∧ BitsAt w'' vo vc (mxL (mrV (toN I))) ∧ Below w'.heap.size w' w'')
    (CA : ∀ w', Below w.heap.size w w' → Calls Tryz.prog 12 #[] w' fun e w'' => e = .returned (.bool true) ∧ Below w'.heap.size w' w'') :
    Calls Tryz.prog 3 #[.slice ao I.length c] w fun r w' => r = .returned (.bool true) ∧ Below w.heap.size w w' := by
  have CI := fun w' (hb : Below w.heap.size w w') => r9finite_any ao c I w' (hI.below hb) (by omega)
  have NIL : ∀ (f : Int) (w' : World) po pc, Calls Tryz.prog 8 #[.slice po I.length pc] w' (fun e w'' => ∃ so cs, e = .returned (.tuple #[.slice so 0 cs, .int .u64 0, .int .u64 0, .int .i64 f]) ∧ Below w'.heap.size w' w'') → Calls Tryz.prog 8 #[.slice po I.length pc] w' fun e w'' => ∃ so cs, e = .returned (.tuple #[.slice so ([] : List Int).length cs, .int .u64 (0 : Nat), .int .u64 (0 : Nat), .int .i64 f]) ∧ NewB w'.heap.size so [] ∧ BitsAt w'' so cs [] ∧ Below w'.heap.size w' w'' := by
    intro f w' po pc h
    refine h.mono ?_
    rintro e w'' ⟨so, cs, rfl, hb⟩
    exact ⟨so, cs, rfl, .inl rfl, BitsAt.nilAt w'' _ _, hb⟩
  rcases (show I.length = 0 ∨ 64 < I.length ∨ (1 ≤ I.length ∧ I.length ≤ 64) by omega) with h | h | ⟨h1, h2⟩
  · exact houseMakes_of ao c I [] 0 0 3 false false w hI hi (.inl ⟨h, rfl, rfl, rfl, rfl⟩) (fun w' po pc hb hx => NIL 3 w' po pc (CZ w' po pc hb hx (.inl h))) (fun h1 => by omega) (fun e => by cases e) (fun e => by cases e) CA
  · exact houseMakes_of ao c I [] 0 0 3 false false w hI hi (.inr (.inl ⟨h, rfl, rfl, rfl, rfl⟩)) (fun w' po pc hb hx => NIL 3 w' po pc (CZ w' po pc hb hx (.inr h))) (fun _ h1 => by omega) (fun e => by cases e) (fun e => by cases e) CA
  · cases hf : fnK I I.length
    · rw [hf] at CI
      exact houseMakes_of ao c I [] 0 0 4 false false w hI hi (.inr (.inr (.inl ⟨h1, h2, rfl, rfl, rfl, rfl, rfl⟩))) (fun w' po pc hb hx => NIL 4 w' po pc (CF w' po pc hb hx h1 h2 hf)) (fun _ _ => CI) (fun e => by cases e) (fun e => by cases e) CA
    · rw [hf] at CI
      cases hk : mrK (toN I)
      · exact houseMakes_of ao c I [] 0 0 2 true false w hI hi (.inr (.inr (.inr (.inl ⟨h1, h2, rfl, rfl, rfl, rfl, rfl, rfl⟩)))) (fun w' po pc hb hx => NIL 2 w' po pc (CN w' po pc hb hx h1 h2 hf hk)) (fun _ _ => CI) (fun _ _ w' hb => rmake13_no ao c I w' (hI.below hb) h1 h2 hk) (fun _ e => by cases e) CA
      · have lv : (mxL (mrV (toN I))).length = I.length := by rw [mxL_len, mrV_len, toN_len]
        refine houseMakes_of ao c I (mxL (mrV (toN I))) (mrT (toN I)) (mrB (toN I)) 0 true true w hI hi (.inr (.inr (.inr (.inr ⟨h1, h2, rfl, rfl, rfl, lv, mrV_front _ (by rw [toN_len]; exact h1)⟩)))) (fun w' po pc hb hx => ?_) (fun _ _ => CI) (fun _ e => by cases e) (fun _ _ w' hb => ?_) CA
        · rw [lv]
          exact CM w' po pc hb hx h1 h2 hf hk
        · rw [lv]
          exact rmake13_yes ao c I w' (hI.below hb) h1 h2 hk

end Go.Proofs.YtimejpbmehegeaaGreatDoor

