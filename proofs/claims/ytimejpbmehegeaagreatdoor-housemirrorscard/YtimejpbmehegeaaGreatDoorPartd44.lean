/- Part 44 of the texts. -/
import Derived.Test.YtimejpbmehegeaaGreatDoorPartd43
import Derived.Test.YtimejpbmehegeaaGreatDoorPartd30
import Derived.Deep.RegionHeld3
import Derived.Test.YtimejpbmehegeaaGreatDoorPartd38
import Derived.Test.YtimejpbmehegeaaGreatDoorPartd39
import Derived.Test.YtimejpbmehegeaaGreatDoorPartd31
import Derived.Test.YtimejpbmehegeaaGreatDoorPartd32
import Derived.Test.YtimejpbmehegeaaGreatDoorPartd33
import Derived.Deep.RegionWith
import Derived.Test.YtimejpbmehegeaaGreatDoorPartd34
import Derived.Test.YtimejpbmehegeaaGreatDoorPartd42
import Derived.Test.YtimejpbmehegeaaGreatDoorPartd40
/- Package house: mirrored. -/
namespace Go.Proofs.YtimejpbmehegeaaGreatDoor
open Go.RowKit
attribute [local go_sem ↓] Go.wp_at_zero Go.wp_at_succ

set_option maxRecDepth 20000 in
set_option maxHeartbeats 8000000 in
theorem mirrored_of (r c n cap i k L vc tau : Nat) (ao vo : Option Addr) (T : Nat → Nat → List Nat) (X : Nat → List Int) (P U : Nat → Nat → Nat) (t : Nat → Nat) (w : World) (h36 : n ≤ 36) (h6 : c ≤ 6) (hr6 : r ≤ 6) (hil : i + L ≤ r) (hk : k ≤ c)
    (hS : BitsAt w ao cap (mxL (T k 0))) (lT : ∀ d j, (T d j).length = n) (hnext : ∀ d, T d L = T (d + 1) 0)
    (hP : ∀ d j, k ≤ d → d < c → j < L → P d j < n ∧ (i + j) * c + d = P d j ∧ (T d j).set (P d j) (U d j) = T d (j + 1))
    (C1 : ∀ w' d, Below w.heap.size w w' → k ≤ d → d < c → Calls Tryz.prog 93 #[.agg #[.int .i64 r, .int .i64 c, .slice ao n cap], .int .i64 i, .int .i64 (d : Nat), .int .i64 L, .int .i64 1] w' fun e w'' => ∃ po pc, e = .returned (.tuple #[.agg #[.int .i64 L, .int .i64 1, .slice po L pc], .int .i64 0]) ∧ NewB w'.heap.size po (X d) ∧ BitsAt w'' po pc (X d) ∧ Below w'.heap.size w' w'')
    (C2 : ∀ w' d po pc, Below w.heap.size w w' → k ≤ d → d < c → BitsAt w' po pc (X d) → Calls Tryz.prog 94 #[.slice po L pc, .slice vo L vc, .int .u64 tau] w' fun e w'' => ∃ v, e = .returned v ∧ ImAt w'' v w'.heap.size po vo L pc L vc (t d) ∧ Below w'.heap.size w' w'')
    (C3 : ∀ w' d j po pc bx bt bv, Below w.heap.size w w' → k ≤ d → d < c → j < L → BitsAt w' po pc (X d) → w'.cell? ⟨bx, 0, none⟩ = some (.slice po L pc) → w'.cell? ⟨bt, 0, none⟩ = some (.int .u64 (t d : Nat)) → w'.cell? ⟨bv, 0, none⟩ = some (.slice vo L vc) → Calls Tryz.prog 126 #[.int .i64 (j : Nat), .pointer (some ⟨bx, 0, none⟩), .pointer (some ⟨bt, 0, none⟩), .pointer (some ⟨bv, 0, none⟩)] w' fun e w'' => e = .returned (.int .u64 (U d j : Nat)) ∧ Below w'.heap.size w' w'') :
    Calls Tryz.prog 53 #[.agg #[.int .i64 r, .int .i64 c, .slice ao n cap], .int .i64 i, .int .i64 k, .slice vo L vc, .int .u64 tau] w fun e w' => ∃ g, e = .returned (.agg #[.int .i64 r, .int .i64 c, .slice (some ⟨g, 0, none⟩) n n]) ∧ w.heap.size ≤ g ∧ RowB w' g (T c 0) ∧ Below w.heap.size w w' := by
  have ST := hide (MiSt.start w r c n cap ao)
  have hmk := run_make_row' (P := Tryz.prog) 22 24 (.int .u64 0) 8 Tryz.underlying22 (by kernel_rfl) rfl .i64 .i64 n (by omega) (by omega)
  have HP := hide hP; have K1 := hide C1; have K2 := hide C2; have K3 := hide C3; have LT := hide lT; have HX := hide hnext
  obtain ⟨w5, hcp, hr5, hb5⟩ := copy_run _ (w.heap.size + 1 + 1) n cap ao (T k 0) (unhide ST).row (hS.below (unhide ST).bel) (lT k 0)
  have ST5 := hide ((unhide ST).copied hb5 hr5)
  clear hP C1 C2 C3 lT hS hr5 hb5 hnext
  have y0 := (unhide ST).m.c0; have y1 := (unhide ST).m.c1; have y2 := (unhide ST).m.c2
  go_enter Tryz.func53, Tryz.ntmps53
  go_wp2_with fail
  clear hmk hcp y0 y1 y2 ST
  go_loopw [12] (fun a wr => ∃ d : Nat, k ≤ d ∧ d ≤ c ∧ a = .int .i64 d ∧ Hid (MiSt w wr r c n cap ao (T d 0))) (fun a _ => c - (intOf a).toNat)
  case atStart => exact ⟨k, Nat.le_refl _, hk, rfl, ST5⟩
  case round =>
    clear ST5
    obtain ⟨d, hkd, hdc, rfl, hS⟩ := hrel
    by_cases hlt : d < c
    · have hdI : (d : Int) < (c : Int) := by omega
      have y0 := (unhide hS).m.c0; have y1 := (unhide hS).m.c1; have y2 := (unhide hS).m.c2
      go_wp2_with fail
      clear y0 y1 y2
      refine (unhide K1 _ d (unhide hS).bel hkd hlt).mono ?_
      rintro e w2 ⟨po, pc, rfl, hn, hx, hb⟩
      have S2 := hide ((unhide hS).all hb)
      have HN := hide (NewB.least hn (show w.heap.size + 1 + 1 + 1 ≤ wr.heap.size from (unhide hS).row.lt))
      have HB := hide hx
      clear hn hx hb hS
      go_wp2_with fail
      have ba := below_alloc9 w2 (.cells #[.int .i64 L, .int .i64 1, .slice po L pc] 36)
      replace S2 := hide ((unhide S2).all ba)
      replace HB := hide ((unhide HB).below ba)
      clear ba
      have HL := hide (show w.heap.size + 1 + 1 + 1 ≤ (w2.alloc (.cells #[.int .i64 L, .int .i64 1, .slice po L pc] 36)).heap.size from (unhide S2).row.lt)
      refine (unhide K2 _ d po pc (unhide S2).bel hkd hlt (unhide HB)).mono ?_
      rintro e w3 ⟨v, rfl, hv, hb⟩
      obtain ⟨bx, bt, bv, rfl, l1, l2, l3, c1, c2, c3⟩ := hv.ex
      have S3 := hide (show MjSt w w3 r c n cap ao (T d 0) bx bt bv po vo L pc vc (t d) (X d) from ⟨(unhide S2).all hb, Nat.le_trans (unhide HL) l1, Nat.le_trans (unhide HL) l2, Nat.le_trans (unhide HL) l3, c1, c2, c3, (unhide HB).below hb, unhide HN⟩)
      clear hv hb l1 l2 l3 c1 c2 c3 S2 HN HB HL
      have KC := hide (fun w' j hb hj hx h1 h2 h3 => unhide K3 w' d j po pc bx bt bv hb hkd hlt hj hx h1 h2 h3)
      have HPD := hide (fun j hj => unhide HP d j hkd hlt hj)
      have LTD := hide (unhide LT d)
      have HXD := hide (unhide HX d)
      generalize hTD : T d = TD at *
      generalize hUD : U d = UD at *
      generalize hPD : P d = PD at *
      generalize t d = td at *
      generalize X d = XD at *
      go_wp2_with fail
      go_loopw [48] (fun a wr => ∃ j : Nat, j ≤ L ∧ a = .int .i64 j ∧ Hid (MjSt w wr r c n cap ao (TD j) bx bt bv po vo L pc vc td XD)) (fun a _ => L - (intOf a).toNat)
      case atStart => exact ⟨0, Nat.zero_le _, rfl, S3⟩
      case round =>
        clear S3
        obtain ⟨j, hj, rfl, hS⟩ := hrel
        by_cases hjl : j < L
        · have hjI : (j : Int) < (L : Int) := by omega
          obtain ⟨hp, hpe, hset⟩ := unhide HPD j hjl
          have KJ := hide (fun w' hb hx h1 h2 h3 => unhide KC w' j hb hjl hx h1 h2 h3)
          have LL := hide (unhide LTD j); have HN := hide hset
          clear hset
          obtain ⟨a, ha⟩ : ∃ a, i + j = a := ⟨_, rfl⟩
          rw [ha] at hpe
          obtain ⟨q, hq⟩ : ∃ q, a * c = q := ⟨_, rfl⟩
          rw [hq] at hpe
          have e1 : IntKind.i64.wrap ((i : Int) + (j : Int)) = (a : Int) := (wrap_in _ (by omega)).trans (by omega)
          have e2 : IntKind.i64.wrap ((a : Int) * (c : Int)) = (q : Int) := by
            rw [cast_mul10 a c, hq]
            exact wrap_in _ (by omega)
          have e3 : IntKind.i64.wrap ((q : Int) + (d : Int)) = (PD j : Int) := (wrap_in _ (by omega)).trans (by omega)
          have e4 : (i : Int) + (j : Int) = (a : Int) := by omega
          have e5 : (a : Int) * (c : Int) = (q : Int) := by rw [cast_mul10 a c, hq]
          have e6 : (q : Int) + (d : Int) = (PD j : Int) := by omega
          have w1 : IntKind.i64.wrap (a : Int) = (a : Int) := wrap_in _ (by omega)
          have w2 : IntKind.i64.wrap (q : Int) = (q : Int) := wrap_in _ (by omega)
          have w3 : IntKind.i64.wrap (PD j : Int) = (PD j : Int) := wrap_in _ (by omega)
          generalize hTT : TD j = TT at *
          generalize hTN : TD (j + 1) = TN at *
          generalize PD j = p at *
          generalize UD j = u at *
          have hpI : (p : Int) < (n : Int) := by omega
          clear hq hpe ha
          go_wp2_with fail
          refine at_world (fun W => MjSt w W r c n cap ao TT bx bt bv po vo L pc vc td XD) (unhide hS) ?_
          clear hS
          intro W st
          have ST := hide (st.all ((Below.refl W.heap.size W).drew))
          clear st
          have y1 := (unhide ST).st.m.c1
          go_region_with (first
            | (go_at_call 126; refine (unhide KJ _ (unhide ST).st.bel (unhide ST).x (unhide ST).cx (unhide ST).ct (unhide ST).cv).mono ?_; rintro e w8 ⟨rfl, hb⟩; clear y1; have S8 := (unhide ST).all hb; have y1 := S8.st.m.c1; have d1 := S8.st.row.cell p (by rw [unhide LL]; exact hp); have f1' := S8.st.row.free p; have P9 := hide (S8.set p u); clear S8 hb ST KJ)
            | fail "NO ARM")
          all_goals
            clear d1 f1' y1
            go_wp2_with fail
            go_round
            case rel => exact ⟨j + 1, by omega, by go_num, by rw [hTN, ← unhide HN]; exact P9⟩
            case measure => simp [intOf]; omega
        · have hjj : j = L := by omega
          subst hjj
          have S4 := hide (unhide hS).st
          rw [unhide HXD] at S4
          clear hS
          go_wp2_with fail
          go_round
          case rel => exact ⟨d + 1, by omega, by omega, by go_num, S4⟩
          case measure => simp [intOf]; omega
    · have hdd : d = c := by omega
      subst hdd
      obtain ⟨h6, h1, h4, h5⟩ := unhide hS
      have y0 := h1.c0; have y1 := h1.c1; have y2 := h1.c2
      have r0 := h4.c0; have r1 := h4.c1; have r2 := h4.c2
      have f0 := h4.free 0; have f1 := h4.free 1; have f2 := h4.free 2
      have XP := h4.put (.int .i64 r) (.int .i64 d) (.slice (some ⟨w.heap.size + 1 + 1, 0, none⟩) n n)
      have z0 := XP.c0; have z1 := XP.c1; have z2 := XP.c2
      have RW := hide (h5.three (g := w.heap.size + 1) (by omega) (.int .i64 r) (.int .i64 d) (.slice (some ⟨w.heap.size + 1 + 1, 0, none⟩) n n))
      have BP := hide (below_putM h6 (b := w.heap.size + 1) (by omega) (.int .i64 r) (.int .i64 d) (.slice (some ⟨w.heap.size + 1 + 1, 0, none⟩) n n))
      clear XP h1 h4 h5 h6 hS
      go_wp2_with fail
      exact bodyPost_ret (v := .agg #[.int .i64 r, .int .i64 d, .slice (some ⟨w.heap.size + 1 + 1, 0, none⟩) n n]) (by simp [results, Tryz.results53, go_sem, z0, z1, z2]) rfl ⟨_, rfl, by omega, unhide RW, unhide BP⟩

end Go.Proofs.YtimejpbmehegeaaGreatDoor

/- Package house: Apply. -/
namespace Go.Proofs.YtimejpbmehegeaaGreatDoor
open Go.RowKit
attribute [local go_sem ↓] Go.wp_at_zero Go.wp_at_succ
set_option maxRecDepth 20000 in
set_option maxHeartbeats 4000000 in
theorem happly_of (r c n cap i k L vc tau : Nat) (ao vo : Option Addr) (S : List Nat) (w : World) (hr : r ≤ 6) (hi : i + L ≤ r) (hk : k ≤ c) (hl : S.length = n) (hS : ∀ x ∈ S, x < 18446744073709551616)
    (C1 : ∀ w', Calls Tryz.prog 52 #[.agg #[.int .i64 r, .int .i64 c, .slice ao n cap]] w' fun e w'' => e = .returned (.int .i64 0) ∧ Below w'.heap.size w' w'')
    (C2 : ∀ w', Below w.heap.size w w' → Calls Tryz.prog 53 #[.agg #[.int .i64 r, .int .i64 c, .slice ao n cap], .int .i64 i, .int .i64 k, .slice vo L vc, .int .u64 tau] w' fun e w'' => ∃ g, e = .returned (.agg #[.int .i64 r, .int .i64 c, .slice (some ⟨g, 0, none⟩) n n]) ∧ w'.heap.size ≤ g ∧ RowB w'' g S ∧ Below w'.heap.size w' w'') :
    Calls Tryz.prog 14 #[.agg #[.int .i64 r, .int .i64 c, .slice ao n cap], .int .i64 i, .int .i64 k, .slice vo L vc, .int .u64 tau] w fun e w' => ∃ v, e = .returned (.tuple #[v, .int .i64 0]) ∧ NewM w.heap.size w' r c S v ∧ Below w.heap.size w w' := by
  have K := hide (C1 ((w.alloc (.cells #[.int .i64 r, .int .i64 c, .slice ao n cap] 36)).alloc (.cells #[.int .i64 0, .int .i64 0, .slice none 0 0] 36)))
  simp only [size_alloc9] at K
  have KB := hide (boxes2 w (.int .i64 r) (.int .i64 c) (.slice ao n cap) (.int .i64 0) (.int .i64 0) (.slice none 0 0))
  have K2 := hide C2; have HL := hide hl; have HS := hide hS
  have hw : IntKind.i64.wrap ((r : Int) - (L : Int)) = (r : Int) - (L : Int) := wrap_in _ (by omega)
  have h1 : (i : Int) ≤ (r : Int) - (L : Int) := by omega
  have h2 : (k : Int) ≤ (c : Int) := by omega
  clear C1 C2 hl hS
  go_enter Tryz.func14, Tryz.ntmps14
  go_wp2_with fail
  refine Calls.mono (unhide K) ?_
  rintro e w1 ⟨rfl, hb1⟩
  obtain ⟨hB, hA, hX⟩ := unhide KB w1 hb1
  clear K KB hb1
  have a0 := hA.c0; have a1 := hA.c1; have a2 := hA.c2
  have HB := hide hB; have HX := hide hX
  clear hB hA hX
  go_wp2_with fail
  clear a0 a1 a2
  refine (unhide K2 _ (unhide HB)).mono ?_
  rintro e w2 ⟨g, rfl, hg, hr, hb⟩
  have hB := (unhide HB).trans (hb.mono (unhide HB).size)
  have hX := (unhide HX).all hb
  have HG := hide (Nat.le_trans (unhide HB).size hg)
  have hr2 := hr.bits (unhide HS)
  have f0 := hX.free 0; have f1 := hX.free 1; have f2 := hX.free 2
  have s0 := hX.c0; have s1 := hX.c1; have s2 := hX.c2
  have XP := hX.put (.int .i64 r) (.int .i64 c) (.slice (some ⟨g, 0, none⟩) n n)
  have z0 := XP.c0; have z1 := XP.c1; have z2 := XP.c2
  have Q := hide (hr2.putM hX (.int .i64 r) (.int .i64 c) (.slice (some ⟨g, 0, none⟩) n n))
  have BP := hide (below_putM hB (b := w.heap.size + 1) (by omega) (.int .i64 r) (.int .i64 c) (.slice (some ⟨g, 0, none⟩) n n))
  clear hB hX hb hg hr hr2 XP HB HX K2
  go_wp2
  exact bodyPost_ret (v := .tuple #[.agg #[.int .i64 r, .int .i64 c, .slice (some ⟨g, 0, none⟩) n n], .int .i64 0]) (by simp [results, Tryz.results14, go_sem, z0, z1, z2]) rfl ⟨_, rfl, ⟨_, n, by rw [unhide HL], .inr ⟨g, 0, rfl, unhide HG⟩, by have := unhide Q; rwa [unhide HL] at this⟩, unhide BP⟩

theorem apM_lt {r c : Nat} {S : List Nat} (hS : ∀ p q, elM c S p q < 18446744073709551616) (i k : Nat) (vs : List Nat) (tau : Nat) : ∀ x ∈ apM r c S i k vs tau, x < 18446744073709551616 := by
  intro x hx
  unfold apM mkM at hx
  obtain ⟨p, _, rfl⟩ := List.mem_map.1 hx
  show (if _ then _ else _) < _
  split
  · rename_i g
    exact apL_lt c S i _ vs tau (by omega) hS
  · exact hS _ _

/-- A column as a part. -/
theorem pa_col (c : Nat) (S : List Nat) (i d n : Nat) : paM c S i d n 1 = colL c S i n d := by
  unfold paM mkM colL
  rw [Nat.mul_one]
  refine List.map_congr_left (fun p _ => ?_)
  show elM c S (i + p / 1) (d + p % 1) = _
  rw [Nat.div_one, Nat.mod_one, Nat.add_zero]

theorem hApply_ok (r c cap i k vc tau : Nat) (ao vo : Option Addr) (S vs : List Nat) (w : World) (h : Mx w ao cap r c S) (hV : BitsAt w vo vc (mxL vs)) (hi : i + vs.length ≤ r) (hk : k ≤ c) (ht : tau < 18446744073709551616) (hT : Tab w) :
    Calls Tryz.prog 14 #[.agg #[.int .i64 r, .int .i64 c, .slice ao S.length cap], .int .i64 i, .int .i64 k, .slice vo vs.length vc, .int .u64 tau] w fun e w' => ∃ v, e = .returned (.tuple #[v, .int .i64 0]) ∧ NewM w.heap.size w' r c (apM r c S i k vs tau) v ∧ Below w.heap.size w w' := by
  have h36 := h.small
  have r6 := h.2.2.1
  have c6 := h.2.2.2
  refine happly_of r c S.length cap i k vs.length vc tau ao vo (apM r c S i k vs tau) w r6 hi hk (by rw [apM_len, h.2.1]) (apM_lt (fun p q => h.el_lt p q) i k vs tau) (fun w' => ?_) (fun w' hb => ?_)
  · have := mcheck_any (r : Int) (c : Int) ao S.length cap w' (by omega)
    rw [if_pos (mx_ok h)] at this
    exact this
  have hM := h.below hb
  have hV' := hV.below hb
  have hT' := hT.all hb
  rw [← apJ_all r c S i k vs tau c (Nat.le_refl _)]
  refine mirrored_of r c S.length cap i k vs.length vc tau ao vo (fun d j => apJ r c S i k vs tau d j) (fun d => mxL (colL c S i vs.length d)) (fun d j => (i + j) * c + d) (fun d j => (apL c S i d vs tau).getD j 0) (fun d => mV tau (dtV 0 vs (colL c S i vs.length d))) w' h36 c6 r6 hi hk
    (by show BitsAt w' ao cap (mxL (apJ r c S i k vs tau k 0)); rw [apJ_0 r c S i k vs tau h.2.1]; exact hM.1) (fun d j => by rw [apJ_len, h.2.1]) (fun d => apJ_next r c S i k vs tau d)
    (fun d j hd hdc hj => ⟨by rw [h.2.1]; exact place_lt (by omega) hdc, rfl, apJ_set r c S hi hdc hd hj⟩) (fun w'' d hb2 hd hdc => ?_) (fun w'' d po pc hb2 hd hdc hX => ?_) (fun w'' d j po pc bx bt bv hb2 hd hdc hj hX hx ht' hv => ?_)
  · refine (mPart_ok r c cap i d vs.length 1 ao S w'' (hM.below hb2) hi (by omega)).mono ?_
    rintro e w3 ⟨v, rfl, ⟨po, pc, rfl, hn, hx⟩, hb3⟩
    rw [pa_col] at hn hx ⊢
    rw [colL_len]
    exact ⟨po, pc, rfl, hn, hx, hb3⟩
  · have I := himage_any po vo pc vc tau (colL c S i vs.length d) vs w'' hX (hV'.below hb2) (colL_len _ _ _ _ _) (by omega) ht (hT'.all hb2)
    rw [colL_len] at I
    exact I
  · have hV2 := hV'.below hb2
    have hT2 := hT'.all hb2
    obtain ⟨b1, o1, e1, _, z1⟩ := hX.ne (by rw [mxL_len, colL_len]; omega)
    obtain ⟨b2, o2, e2, _, z2⟩ := hV2.ne (by rw [mxL_len]; omega)
    subst e1
    subst e2
    have q1 := z1 j (by rw [mxL_len, colL_len]; exact hj)
    have q2 := z2 j (by rw [mxL_len]; exact hj)
    rw [mxL_at, colL_at c S i vs.length d hj] at q1
    rw [mxL_at] at q2
    have lv : vs.getD j 0 < 18446744073709551616 := by
      have := hV.lt j
      rwa [mxL_at] at this
    show Calls _ _ _ w'' fun e w3 => e = .returned (.int .u64 ((apL c S i d vs tau).getD j 0 : Nat)) ∧ _
    rw [apL_at c S i d vs tau hj]
    exact himage1_of _ _ _ (mV (mV tau (dtV 0 vs (colL c S i vs.length d))) (vs.getD j 0)) _ j vs.length vs.length pc vc bx bv bt b1 o1 b2 o2 w'' hj hj hx hv ht' q1 q2
      (fun w3 hb3 => vmul_any _ _ w3 (mV_lt _ _) lv (hT2.all hb3)) (fun w3 hb3 => psub_any _ _ w3 (h.el_lt _ _) (mV_lt _ _) (hT2.all hb3))

end Go.Proofs.YtimejpbmehegeaaGreatDoor

/- The law MatrixParts, walked. -/
namespace Go.Proofs.YtimejpbmehegeaaGreatDoor
open Go.RowKit
attribute [local go_sem ↓] Go.wp_at_zero Go.wp_at_succ
theorem Mx.from {w : World} {ao : Option Addr} {cap p q : Nat} {I : List Int} (h : BitsAt w ao cap I) (ho : okB (p : Int) (q : Int) I.length = true) : Mx w ao cap p q (natL I) := by
  obtain ⟨p', q', e1, e2, hM, _⟩ := Mx.of h ho
  obtain rfl : p = p' := by omega
  obtain rfl : q = q' := by omega
  exact hM

end Go.Proofs.YtimejpbmehegeaaGreatDoor

/- GivensKeeps by what givens.Turn and givens.Rows answer. -/
namespace Go.Proofs.YtimejpbmehegeaaGreatDoor
open Go.RowKit
attribute [local go_sem ↓] Go.wp_at_zero Go.wp_at_succ
theorem ckE_right {w : World} {ao : Option Addr} {cap r c : Nat} {S : List Nat} (h : Mx w ao cap r c S) (hf : ∀ x ∈ S, fFin x = true) : ckE (r : Int) (c : Int) (mxL S) = 0 := by
  have h1 : okB (r : Int) (c : Int) (mxL S).length = true := by
    rw [mxL_len]
    exact mx_ok h
  unfold ckE
  rw [if_pos h1, if_pos (by rw [mxL_len]; exact all_fin hf)]

end Go.Proofs.YtimejpbmehegeaaGreatDoor

/- HouseKeeps by what house.Make and house.Apply answer. -/
namespace Go.Proofs.YtimejpbmehegeaaGreatDoor
open Go.RowKit
theorem toN_ne {I : List Int} (h : 1 ≤ I.length) : toN I ≠ [] := fun e => by
  have := congrArg List.length e
  rw [toN_len] at this
  simp at this
  subst this
  simp at h

end Go.Proofs.YtimejpbmehegeaaGreatDoor

