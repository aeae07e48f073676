/- Part 25 of the texts. -/
import Derived.Test.YtheepcdlakjdcaaGreatDoorPart20
import Derived.Deep.RegionHeld3
import Derived.Test.YtheepcdlakjdcaaGreatDoorPart24
import Derived.ChangeKeysEq
/- The reference's Dot; the law VectorDots, walked. -/
namespace Go.Proofs.YtheepcdlakjdcaaGreatDoor
open Go.RowKit
attribute [local go_sem ↓] Go.wp_at_zero Go.wp_at_succ

set_option maxRecDepth 20000 in
set_option maxHeartbeats 4000000 in
theorem r9dot_any (ao bo : Option Addr) (c d : Nat) (I J : List Int) (w : World) (hI : BitsAt w ao c I) (hJ : BitsAt w bo d J) (hl : I.length = J.length) (hn : I.length ≤ 35184372088830) :
    Calls Tryz.prog 29 #[.slice ao I.length c, .slice bo J.length d] w fun e w' => e = .returned (.int .u64 (dtK I J I.length : Nat)) ∧ Below w.heap.size w w' := by
  have HI := hide hI; have HJ := hide hJ
  obtain ⟨n, hnn⟩ : ∃ n, I.length = n := ⟨_, rfl⟩
  rw [← hl, hnn]
  rw [hnn] at hn hl
  have HN := hide hnn; have HM := hide hl.symm
  clear hI hJ hnn hl
  go_enter Tryz.func29, Tryz.ntmps29
  go_wp2_with fail
  go_loopw [5, 6] (fun t i wr => ∃ k : Nat, k ≤ n ∧ i = .int .i64 k ∧ t = .int .u64 (dtK I J k : Nat) ∧ Hid (Below w.heap.size w wr)) (fun _ i _ => n - (intOf i).toNat)
  case atStart => exact ⟨0, Nat.zero_le _, rfl, rfl, Below.refl _ _⟩
  case round =>
    obtain ⟨k, hk, rfl, rfl, hB⟩ := hrel
    by_cases hlt : k < n
    · have hkI : (k : Int) < (n : Int) := by omega
      obtain ⟨b1, o1, hao, hb1, hc1⟩ := ((unhide HI).below hB.out).ne (by rw [unhide HN]; omega)
      obtain ⟨b2, o2, hbo, hb2, hc2⟩ := ((unhide HJ).below hB.out).ne (by rw [unhide HM]; omega)
      have cx := hc1 k (by rw [unhide HN]; exact hlt)
      have cy := hc2 k (by rw [unhide HM]; exact hlt)
      have C1 := hide (fun w' => r9mul_any (atB I k) (atB J k) w' ((unhide HI).lt k) ((unhide HJ).lt k))
      have C2 := hide (fun w' => r9add_any (dtK I J k) (mV (atB I k) (atB J k)) w' (dtK_lt I J k) (mV_lt _ _))
      have eV : Hid (dtK I J (k + 1) = aV (dtK I J k) (mV (atB I k) (atB J k))) := rfl
      subst hao
      subst hbo
      clear hc1 hc2
      generalize aV (dtK I J k) (mV (atB I k) (atB J k)) = o at *
      generalize mV (atB I k) (atB J k) = p at *
      generalize atB I k = x at *
      generalize atB J k = y at *
      generalize dtK I J k = s at *
      have HK := hide (fun w' (h : Below wr.heap.size wr w') => (show Below wr.heap.size wr w' ∧ w'.cell? ⟨b1, o1 + k, none⟩ = some (.int .u64 (x : Nat)) ∧ w'.cell? ⟨b2, o2 + k, none⟩ = some (.int .u64 (y : Nat)) from ⟨h, cell_keep cx h, cell_keep cy h⟩))
      clear cx cy
      go_wp2_with fail
      go_region_held3 (fun w' => Below wr.heap.size wr w' ∧ w'.cell? ⟨b1, o1 + k, none⟩ = some (.int .u64 (x : Nat)) ∧ w'.cell? ⟨b2, o2 + k, none⟩ = some (.int .u64 (y : Nat)))
        (first | exact unhide HK _ (Below.refl _ _).drew | exact unhide HK _ (by assumption) | fail "KK")
        (first | (go_at_call 43; refine (unhide C1 _).mono ?_; rintro e w1 ⟨rfl, hb3⟩; have hB1 : Below wr.heap.size wr w1 := Below.trans (And.left (by assumption)) (hb3.mono (Below.size (And.left (by assumption)))); clear hb3) | (go_at_call 42; refine (unhide C2 _).mono ?_; rintro e w2 ⟨rfl, hb4⟩; have hB2 : Below wr.heap.size wr w2 := Below.trans (And.left (by assumption)) (hb4.mono (Below.size (And.left (by assumption)))); clear hb4) | fail "NO ARM")
      have B2 : Hid (Below w.heap.size w _) := hB.out.trans (Below.mono (And.left (by assumption)) hB.out.size)
      go_wp2_with fail
      go_round
      case rel => exact ⟨k + 1, by omega, by go_num, by rw [eV.out], B2⟩
      case measure => simp [intOf]; omega
    · have hkk : k = n := by omega
      subst hkk
      go_wp2_with fail
      exact bodyPost_ret (v := .int .u64 (dtK I J k : Nat)) (by simp [results, Tryz.results29, go_sem]) rfl ⟨rfl, hB.out⟩

end Go.Proofs.YtheepcdlakjdcaaGreatDoor

/- Layer 10: differences (the program's Sub and the reference's), the reference's columns. -/
namespace Go.Proofs.YtheepcdlakjdcaaGreatDoor
open Go.RowKit
attribute [local go_sem ↓] Go.wp_at_zero Go.wp_at_succ

set_option maxRecDepth 20000 in
set_option maxHeartbeats 4000000 in
theorem r9sub_of (a b v : Nat) (o : Option Nat) (w : World)
    (hA : ∀ i w', (binOp .sub i (.float .f64 a) (.float .f64 b)).run Tryz.prog w' = .ok (.float .f64 (fres o a b w')) (fwld o w'))
    (F1 : ∀ w', Calls Tryz.prog 46 #[.int .u64 a] w' fun r w'' => r = .returned (.float .f64 a) ∧ w' = w'')
    (F2 : ∀ w', Calls Tryz.prog 46 #[.int .u64 b] w' fun r w'' => r = .returned (.float .f64 b) ∧ w' = w'')
    (N1 : ∀ u w', Calls Tryz.prog 45 #[.float .f64 (fres o a b u)] w' fun r w'' => r = .returned (.int .u64 v) ∧ w' = w'') :
    Calls Tryz.prog 32 #[.int .u64 a, .int .u64 b] w fun r w' => r = .returned (.int .u64 (v : Nat)) ∧ Below w.heap.size w w' := by
  have L1 := hide F1; have L2 := hide F2; have M1 := hide N1
  have B := hide (below_fwld o w)
  clear F1 F2 N1
  go_enter Tryz.func32, Tryz.ntmps32
  go_wp2_with fail
  refine (unhide L1 _).mono ?_
  rintro e w2 ⟨rfl, rfl⟩
  go_wp2_with fail
  refine (unhide L2 _).mono ?_
  rintro e w2 ⟨rfl, rfl⟩
  go_wp2_with fail
  refine (unhide M1 _ _).mono ?_
  rintro e w2 ⟨rfl, rfl⟩
  clear L1 L2 M1
  go_wp2
  go_ret
  exact ⟨rfl, unhide B⟩

theorem r9sub_any (a b : Nat) (w : World) (ha : a < 18446744073709551616) (hb : b < 18446744073709551616) :
    Calls Tryz.prog 32 #[.int .u64 a, .int .u64 b] w fun r w' => r = .returned (.int .u64 (aV a (fN b) : Nat)) ∧ Below w.heap.size w w' := by
  refine r9sub_of a b (aV a (fN b)) (Ieee.double.sub a b) w (fun i w' => fsub_run i a b w') (fun w' => f9_any a w' ha) (fun w' => f9_any b w' hb) (fun u w' => b9_of _ _ w' (fun w'' => ?_))
  rw [fsub_add a b hb]
  cases h : Ieee.double.add a (fN b) with
  | some r =>
    have := canon_add a (fN b) u w'' ha (fN_lt b hb)
    rw [h] at this
    exact this
  | none =>
    have hn : aN a (fN b) = true := by
      cases e : aN a (fN b) with
      | true => rfl
      | false => rw [fadd_some a (fN b) ha (fN_lt b hb) e] at h; cases h
    rw [(fadd_none a (fN b) ha (fN_lt b hb) hn).2]
    obtain ⟨h3, h4⟩ := fres_none a b u
    have := canon_any _ w'' h3
    rw [if_pos h4] at this
    exact this

set_option maxRecDepth 20000 in
set_option maxHeartbeats 4000000 in
theorem sub1_of (r c n cap p q m d i k x y z ba bb : Nat) (fl : Int) (ao bo : Option Addr) (w : World) (hX : BoxM w ba (.int .i64 r) (.int .i64 c) (.slice ao n cap)) (hY : BoxM w bb (.int .i64 p) (.int .i64 q) (.slice bo m d))
    (C1 : ∀ w', Below w.heap.size w w' → Calls Tryz.prog 25 #[.agg #[.int .i64 r, .int .i64 c, .slice ao n cap], .int .i64 i, .int .i64 k] w' fun e w'' => e = .returned (.int .u64 (x : Nat)) ∧ Below w'.heap.size w' w'')
    (C2 : ∀ w', Below w.heap.size w w' → Calls Tryz.prog 25 #[.agg #[.int .i64 p, .int .i64 q, .slice bo m d], .int .i64 i, .int .i64 k] w' fun e w'' => e = .returned (.int .u64 (y : Nat)) ∧ Below w'.heap.size w' w'')
    (C3 : ∀ w', Below w.heap.size w w' → Calls Tryz.prog 24 #[.int .u64 x, .int .u64 y] w' fun e w'' => e = .returned (.tuple #[.int .u64 (z : Nat), .int .u8 fl]) ∧ Below w'.heap.size w' w'') :
    Calls Tryz.prog 23 #[.int .i64 i, .int .i64 k, .pointer (some ⟨ba, 0, none⟩), .pointer (some ⟨bb, 0, none⟩)] w fun e w' => e = .returned (.int .u64 (z : Nat)) ∧ Below w.heap.size w w' := by
  have K1 := hide C1; have K2 := hide C2; have K3 := hide C3
  have HK := hide (fun w' (h : Below w.heap.size w w') => (show Below w.heap.size w w' ∧ (w'.cell? ⟨ba, 0, none⟩ = some (.int .i64 r) ∧ w'.cell? ⟨ba, 1, none⟩ = some (.int .i64 c) ∧ w'.cell? ⟨ba, 2, none⟩ = some (.slice ao n cap)) ∧ (w'.cell? ⟨bb, 0, none⟩ = some (.int .i64 p) ∧ w'.cell? ⟨bb, 1, none⟩ = some (.int .i64 q) ∧ w'.cell? ⟨bb, 2, none⟩ = some (.slice bo m d)) from
    ⟨h, ⟨(hX.all h).c0, (hX.all h).c1, (hX.all h).c2⟩, (hY.all h).c0, (hY.all h).c1, (hY.all h).c2⟩))
  clear C1 C2 C3 hX hY
  go_enter Tryz.func23, Tryz.ntmps23
  go_wp2_with fail
  go_region_held3 (fun w' => Below w.heap.size w w' ∧ (w'.cell? ⟨ba, 0, none⟩ = some (.int .i64 r) ∧ w'.cell? ⟨ba, 1, none⟩ = some (.int .i64 c) ∧ w'.cell? ⟨ba, 2, none⟩ = some (.slice ao n cap)) ∧ (w'.cell? ⟨bb, 0, none⟩ = some (.int .i64 p) ∧ w'.cell? ⟨bb, 1, none⟩ = some (.int .i64 q) ∧ w'.cell? ⟨bb, 2, none⟩ = some (.slice bo m d)))
    (first | exact unhide HK _ (Below.refl _ _).drew | exact unhide HK _ (by assumption) | fail "KK")
    (first | (go_at_call_of 25 (Value.agg #[.int .i64 r, .int .i64 c, .slice ao n cap]); refine (unhide K1 _ (And.left (by assumption))).mono ?_; rintro e w1 ⟨rfl, hb1⟩; have hB1 : Below w.heap.size w w1 := Below.trans (And.left (by assumption)) (hb1.mono (Below.size (And.left (by assumption)))); clear hb1 K1) | (go_at_call_of 25 (Value.agg #[.int .i64 p, .int .i64 q, .slice bo m d]); refine (unhide K2 _ (And.left (by assumption))).mono ?_; rintro e w2 ⟨rfl, hb2⟩; have hB2 : Below w.heap.size w w2 := Below.trans (And.left (by assumption)) (hb2.mono (Below.size (And.left (by assumption)))); clear hb2 K2) | (go_at_call 24; refine (unhide K3 _ (And.left (by assumption))).mono ?_; rintro e w3 ⟨rfl, hb3⟩; have hB3 : Below w.heap.size w w3 := Below.trans (And.left (by assumption)) (hb3.mono (Below.size (And.left (by assumption)))); clear hb3) | fail "NO ARM")
  all_goals
    go_wp2
    go_ret
    exact ⟨rfl, And.left (by assumption)⟩

set_option maxRecDepth 20000 in
set_option maxHeartbeats 4000000 in
theorem msize_any (r c : Int) (ao : Option Addr) (n cap : Nat) (w : World) :
    Calls Tryz.prog 22 #[.agg #[.int .i64 r, .int .i64 c, .slice ao n cap]] w fun e w' => e = .returned (.agg #[.int .i64 r, .int .i64 c]) ∧ Below w.heap.size w w' := by
  have b0 := below_alloc9 w (.cells #[.int .i64 r, .int .i64 c, .slice ao n cap] 24)
  have b1 := below_alloc9 (w.alloc (.cells #[.int .i64 r, .int .i64 c, .slice ao n cap] 24)) (.cells #[.int .i64 r, .int .i64 c] 45)
  have BP := hide (b0.trans (b1.mono b0.size))
  clear b0 b1
  go_enter Tryz.func22, Tryz.ntmps22
  go_wp2
  exact bodyPost_ret (v := .agg #[.int .i64 r, .int .i64 c]) (by simp [results, Tryz.results22, go_sem]) rfl ⟨rfl, unhide BP⟩

/-- What Zeros makes: a row of its own. -/
theorem rzeros_row (r c : Nat) (w : World) (hr : r ≤ 6) (hc : c ≤ 6) :
    Calls Tryz.prog 27 #[.int .i64 r, .int .i64 c] w fun e w' => ∃ g, e = .returned (.agg #[.int .i64 r, .int .i64 c, .slice (some ⟨g, 0, none⟩) (r * c) (r * c)]) ∧ w.heap.size ≤ g ∧ RowB w' g (List.replicate (r * c) 0) ∧ Below w.heap.size w w' := by
  have hm : (r : Int) * (c : Int) = ((r * c : Nat) : Int) := cast_mul10 r c
  have h36 : r * c ≤ 36 := Nat.mul_le_mul hr hc
  have hmk := run_make_row' (P := Tryz.prog) 22 40 (.int .u64 0) 8 Tryz.underlying22 (by kernel_rfl) rfl .i64 .i64 (r * c) (by omega) (by omega)
  generalize hrc : r * c = n at *
  clear hrc
  have b0 := below_alloc9 w (.cells #[.int .i64 r, .int .i64 c, .slice (some ⟨w.heap.size + 1, 0, none⟩) n n] 24)
  have s0 := size_alloc9 w (.cells #[.int .i64 r, .int .i64 c, .slice (some ⟨w.heap.size + 1, 0, none⟩) n n] 24)
  have b1 := below_alloc9 (w.alloc (.cells #[.int .i64 r, .int .i64 c, .slice (some ⟨w.heap.size + 1, 0, none⟩) n n] 24)) (.cells (madeCells #[.int .u64 0] n) 40)
  have RB := RowB.made (w.alloc (.cells #[.int .i64 r, .int .i64 c, .slice (some ⟨w.heap.size + 1, 0, none⟩) n n] 24)) n
  have BP := hide (b0.trans (b1.mono b0.size))
  rw [s0] at RB
  have Q := hide RB
  clear b0 b1 RB s0
  go_enter Tryz.func27, Tryz.ntmps27
  go_wp2
  exact bodyPost_ret (v := .agg #[.int .i64 r, .int .i64 c, .slice (some ⟨w.heap.size + 1, 0, none⟩) n n]) (by simp [results, Tryz.results27, go_sem]) rfl ⟨w.heap.size + 1, rfl, by omega, unhide Q, unhide BP⟩

/-- A column's numbers. -/
def clL (r c : Nat) (S : List Nat) (k : Nat) : List Nat := fsL (fun i => elM c S i k) r

set_option maxRecDepth 20000 in
set_option maxHeartbeats 4000000 in
theorem rcol_any (r c cap k : Nat) (ao : Option Addr) (S : List Nat) (w : World) (h : Mx w ao cap r c S) (hk : k < c) :
    Calls Tryz.prog 31 #[.agg #[.int .i64 r, .int .i64 c, .slice ao S.length cap], .int .i64 k, .int .i64 0] w fun e w' => ∃ bo d, e = .returned (.slice bo r d) ∧ BitsAt w' bo d (mxL (clL r c S k)) ∧ Below w.heap.size w w' := by
  have HH := hide h
  have r6 := h.2.2.1
  have s0 := size_alloc9 w (.cells #[.int .i64 r, .int .i64 c, .slice ao S.length cap] 24)
  have b0 := below_alloc9 w (.cells #[.int .i64 r, .int .i64 c, .slice ao S.length cap] 24)
  have X0 := BoxM.new w (.int .i64 r) (.int .i64 c) (.slice ao S.length cap)
  have b1 := below_alloc9 (w.alloc (.cells #[.int .i64 r, .int .i64 c, .slice ao S.length cap] 24)) (.cells #[] 40)
  have O0 := OwnB.nil (w.alloc (.cells #[.int .i64 r, .int .i64 c, .slice ao S.length cap] 24)) (w.heap.size + 1) (by rw [s0]; omega)
  rw [s0] at O0
  have HO := hide O0; have HX := hide (X0.all b1); have HB := hide (b0.trans (b1.mono b0.size))
  obtain ⟨l, hl⟩ : ∃ l, S.length = l := ⟨_, rfl⟩
  rw [hl] at HX HB HO
  rw [hl]
  have HLL := hide hl
  clear h s0 b0 X0 b1 O0 hl
  go_enter Tryz.func31, Tryz.ntmps31
  go_wp2_with fail
  go_loopw [7, 8] (fun v i wr => ∃ j : Nat, j ≤ r ∧ i = .int .i64 j ∧ Hid (OwnB (w.heap.size + 1) wr v (fsL (fun i => elM c S i k) j)) ∧ Hid (BoxM wr w.heap.size (.int .i64 r) (.int .i64 c) (.slice ao l cap)) ∧ Hid (Below w.heap.size w wr)) (fun _ i _ => r - (intOf i).toNat)
  case atStart => exact ⟨0, Nat.zero_le _, rfl, HO, HX, HB⟩
  case round =>
    clear HO HX HB
    obtain ⟨j, hj, rfl, hO, hX, hB⟩ := hrel
    have t0 := (unhide hX).c0; have t1 := (unhide hX).c1; have t2 := (unhide hX).c2
    by_cases hlt : j < r
    · have hjI : (j : Int) < (r : Int) := by omega
      have C := hide (fun w' (m : Mx w' ao cap r c S) => rat_any r c cap j k ao S w' m hlt hk)
      rw [unhide HLL] at C
      have HM := hide ((unhide HH).below hB.out)
      have ho := hide ((unhide HH).el_lt j k)
      have hlen := hide (show (fsL (fun i => elM c S i k) j).length ≤ 1000000 from by rw [fsL_len]; omega)
      have eS := hide (fsL_succ (fun i => elM c S i k) j)
      generalize elM c S j k = o at *
      go_wp2_with fail
      refine (unhide C _ (unhide HM)).mono ?_
      rintro e w2 ⟨rfl, hb2⟩
      have own2 := (unhide hO).below hb2
      have box2 := (unhide hX).all hb2
      have B2 := hB.out.trans (hb2.mono hB.out.size)
      obtain ⟨v3, w3, run3, own3, bel3, _, _⟩ := own2.push o (unhide ho) (unhide hlen) (by have := box2.lt; omega) 22
      have RUN := hide run3
      have O3 := hide (show OwnB (w.heap.size + 1) w3 v3 (fsL (fun i => elM c S i k) (j + 1)) from by rw [unhide eS]; exact own3)
      have X3 := hide (box2.below bel3 (by omega))
      have B3 := hide (B2.trans (bel3.mono (by omega)))
      clear hb2 C hO hX hB own2 box2 B2 run3 own3 bel3 ho hlen eS HM t0 t1 t2
      go_wp2_with (at_builtin; refine wpList_append_ran _ rfl _ _ 22 rfl _ _ _ _ rfl rfl (unhide RUN) ?_; clear RUN)
      go_round
      case rel => exact ⟨j + 1, by omega, by go_num, O3, X3, B3⟩
      case measure => simp [intOf]; omega
    · have hjj : r = j := by omega
      subst hjj
      obtain ⟨b1, d1, e1, q1⟩ := (unhide hO).bits
      rw [fsL_len] at e1
      subst e1
      have Q1 := hide q1
      clear q1 hO
      go_wp2_with fail
      go_ret
      exact ⟨b1, d1, rfl, unhide Q1, hB.out⟩

end Go.Proofs.YtheepcdlakjdcaaGreatDoor

/- Package matrix: Sub (mknr.py). -/
namespace Go.Proofs.YtheepcdlakjdcaaGreatDoor
open Go.RowKit
attribute [local go_sem ↓] Go.wp_at_zero Go.wp_at_succ

set_option maxRecDepth 20000 in
theorem eq_sizes (w : World) (r c p q : Int) :
    (Op.equalIn 10000 45 (.agg #[.int .i64 r, .int .i64 c]) (.agg #[.int .i64 p, .int .i64 q])).run Tryz.prog w = .ok (decide (r = p) && decide (c = q)) w := by
  have h := run_equalIn_array (P := Tryz.prog) (w := w) 9999 (t := 45) (e := 3) (n := 2) #[.int .i64 r, .int .i64 c] #[.int .i64 p, .int .i64 q] (by kernel_rfl) rfl
  have p0 := run_part_plain (P := Tryz.prog) w (e := 3) (by kernel_rfl) (xs := #[.int .i64 r, .int .i64 c]) (off := 0) (v := .int .i64 r) rfl
  have p1 := run_part_plain (P := Tryz.prog) w (e := 3) (by kernel_rfl) (xs := #[.int .i64 r, .int .i64 c]) (off := 1) (v := .int .i64 c) rfl
  have q0 := run_part_plain (P := Tryz.prog) w (e := 3) (by kernel_rfl) (xs := #[.int .i64 p, .int .i64 q]) (off := 0) (v := .int .i64 p) rfl
  have q1 := run_part_plain (P := Tryz.prog) w (e := 3) (by kernel_rfl) (xs := #[.int .i64 p, .int .i64 q]) (off := 1) (v := .int .i64 q) rfl
  have r0 := run_equalIn_int (P := Tryz.prog) w 9998 3 .i64 .i64 r p Tryz.underlying3
  have r1 := run_equalIn_int (P := Tryz.prog) w 9998 3 .i64 .i64 c q Tryz.underlying3
  rw [show (10000 : Nat) = 9999 + 1 from rfl, h, show Tryz.prog.cellsOf 3 = 1 by kernel_rfl, show List.range 2 = [0, 1] from rfl]
  simp only [Op.eqItems, Sem.run_bind, Nat.zero_mul, Nat.one_mul, p0, q0, r0, Result.andThen_ok]
  by_cases e1 : r = p
  · subst e1
    by_cases e2 : c = q
    · subst e2
      simp [r1, p1]
    · simp [r1, p1, q1, e2]
  · simp [e1]

set_option maxRecDepth 20000 in
set_option maxHeartbeats 4000000 in
theorem msub_rows (r c n cap p q m d : Nat) (ao bo : Option Addr) (w : World) (hn : n ≤ 36) (hm : m ≤ 36) (_hr : r ≤ 6) (_hc : c ≤ 6) (_hp : p ≤ 6) (_hq : q ≤ 6) (h : (okB r c n && okB p q m) = true) (hne : r ≠ p) :
    Calls Tryz.prog 7 #[.agg #[.int .i64 r, .int .i64 c, .slice ao n cap], .agg #[.int .i64 p, .int .i64 q, .slice bo m d]] w fun e w' => ∃ v, e = .returned (.tuple #[v, .int .i64 3]) ∧ NewM w.heap.size w' 0 0 [] v ∧ Below w.heap.size w w' := by
  have K := hide (right2_any r c ao n cap p q bo m d (((w.alloc (.cells #[.int .i64 r, .int .i64 c, .slice ao n cap] 24)).alloc (.cells #[.int .i64 p, .int .i64 q, .slice bo m d] 24)).alloc (.cells #[.int .i64 0, .int .i64 0, .slice none 0 0] 24)) (by omega) (by omega))
  rw [h] at K
  simp only [size_alloc9] at K
  have KB := hide (boxes3 w (.int .i64 r) (.int .i64 c) (.slice ao n cap) (.int .i64 p) (.int .i64 q) (.slice bo m d) (.int .i64 0) (.int .i64 0) (.slice none 0 0))
  have hEq : ∀ w', (Op.equalIn 10000 45 (.agg #[.int .i64 (r : Nat), .int .i64 (c : Nat)]) (.agg #[.int .i64 (p : Nat), .int .i64 (q : Nat)])).run Tryz.prog w' = .ok false w' := fun w' => by rw [eq_sizes]; simp; omega
  clear h hne
  go_enter Tryz.func7, Tryz.ntmps7
  go_wp2_with fail
  refine Calls.mono (unhide K) ?_
  rintro e w1 ⟨rfl, hb1⟩
  obtain ⟨hB, hA, hA2, hX⟩ := unhide KB w1 hb1
  have HK := hide (fun w' (h : Below w1.heap.size w1 w') => (show Below w1.heap.size w1 w' ∧ (w'.cell? ⟨w.heap.size, 0, none⟩ = some (.int .i64 r) ∧ w'.cell? ⟨w.heap.size, 1, none⟩ = some (.int .i64 c) ∧ w'.cell? ⟨w.heap.size, 2, none⟩ = some (.slice ao n cap)) ∧ (w'.cell? ⟨w.heap.size + 1, 0, none⟩ = some (.int .i64 p) ∧ w'.cell? ⟨w.heap.size + 1, 1, none⟩ = some (.int .i64 q) ∧ w'.cell? ⟨w.heap.size + 1, 2, none⟩ = some (.slice bo m d)) from ⟨h, ⟨(hA.all h).c0, (hA.all h).c1, (hA.all h).c2⟩, (hA2.all h).c0, (hA2.all h).c1, (hA2.all h).c2⟩))
  have HHB := hide hB; have HHA := hide hA; have HHC := hide hA2; have HHX := hide hX
  clear K KB hb1 hA hA2 hX hB
  go_wp2_with fail
  go_region_held3 (fun w' => Below w1.heap.size w1 w' ∧ (w'.cell? ⟨w.heap.size, 0, none⟩ = some (.int .i64 r) ∧ w'.cell? ⟨w.heap.size, 1, none⟩ = some (.int .i64 c) ∧ w'.cell? ⟨w.heap.size, 2, none⟩ = some (.slice ao n cap)) ∧ (w'.cell? ⟨w.heap.size + 1, 0, none⟩ = some (.int .i64 p) ∧ w'.cell? ⟨w.heap.size + 1, 1, none⟩ = some (.int .i64 q) ∧ w'.cell? ⟨w.heap.size + 1, 2, none⟩ = some (.slice bo m d)))
    (first | exact unhide HK _ (Below.refl _ _).drew | exact unhide HK _ (by assumption) | fail "KK")
    (first | (go_at_call_of 22 (Value.agg #[.int .i64 r, .int .i64 c, .slice ao n cap]); refine (msize_any _ _ _ _ _ _).mono ?_; rintro e w2 ⟨rfl, hb2⟩; have hB2 : Below w1.heap.size w1 w2 := Below.trans (And.left (by assumption)) (hb2.mono (Below.size (And.left (by assumption)))); clear hb2) | (go_at_call_of 22 (Value.agg #[.int .i64 p, .int .i64 q, .slice bo m d]); refine (msize_any _ _ _ _ _ _).mono ?_; rintro e w3 ⟨rfl, hb3⟩; have hB3 : Below w1.heap.size w1 w3 := Below.trans (And.left (by assumption)) (hb3.mono (Below.size (And.left (by assumption)))); clear hb3) | fail "NO ARM")
  all_goals
    have hW : Below w1.heap.size w1 _ := And.left (by assumption)
    have hB := (unhide HHB).trans (hW.mono (unhide HHB).size); have hA := (unhide HHA).all hW; have hA2 := (unhide HHC).all hW; have hX := (unhide HHX).all hW
    clear HK HHB HHA HHC HHX hW
    have f0 := hX.free 0; have f1 := hX.free 1; have f2 := hX.free 2
    have s0 := hX.c0; have s1 := hX.c1; have s2 := hX.c2
    have XP := hX.put (.int .i64 0) (.int .i64 0) (.slice none 0 0)
    have z0 := XP.c0; have z1 := XP.c1; have z2 := XP.c2
    have BP := hide (below_putM hB (b := w.heap.size + 1 + 1) (by omega) (.int .i64 0) (.int .i64 0) (.slice none 0 0))
    clear XP hX hB
    go_wp2
    exact bodyPost_ret (v := .tuple #[.agg #[.int .i64 0, .int .i64 0, .slice none 0 0], .int .i64 3]) (by simp [results, Tryz.results7, go_sem, z0, z1, z2]) rfl ⟨_, rfl, NewM.zero _ _, unhide BP⟩

set_option maxRecDepth 20000 in
set_option maxHeartbeats 4000000 in
theorem msub_cols (r c n cap p q m d : Nat) (ao bo : Option Addr) (w : World) (hn : n ≤ 36) (hm : m ≤ 36) (_hr : r ≤ 6) (_hc : c ≤ 6) (_hp : p ≤ 6) (_hq : q ≤ 6) (h : (okB r c n && okB p q m) = true) (hne : c ≠ q) :
    Calls Tryz.prog 7 #[.agg #[.int .i64 r, .int .i64 c, .slice ao n cap], .agg #[.int .i64 p, .int .i64 q, .slice bo m d]] w fun e w' => ∃ v, e = .returned (.tuple #[v, .int .i64 3]) ∧ NewM w.heap.size w' 0 0 [] v ∧ Below w.heap.size w w' := by
  have K := hide (right2_any r c ao n cap p q bo m d (((w.alloc (.cells #[.int .i64 r, .int .i64 c, .slice ao n cap] 24)).alloc (.cells #[.int .i64 p, .int .i64 q, .slice bo m d] 24)).alloc (.cells #[.int .i64 0, .int .i64 0, .slice none 0 0] 24)) (by omega) (by omega))
  rw [h] at K
  simp only [size_alloc9] at K
  have KB := hide (boxes3 w (.int .i64 r) (.int .i64 c) (.slice ao n cap) (.int .i64 p) (.int .i64 q) (.slice bo m d) (.int .i64 0) (.int .i64 0) (.slice none 0 0))
  have hEq : ∀ w', (Op.equalIn 10000 45 (.agg #[.int .i64 (r : Nat), .int .i64 (c : Nat)]) (.agg #[.int .i64 (p : Nat), .int .i64 (q : Nat)])).run Tryz.prog w' = .ok false w' := fun w' => by rw [eq_sizes]; simp; omega
  clear h hne
  go_enter Tryz.func7, Tryz.ntmps7
  go_wp2_with fail
  refine Calls.mono (unhide K) ?_
  rintro e w1 ⟨rfl, hb1⟩
  obtain ⟨hB, hA, hA2, hX⟩ := unhide KB w1 hb1
  have HK := hide (fun w' (h : Below w1.heap.size w1 w') => (show Below w1.heap.size w1 w' ∧ (w'.cell? ⟨w.heap.size, 0, none⟩ = some (.int .i64 r) ∧ w'.cell? ⟨w.heap.size, 1, none⟩ = some (.int .i64 c) ∧ w'.cell? ⟨w.heap.size, 2, none⟩ = some (.slice ao n cap)) ∧ (w'.cell? ⟨w.heap.size + 1, 0, none⟩ = some (.int .i64 p) ∧ w'.cell? ⟨w.heap.size + 1, 1, none⟩ = some (.int .i64 q) ∧ w'.cell? ⟨w.heap.size + 1, 2, none⟩ = some (.slice bo m d)) from ⟨h, ⟨(hA.all h).c0, (hA.all h).c1, (hA.all h).c2⟩, (hA2.all h).c0, (hA2.all h).c1, (hA2.all h).c2⟩))
  have HHB := hide hB; have HHA := hide hA; have HHC := hide hA2; have HHX := hide hX
  clear K KB hb1 hA hA2 hX hB
  go_wp2_with fail
  go_region_held3 (fun w' => Below w1.heap.size w1 w' ∧ (w'.cell? ⟨w.heap.size, 0, none⟩ = some (.int .i64 r) ∧ w'.cell? ⟨w.heap.size, 1, none⟩ = some (.int .i64 c) ∧ w'.cell? ⟨w.heap.size, 2, none⟩ = some (.slice ao n cap)) ∧ (w'.cell? ⟨w.heap.size + 1, 0, none⟩ = some (.int .i64 p) ∧ w'.cell? ⟨w.heap.size + 1, 1, none⟩ = some (.int .i64 q) ∧ w'.cell? ⟨w.heap.size + 1, 2, none⟩ = some (.slice bo m d)))
    (first | exact unhide HK _ (Below.refl _ _).drew | exact unhide HK _ (by assumption) | fail "KK")
    (first | (go_at_call_of 22 (Value.agg #[.int .i64 r, .int .i64 c, .slice ao n cap]); refine (msize_any _ _ _ _ _ _).mono ?_; rintro e w2 ⟨rfl, hb2⟩; have hB2 : Below w1.heap.size w1 w2 := Below.trans (And.left (by assumption)) (hb2.mono (Below.size (And.left (by assumption)))); clear hb2) | (go_at_call_of 22 (Value.agg #[.int .i64 p, .int .i64 q, .slice bo m d]); refine (msize_any _ _ _ _ _ _).mono ?_; rintro e w3 ⟨rfl, hb3⟩; have hB3 : Below w1.heap.size w1 w3 := Below.trans (And.left (by assumption)) (hb3.mono (Below.size (And.left (by assumption)))); clear hb3) | fail "NO ARM")
  all_goals
    have hW : Below w1.heap.size w1 _ := And.left (by assumption)
    have hB := (unhide HHB).trans (hW.mono (unhide HHB).size); have hA := (unhide HHA).all hW; have hA2 := (unhide HHC).all hW; have hX := (unhide HHX).all hW
    clear HK HHB HHA HHC HHX hW
    have f0 := hX.free 0; have f1 := hX.free 1; have f2 := hX.free 2
    have s0 := hX.c0; have s1 := hX.c1; have s2 := hX.c2
    have XP := hX.put (.int .i64 0) (.int .i64 0) (.slice none 0 0)
    have z0 := XP.c0; have z1 := XP.c1; have z2 := XP.c2
    have BP := hide (below_putM hB (b := w.heap.size + 1 + 1) (by omega) (.int .i64 0) (.int .i64 0) (.slice none 0 0))
    clear XP hX hB
    go_wp2
    exact bodyPost_ret (v := .tuple #[.agg #[.int .i64 0, .int .i64 0, .slice none 0 0], .int .i64 3]) (by simp [results, Tryz.results7, go_sem, z0, z1, z2]) rfl ⟨_, rfl, NewM.zero _ _, unhide BP⟩

set_option maxRecDepth 20000 in
set_option maxHeartbeats 4000000 in
theorem msub_of (r c n cap p q m d : Nat) (ao bo : Option Addr) (x y : Nat) (S : List Nat) (w : World) (hn : n ≤ 36) (hm : m ≤ 36) (_hr : r ≤ 6) (_hc : c ≤ 6) (_hp : p ≤ 6) (_hq : q ≤ 6) (h : (okB r c n && okB p q m) = true) (he : r = p) (he2 : c = q)
    (C : ∀ w1, Below w.heap.size w w1 → BoxM w1 w.heap.size (.int .i64 r) (.int .i64 c) (.slice ao n cap) → BoxM w1 (w.heap.size + 1) (.int .i64 p) (.int .i64 q) (.slice bo m d) → Calls Tryz.prog 18 #[.int .i64 r, .int .i64 c, .func (.func 23) #[] #[.pointer (some ⟨w.heap.size, 0, none⟩), .pointer (some ⟨w.heap.size + 1, 0, none⟩)]] w1 fun e w'' => ∃ v, e = .returned v ∧ NewM w1.heap.size w'' x y S v ∧ Below w1.heap.size w1 w'') :
    Calls Tryz.prog 7 #[.agg #[.int .i64 r, .int .i64 c, .slice ao n cap], .agg #[.int .i64 p, .int .i64 q, .slice bo m d]] w fun e w' => ∃ v, e = .returned (.tuple #[v, .int .i64 0]) ∧ NewM w.heap.size w' x y S v ∧ Below w.heap.size w w' := by
  have K := hide (right2_any r c ao n cap p q bo m d (((w.alloc (.cells #[.int .i64 r, .int .i64 c, .slice ao n cap] 24)).alloc (.cells #[.int .i64 p, .int .i64 q, .slice bo m d] 24)).alloc (.cells #[.int .i64 0, .int .i64 0, .slice none 0 0] 24)) (by omega) (by omega))
  rw [h] at K
  simp only [size_alloc9] at K
  have KB := hide (boxes3 w (.int .i64 r) (.int .i64 c) (.slice ao n cap) (.int .i64 p) (.int .i64 q) (.slice bo m d) (.int .i64 0) (.int .i64 0) (.slice none 0 0))
  have KT := hide (fun w1 (hB : Below w.heap.size w w1) (hA : BoxM w1 w.heap.size (.int .i64 r) (.int .i64 c) (.slice ao n cap)) (hA2 : BoxM w1 (w.heap.size + 1) (.int .i64 p) (.int .i64 q) (.slice bo m d)) (hX : BoxM w1 (w.heap.size + 1 + 1) (.int .i64 0) (.int .i64 0) (.slice none 0 0)) => (C w1 hB hA hA2).mono (R' := fun e w'' => ∃ v, e = .returned v ∧ NewM w.heap.size w'' x y S v ∧ Below w.heap.size w w'' ∧ BoxM w'' (w.heap.size + 1 + 1) (.int .i64 0) (.int .i64 0) (.slice none 0 0)) (by
    rintro e w'' ⟨v, rfl, h1, h2⟩
    exact ⟨v, rfl, h1.least hB.size, hB.trans (h2.mono hB.size), hX.all h2⟩))
  have hEq : ∀ w', (Op.equalIn 10000 45 (.agg #[.int .i64 (r : Nat), .int .i64 (c : Nat)]) (.agg #[.int .i64 (p : Nat), .int .i64 (q : Nat)])).run Tryz.prog w' = .ok true w' := fun w' => by rw [eq_sizes]; simp; omega
  clear h C he he2
  go_enter Tryz.func7, Tryz.ntmps7
  go_wp2_with fail
  refine Calls.mono (unhide K) ?_
  rintro e w1 ⟨rfl, hb1⟩
  obtain ⟨hB, hA, hA2, hX⟩ := unhide KB w1 hb1
  have HK := hide (fun w' (h : Below w1.heap.size w1 w') => (show Below w1.heap.size w1 w' ∧ (w'.cell? ⟨w.heap.size, 0, none⟩ = some (.int .i64 r) ∧ w'.cell? ⟨w.heap.size, 1, none⟩ = some (.int .i64 c) ∧ w'.cell? ⟨w.heap.size, 2, none⟩ = some (.slice ao n cap)) ∧ (w'.cell? ⟨w.heap.size + 1, 0, none⟩ = some (.int .i64 p) ∧ w'.cell? ⟨w.heap.size + 1, 1, none⟩ = some (.int .i64 q) ∧ w'.cell? ⟨w.heap.size + 1, 2, none⟩ = some (.slice bo m d)) from ⟨h, ⟨(hA.all h).c0, (hA.all h).c1, (hA.all h).c2⟩, (hA2.all h).c0, (hA2.all h).c1, (hA2.all h).c2⟩))
  have HHB := hide hB; have HHA := hide hA; have HHC := hide hA2; have HHX := hide hX
  clear K KB hb1 hA hA2 hX hB
  go_wp2_with fail
  go_region_held3 (fun w' => Below w1.heap.size w1 w' ∧ (w'.cell? ⟨w.heap.size, 0, none⟩ = some (.int .i64 r) ∧ w'.cell? ⟨w.heap.size, 1, none⟩ = some (.int .i64 c) ∧ w'.cell? ⟨w.heap.size, 2, none⟩ = some (.slice ao n cap)) ∧ (w'.cell? ⟨w.heap.size + 1, 0, none⟩ = some (.int .i64 p) ∧ w'.cell? ⟨w.heap.size + 1, 1, none⟩ = some (.int .i64 q) ∧ w'.cell? ⟨w.heap.size + 1, 2, none⟩ = some (.slice bo m d)))
    (first | exact unhide HK _ (Below.refl _ _).drew | exact unhide HK _ (by assumption) | fail "KK")
    (first | (go_at_call_of 22 (Value.agg #[.int .i64 r, .int .i64 c, .slice ao n cap]); refine (msize_any _ _ _ _ _ _).mono ?_; rintro e w2 ⟨rfl, hb2⟩; have hB2 : Below w1.heap.size w1 w2 := Below.trans (And.left (by assumption)) (hb2.mono (Below.size (And.left (by assumption)))); clear hb2) | (go_at_call_of 22 (Value.agg #[.int .i64 p, .int .i64 q, .slice bo m d]); refine (msize_any _ _ _ _ _ _).mono ?_; rintro e w3 ⟨rfl, hb3⟩; have hB3 : Below w1.heap.size w1 w3 := Below.trans (And.left (by assumption)) (hb3.mono (Below.size (And.left (by assumption)))); clear hb3) | fail "NO ARM")
  all_goals
    have hW : Below w1.heap.size w1 _ := And.left (by assumption)
    have hB := (unhide HHB).trans (hW.mono (unhide HHB).size); have hA := (unhide HHA).all hW; have hA2 := (unhide HHC).all hW; have hX := (unhide HHX).all hW
    clear HK HHB HHA HHC HHX hW
    have p0 := hA.c0; have p1 := hA.c1; have p2 := hA.c2
    have KC := hide (unhide KT _ hB hA hA2 hX)
    clear KT hA hA2 hX hB
    go_wp2_with fail
    refine Calls.mono (unhide KC) ?_
    clear KC
    rintro e w9 ⟨v, rfl, ⟨ro, rd, rfl, n1, q1⟩, hb2, hX⟩
    have f0 := hX.free 0; have f1 := hX.free 1; have f2 := hX.free 2
    have XP := hX.put (.int .i64 x) (.int .i64 y) (.slice ro S.length rd)
    have z0 := XP.c0; have z1 := XP.c1; have z2 := XP.c2
    have s0 := hX.c0; have s1 := hX.c1; have s2 := hX.c2
    have Q := hide (q1.putM hX (.int .i64 x) (.int .i64 y) (.slice ro S.length rd))
    have BP := hide (below_putM hb2 (b := w.heap.size + 1 + 1) (by omega) (.int .i64 x) (.int .i64 y) (.slice ro S.length rd))
    clear XP q1 hb2 hX
    go_wp2
    exact bodyPost_ret (v := .tuple #[.agg #[.int .i64 x, .int .i64 y, .slice ro S.length rd], .int .i64 0]) (by simp [results, Tryz.results7, go_sem, z0, z1, z2]) rfl ⟨_, rfl, ⟨ro, rd, rfl, n1, unhide Q⟩, unhide BP⟩

set_option maxRecDepth 20000 in
theorem cfSub1 (args : Array Value) (w : World) : (callFunc 23 args).run Tryz.prog w = .ok (.enter 23 args) w := by
  simp only [callFunc, go_sem]
  rfl

/-- The differences of two matrices. -/
def suM (r c : Nat) (S T : List Nat) : List Nat := mkM r c (fun i k => aV (elM c S i k) (fN (elM c T i k)))

theorem mSub_ok (r c cap d : Nat) (ao bo : Option Addr) (S T : List Nat) (w : World) (h : Mx w ao cap r c S) (h2 : Mx w bo d r c T) (hT : Tab w) :
    Calls Tryz.prog 7 #[.agg #[.int .i64 r, .int .i64 c, .slice ao S.length cap], .agg #[.int .i64 r, .int .i64 c, .slice bo T.length d]] w fun e w' => ∃ v, e = .returned (.tuple #[v, .int .i64 0]) ∧ NewM w.heap.size w' r c (suM r c S T) v ∧ Below w.heap.size w w' := by
  refine msub_of r c S.length cap r c T.length d ao bo r c (suM r c S T) w h.small h2.small h.2.2.1 h.2.2.2 h2.2.2.1 h2.2.2.2 (by rw [mx_ok h, mx_ok h2]; rfl) rfl rfl ?_
  intro w1 hB hA hA2
  refine build_any 23 _ r c _ w1 cfSub1 h.2.2.1 h.2.2.2 (fun i k _ _ => aV_lt _ _ (h.el_lt i k) (fN_lt _ (h2.el_lt i k))) ?_
  intro w' i k hb hi hk
  have hb' : Below w.heap.size w w' := hB.trans (hb.mono hB.size)
  exact sub1_of r c S.length cap r c T.length d i k (elM c S i k) (elM c T i k) _ w.heap.size (w.heap.size + 1) _ ao bo w' (hA.all hb) (hA2.all hb)
    (fun w'' hb'' => mat_any r c cap i k ao S w'' ((h.below hb').below hb'') hi hk) (fun w'' hb'' => mat_any r c d i k bo T w'' ((h2.below hb').below hb'') hi hk)
    (fun w'' hb'' => ssub_any _ _ w'' (h.el_lt i k) (h2.el_lt i k) ((hT.all hb').all hb''))

end Go.Proofs.YtheepcdlakjdcaaGreatDoor

/- The reference of layer 10: Sub. -/
namespace Go.Proofs.YtheepcdlakjdcaaGreatDoor
open Go.RowKit
attribute [local go_sem ↓] Go.wp_at_zero Go.wp_at_succ

theorem suM_flat (r c : Nat) (S T : List Nat) : (List.range (r * c)).map (fun p => aV (S.getD p 0) (fN (T.getD p 0))) = suM r c S T := by
  unfold suM mkM
  refine List.map_congr_left (fun p hp => ?_)
  show _ = aV (S.getD (p / c * c + p % c) 0) (fN (T.getD (p / c * c + p % c) 0))
  rw [(place_in (List.mem_range.1 hp)).2.2]

set_option maxRecDepth 20000 in
set_option maxHeartbeats 8000000 in
theorem rsub10_any (r c cap d : Nat) (ao bo : Option Addr) (S T : List Nat) (w : World) (h : Mx w ao cap r c S) (h2 : Mx w bo d r c T) :
    Calls Tryz.prog 12 #[.agg #[.int .i64 r, .int .i64 c, .slice ao S.length cap], .agg #[.int .i64 r, .int .i64 c, .slice bo T.length d]] w fun e w' => ∃ v, e = .returned v ∧ NewM 0 w' r c (suM r c S T) v ∧ Below w.heap.size w w' := by
  have HH := hide h; have HG := hide h2
  have hr6 := h.2.2.1; have hc6 := h.2.2.2
  have K1 := hide (fun w' => rzeros_row r c w' hr6 hc6)
  have KB := hide (boxes3 w (.int .i64 r) (.int .i64 c) (.slice ao S.length cap) (.int .i64 r) (.int .i64 c) (.slice bo T.length d) (.int .i64 0) (.int .i64 0) (.slice none 0 0))
  have SZ := hide (show (((w.alloc (.cells #[.int .i64 r, .int .i64 c, .slice ao S.length cap] 24)).alloc (.cells #[.int .i64 r, .int .i64 c, .slice bo T.length d] 24)).alloc (.cells #[.int .i64 0, .int .i64 0, .slice none 0 0] 24)).heap.size = w.heap.size + 1 + 1 + 1 by simp)
  have e1 : S.length = r * c := h.2.1
  have e2 : T.length = r * c := h2.2.1
  have h36 := h.small
  rw [e1] at h36 KB SZ
  rw [e2] at KB SZ
  rw [e1, e2, ← suM_flat]
  generalize hn : r * c = n at *
  have HN := hide hn; have E1 := hide e1; have E2 := hide e2
  clear h h2 e1 e2 hn
  go_enter Tryz.func12, Tryz.ntmps12
  go_wp2_with fail
  refine (unhide K1 _).mono ?_
  rintro e w1 ⟨g0, rfl, hg, hR, hb1⟩
  rw [unhide SZ] at hb1 hg
  obtain ⟨B0, A0, A1, X0⟩ := unhide KB w1 hb1
  have ba := below_alloc9 w1 (.cells #[.int .i64 r, .int .i64 c, .slice (some ⟨g0, 0, none⟩) n n] 24)
  have HB := hide (B0.trans (ba.mono B0.size)); have HA := hide (A0.all ba); have HA2 := hide (A1.all ba); have HX := hide (X0.all ba)
  have HM := hide (BoxM.new w1 (.int .i64 r) (.int .i64 c) (.slice (some ⟨g0, 0, none⟩) n n))
  have HR := hide (show RowB (w1.alloc (.cells #[.int .i64 r, .int .i64 c, .slice (some ⟨g0, 0, none⟩) n n] 24)) g0 (eaL (fun p => aV (S.getD p 0) (fN (T.getD p 0))) n 0) from by rw [eaL_0]; exact hR.below ba hR.lt)
  have ORD := hide (show w.heap.size + 1 + 1 < g0 ∧ g0 < w1.heap.size from ⟨by omega, hR.lt⟩)
  clear K1 KB SZ hb1 hg hR B0 A0 A1 X0 ba
  go_wp2_with fail
  generalize w1.heap.size = gm at *
  go_loopw [6] (fun i wr => ∃ j : Nat, j ≤ n ∧ i = .int .i64 j ∧ Hid (Below w.heap.size w wr) ∧ Hid (BoxM wr w.heap.size (.int .i64 r) (.int .i64 c) (.slice ao n cap)) ∧ Hid (BoxM wr (w.heap.size + 1) (.int .i64 r) (.int .i64 c) (.slice bo n d)) ∧ Hid (BoxM wr (w.heap.size + 1 + 1) (.int .i64 0) (.int .i64 0) (.slice none 0 0)) ∧ Hid (BoxM wr gm (.int .i64 r) (.int .i64 c) (.slice (some ⟨g0, 0, none⟩) n n)) ∧ Hid (RowB wr g0 (eaL (fun p => aV (S.getD p 0) (fN (T.getD p 0))) n j))) (fun i _ => n - (intOf i).toNat)
  case atStart => exact ⟨0, Nat.zero_le _, rfl, HB, HA, HA2, HX, HM, HR⟩
  case round =>
    clear HB HA HA2 HX HM HR
    obtain ⟨j, hj, rfl, hB, hA, hA2, hX, hM, hR⟩ := hrel
    by_cases hlt : j < n
    · have hjI : (j : Int) < (n : Int) := by omega
      have qa := ((unhide HH).1).below hB.out
      have qb := ((unhide HG).1).below hB.out
      obtain ⟨ba, oa, ea, la, ca⟩ := qa.ne (by rw [mxL_len, unhide E1]; omega)
      obtain ⟨bb, ob, eb, lb, cb⟩ := qb.ne (by rw [mxL_len, unhide E2]; omega)
      have na : ba ≠ g0 := by
        obtain ⟨b', o', e', l', _⟩ := ((unhide HH).1).ne (by rw [mxL_len, unhide E1]; omega)
        rw [ea] at e'
        simp only [Option.some.injEq, Addr.mk.injEq] at e'
        have := unhide ORD
        omega
      have nb : bb ≠ g0 := by
        obtain ⟨b', o', e', l', _⟩ := ((unhide HG).1).ne (by rw [mxL_len, unhide E2]; omega)
        rw [eb] at e'
        simp only [Option.some.injEq, Addr.mk.injEq] at e'
        have := unhide ORD
        omega
      have xa := ca j (by rw [mxL_len, unhide E1]; exact hlt)
      have xb := cb j (by rw [mxL_len, unhide E2]; exact hlt)
      rw [mxL_at] at xa xb
      have lx : S.getD j 0 < 18446744073709551616 := by rw [← mxL_at]; exact ((unhide HH).1).lt j
      have ly : T.getD j 0 < 18446744073709551616 := by rw [← mxL_at]; exact ((unhide HG).1).lt j
      have C := hide (fun w' => r9sub_any (S.getD j 0) (T.getD j 0) w' lx ly)
      have eo := hide (show aV (S.getD j 0) (fN (T.getD j 0)) = (fun p => aV (S.getD p 0) (fN (T.getD p 0))) j from rfl)
      subst ea
      subst eb
      generalize S.getD j 0 = x at *
      generalize T.getD j 0 = y at *
      generalize aV x (fN y) = o at *
      have HK := hide (fun w' (hb : Below _ _ w') => (show (w'.cell? ⟨gm, 2, none⟩ = some (.slice (some ⟨g0, 0, none⟩) n n) ∧ w'.cell? ⟨w.heap.size, 2, none⟩ = some (.slice (some ⟨ba, oa, none⟩) n cap) ∧ w'.cell? ⟨w.heap.size + 1, 2, none⟩ = some (.slice (some ⟨bb, ob, none⟩) n d) ∧ w'.cell? ⟨ba, oa + j, none⟩ = some (.int .u64 (x : Nat)) ∧ w'.cell? ⟨bb, ob + j, none⟩ = some (.int .u64 (y : Nat))) from
        ⟨((unhide hM).all hb).c2, ((unhide hA).all hb).c2, ((unhide hA2).all hb).c2, cell_keep xa hb, cell_keep xb hb⟩))
      have HP := hide (fun w' (z : Value) (hb : Below _ _ w') => (show ((w'.setCell ⟨g0, j, none⟩ z).cell? ⟨gm, 2, none⟩ = some (.slice (some ⟨g0, 0, none⟩) n n) ∧ (w'.setCell ⟨g0, j, none⟩ z).cell? ⟨w.heap.size, 2, none⟩ = some (.slice (some ⟨ba, oa, none⟩) n cap) ∧ (w'.setCell ⟨g0, j, none⟩ z).cell? ⟨w.heap.size + 1, 2, none⟩ = some (.slice (some ⟨bb, ob, none⟩) n d) ∧ (w'.setCell ⟨g0, j, none⟩ z).cell? ⟨ba, oa + j, none⟩ = some (.int .u64 (x : Nat)) ∧ (w'.setCell ⟨g0, j, none⟩ z).cell? ⟨bb, ob + j, none⟩ = some (.int .u64 (y : Nat))) from by
        have hh := unhide HK w' hb
        have o1 := (unhide ORD).1; have o2 := (unhide ORD).2
        refine ⟨?_, ?_, ?_, ?_, ?_⟩
        · rw [cell_setCell_other _ _ _ _ (by show gm ≠ g0; omega)]; exact hh.1
        · rw [cell_setCell_other _ _ _ _ (by show w.heap.size ≠ g0; omega)]; exact hh.2.1
        · rw [cell_setCell_other _ _ _ _ (by show w.heap.size + 1 ≠ g0; omega)]; exact hh.2.2.1
        · rw [cell_setCell_other _ _ _ _ (by show ba ≠ g0; exact na)]; exact hh.2.2.2.1
        · rw [cell_setCell_other _ _ _ _ (by show bb ≠ g0; exact nb)]; exact hh.2.2.2.2))
      have a2 := (unhide hA).c2
      clear xa xb ca cb qa qb na nb la lb lx ly
      go_wp2_with fail
      clear a2
      go_region_held3 (fun w' => w'.cell? ⟨gm, 2, none⟩ = some (.slice (some ⟨g0, 0, none⟩) n n) ∧ w'.cell? ⟨w.heap.size, 2, none⟩ = some (.slice (some ⟨ba, oa, none⟩) n cap) ∧ w'.cell? ⟨w.heap.size + 1, 2, none⟩ = some (.slice (some ⟨bb, ob, none⟩) n d) ∧ w'.cell? ⟨ba, oa + j, none⟩ = some (.int .u64 (x : Nat)) ∧ w'.cell? ⟨bb, ob + j, none⟩ = some (.int .u64 (y : Nat)))
        (first | exact unhide HK _ (Below.refl _ _).drew | exact unhide HK _ (by assumption) | exact unhide HP _ _ (by assumption) | fail "KK")
        (first | (go_at_call 32; refine (unhide C _).mono ?_; rintro e w2 ⟨rfl, hb2⟩; have hB2 := ((Below.refl _ _).drew).trans hb2; have R2 := (unhide hR).below hB2 (unhide hR).lt; have c0 := R2.cell j (by rw [eaL_len]; exact hlt); have f0 := R2.free j; have HR2 := hide R2; clear hb2 R2) | fail "NO ARM")
      all_goals
        have R3 := hide (show RowB _ g0 (eaL (fun p => aV (S.getD p 0) (fN (T.getD p 0))) n (j + 1)) from by rw [← eaL_set, ← unhide eo]; exact (unhide HR2).set j o)
        have bl := hB.out.trans (hB2.mono hB.out.size)
        have B3 := hide (bl.setCell (p := ⟨g0, j, none⟩) (by have := unhide ORD; show w.heap.size ≤ g0; omega) (.int .u64 (o : Nat)))
        have A3 := hide (((unhide hA).all hB2).other (p := ⟨g0, j, none⟩) (by have := unhide ORD; show w.heap.size ≠ g0; omega) (.int .u64 (o : Nat)))
        have A4 := hide (((unhide hA2).all hB2).other (p := ⟨g0, j, none⟩) (by have := unhide ORD; show w.heap.size + 1 ≠ g0; omega) (.int .u64 (o : Nat)))
        have X3 := hide (((unhide hX).all hB2).other (p := ⟨g0, j, none⟩) (by have := unhide ORD; show w.heap.size + 1 + 1 ≠ g0; omega) (.int .u64 (o : Nat)))
        have M3 := hide (((unhide hM).all hB2).other (p := ⟨g0, j, none⟩) (by have := unhide ORD; show gm ≠ g0; omega) (.int .u64 (o : Nat)))
        clear C HK HP HR2 hB hA hA2 hX hM hR hB2 bl c0 f0 eo
        go_wp2_with fail
        go_round
        case rel => exact ⟨j + 1, by omega, by go_num, B3, A3, A4, X3, M3, R3⟩
        case measure => simp [intOf]; omega
    · have hjj : n = j := by omega
      subst hjj
      have a2 := (unhide hA).c2
      have q1 := (unhide hR).bits (fun x hx => by
        rw [eaL_full] at hx
        obtain ⟨k, _, rfl⟩ := List.mem_map.1 hx
        have l1 : S.getD k 0 < 18446744073709551616 := by rw [← mxL_at]; exact ((unhide HH).1).lt k
        have l2 : T.getD k 0 < 18446744073709551616 := by rw [← mxL_at]; exact ((unhide HG).1).lt k
        exact aV_lt _ _ l1 (fN_lt _ l2))
      rw [eaL_len, eaL_full] at q1
      have y0 := (unhide hM).c0; have y1 := (unhide hM).c1; have y2 := (unhide hM).c2
      have r0 := (unhide hX).c0; have r1 := (unhide hX).c1; have r2 := (unhide hX).c2
      have f0 := (unhide hX).free 0; have f1 := (unhide hX).free 1; have f2 := (unhide hX).free 2
      have XP := (unhide hX).put (.int .i64 r) (.int .i64 c) (.slice (some ⟨g0, 0, none⟩) n n)
      have z0 := XP.c0; have z1 := XP.c1; have z2 := XP.c2
      have Q := hide (BitsAt.putM q1 (unhide hX) (.int .i64 r) (.int .i64 c) (.slice (some ⟨g0, 0, none⟩) n n))
      have BP := hide (below_putM hB.out (b := w.heap.size + 1 + 1) (by omega) (.int .i64 r) (.int .i64 c) (.slice (some ⟨g0, 0, none⟩) n n))
      clear XP hX hM hR hB hA hA2 q1
      go_wp2
      refine bodyPost_ret (v := .agg #[.int .i64 r, .int .i64 c, .slice (some ⟨g0, 0, none⟩) n n]) (by simp [results, Tryz.results12, go_sem, z0, z1, z2]) rfl ⟨_, rfl, ?_, unhide BP⟩
      have := NewM.any (r := r) (c := c) (unhide Q)
      rw [List.length_map, List.length_range] at this
      exact this

end Go.Proofs.YtheepcdlakjdcaaGreatDoor

/- The reference of layer 10: Mul. -/
namespace Go.Proofs.YtheepcdlakjdcaaGreatDoor
open Go.RowKit
attribute [local go_sem ↓] Go.wp_at_zero Go.wp_at_succ

theorem cl_at (r c : Nat) (S : List Nat) (k j : Nat) (h : j < r) : (clL r c S k).getD j 0 = elM c S j k := by simp [clL, fsL, List.getD_eq_getElem?_getD, h]
theorem dot_rc (c q : Nat) (S T : List Nat) (i k : Nat) : dtK (mxL (rwL c S i)) (mxL (clL c q T k)) c = dtf c (fun j => elM c S i j) (fun j => elM q T j k) := by
  rw [dtK_dtf]
  refine dtf_congr c (fun j hj => ?_) (fun j hj => ?_)
  · rw [mxL_at, rwL_at c S i j hj]
  · rw [mxL_at, cl_at c q T k j hj]

set_option maxRecDepth 20000 in
set_option maxHeartbeats 16000000 in
theorem rmul10_any (r c q cap d : Nat) (ao bo : Option Addr) (S T : List Nat) (w : World) (h : Mx w ao cap r c S) (h2 : Mx w bo d c q T) :
    Calls Tryz.prog 11 #[.agg #[.int .i64 r, .int .i64 c, .slice ao S.length cap], .agg #[.int .i64 c, .int .i64 q, .slice bo T.length d]] w fun e w' => ∃ v, e = .returned v ∧ NewM 0 w' r q (muM r c q S T) v ∧ Below w.heap.size w w' := by
  have HH := hide h; have HG := hide h2
  have hr6 := h.2.2.1; have hc6 := h.2.2.2; have hq6 := h2.2.2.2
  have K1 := hide (fun w' => rzeros_any r q w' hr6 hq6)
  have KB := hide (boxes3 w (.int .i64 r) (.int .i64 c) (.slice ao S.length cap) (.int .i64 c) (.int .i64 q) (.slice bo T.length d) (.int .i64 0) (.int .i64 0) (.slice none 0 0))
  have SZ := hide (show (((w.alloc (.cells #[.int .i64 r, .int .i64 c, .slice ao S.length cap] 24)).alloc (.cells #[.int .i64 c, .int .i64 q, .slice bo T.length d] 24)).alloc (.cells #[.int .i64 0, .int .i64 0, .slice none 0 0] 24)).heap.size = w.heap.size + 1 + 1 + 1 by simp)
  obtain ⟨l, hl⟩ : ∃ l, S.length = l := ⟨_, rfl⟩
  obtain ⟨m, hm⟩ : ∃ m, T.length = m := ⟨_, rfl⟩
  rw [hl, hm] at KB SZ
  rw [hl, hm]
  have HLL := hide hl; have HMM := hide hm
  obtain ⟨f, hf⟩ : ∃ f : Nat → Nat → Nat, f = fun i k => dtf c (fun j => elM c S i j) (fun j => elM q T j k) := ⟨_, rfl⟩
  have hmu : muM r c q S T = mkM r q f := by rw [hf]; rfl
  rw [hmu]
  have HF := hide (show ∀ i k, dtK (mxL (rwL c S i)) (mxL (clL c q T k)) c = f i k from fun i k => by rw [dot_rc, hf])
  clear h h2 hl hm hmu hf
  go_enter Tryz.func11, Tryz.ntmps11
  go_wp2_with fail
  refine (unhide K1 _).mono ?_
  rintro e w1 ⟨v, rfl, ⟨mo, mc, rfl, nw, qs⟩, hb1⟩
  rw [unhide SZ] at hb1
  obtain ⟨B0, A0, A1, X0⟩ := unhide KB w1 hb1
  have ba := below_alloc9 w1 (.cells #[.int .i64 r, .int .i64 q, .slice mo (List.replicate (r * q) 0).length mc] 24)
  have z3 := hb1.size
  have L0 := hide (show LpSt w (w1.alloc (.cells #[.int .i64 r, .int .i64 q, .slice mo (mkM r q (fiR f 0 0)).length mc] 24)) w1.heap.size (w.heap.size + 1 + 1) r q mo mc (mkM r q (fiR f 0 0)) from by
    rw [fiR_0]
    exact ⟨B0.trans (ba.mono B0.size), BoxM.new w1 _ _ _, X0.all ba, qs.below ba, by have := X0.lt; omega, B0.size⟩)
  have HA := hide (show BoxM (w1.alloc (.cells #[.int .i64 r, .int .i64 q, .slice mo (mkM r q (fiR f 0 0)).length mc] 24)) w.heap.size (.int .i64 r) (.int .i64 c) (.slice ao l cap) from by rw [fiR_0]; exact A0.all ba)
  have HA2 := hide (show BoxM (w1.alloc (.cells #[.int .i64 r, .int .i64 q, .slice mo (mkM r q (fiR f 0 0)).length mc] 24)) (w.heap.size + 1) (.int .i64 c) (.int .i64 q) (.slice bo m d) from by rw [fiR_0]; exact A1.all ba)
  have NE := hide (show w.heap.size ≠ w1.heap.size from by have := A0.lt; omega); have NE2 := hide (show w.heap.size + 1 ≠ w1.heap.size from by have := A1.lt; omega)
  rw [← fiR_0 r q f]
  clear K1 KB SZ hb1 B0 A0 A1 X0 ba nw qs z3
  have t0 := (unhide HA).c0; have t1 := (unhide HA).c1; have t2 := (unhide HA).c2
  go_wp2_with fail
  generalize w1.heap.size = g at *
  go_loopw [6] (fun i wr => ∃ (j : Nat) (no : Option Addr) (nc : Nat), j ≤ r ∧ i = .int .i64 j ∧ Hid (LpSt w wr g (w.heap.size + 1 + 1) r q no nc (mkM r q (fiR f j 0))) ∧ Hid (BoxM wr w.heap.size (.int .i64 r) (.int .i64 c) (.slice ao l cap)) ∧ Hid (BoxM wr (w.heap.size + 1) (.int .i64 c) (.int .i64 q) (.slice bo m d))) (fun i _ => r - (intOf i).toNat)
  case atStart => exact ⟨0, mo, mc, Nat.zero_le _, rfl, L0, HA, HA2⟩
  case round =>
    clear L0 HA HA2 t0 t1 t2
    obtain ⟨j, no, nc, hj, rfl, hL, hA, hA2⟩ := hrel
    have t0 := (unhide hA).c0; have t1 := (unhide hA).c1; have t2 := (unhide hA).c2
    have v0 := (unhide hA2).c0; have v1 := (unhide hA2).c1; have v2 := (unhide hA2).c2
    by_cases hlt : j < r
    · have hjI : (j : Int) < (r : Int) := by omega
      go_wp2_with fail
      go_loopw [7] (fun i wr => ∃ (k : Nat) (no : Option Addr) (nc : Nat), k ≤ q ∧ i = .int .i64 k ∧ Hid (LpSt w wr g (w.heap.size + 1 + 1) r q no nc (mkM r q (fiR f j k))) ∧ Hid (BoxM wr w.heap.size (.int .i64 r) (.int .i64 c) (.slice ao l cap)) ∧ Hid (BoxM wr (w.heap.size + 1) (.int .i64 c) (.int .i64 q) (.slice bo m d))) (fun i _ => q - (intOf i).toNat)
      case atStart => exact ⟨0, no, nc, Nat.zero_le _, rfl, hL, hA, hA2⟩
      case round =>
        clear hL hA hA2 t0 t1 t2 v0 v1 v2 no nc
        obtain ⟨k, no, nc, hk, rfl, hL, hA, hA2⟩ := hrel
        have t0 := (unhide hA).c0; have t1 := (unhide hA).c1; have t2 := (unhide hA).c2
        have v0 := (unhide hA2).c0; have v1 := (unhide hA2).c1; have v2 := (unhide hA2).c2
        by_cases hkc : k < q
        · have hkI : (k : Int) < (q : Int) := by omega
          have y0 := (unhide hL).box.c0; have y1 := (unhide hL).box.c1; have y2 := (unhide hL).box.c2
          have C1 := hide (fun w' (x : Mx w' ao cap r c S) => rrow_any r c cap j ao S w' x hlt)
          have C2 := hide (fun w' (x : Mx w' bo d c q T) => rcol_any c q d k bo T w' x hkc)
          have C3 := hide (fun w' uo ud vo vd (x : BitsAt w' uo ud (mxL (rwL c S j))) (y : BitsAt w' vo vd (mxL (clL c q T k))) => r9dot_any uo vo ud vd _ _ w' x y (by rw [mxL_len, mxL_len, rwL_len, clL, fsL_len]) (by rw [mxL_len, rwL_len]; omega))
          rw [mxL_len, mxL_len, rwL_len, show (clL c q T k).length = c from fsL_len _ _, unhide HF j k] at C3
          have C4 := hide (fun w' no nc (x : Mx w' no nc r q (mkM r q (fiR f j k))) => rwith_any r q nc j k (f j k) no (mkM r q (fiR f j k)) w' x hlt hkc (by rw [← unhide HF j k]; exact dtK_lt _ _ _))
          rw [fiR_step r q f hlt hkc] at C4
          rw [unhide HLL] at C1
          rw [unhide HMM] at C2
          have HMA := hide ((unhide HH).below (unhide hL).bel); have HMB := hide ((unhide HG).below (unhide hL).bel)
          have HP := hide (show (mkM r q (fiR f j k)).length = r * q from mkM_len _ _ _)
          generalize f j k = x at *
          generalize mkM r q (fiR f j k) = U at *
          generalize hT2 : mkM r q (fiR f j (k + 1)) = T2 at *
          have HT2 := hide hT2
          clear hT2
          generalize mxL (rwL c S j) = RW at *
          generalize mxL (clL c q T k) = CL at *
          go_wp2_with fail
          go_region_with (first | (go_at_call 30; refine (unhide C1 _ (by exact unhide HMA)).mono ?_; rintro e w4 ⟨uo, ud, rfl, qu, hb3⟩; (first | (have hb4 := Below.trans ((Below.refl _ _).drew) hb3) | (have hb4 := hb3)); replace hL := hide ((unhide hL).all hb4); replace hA := hide ((unhide hA).all hb4); replace hA2 := hide ((unhide hA2).all hb4); (first | (replace HMB := hide ((unhide HMB).below hb4)) | skip); (first | (replace HV := hide ((unhide HV).below hb4)) | skip); have HU := hide qu; clear HMA t0 t1 t2 v0 v1 v2 y0 y1 y2; have t0 := (unhide hA).c0; have t1 := (unhide hA).c1; have t2 := (unhide hA).c2; have v0 := (unhide hA2).c0; have v1 := (unhide hA2).c1; have v2 := (unhide hA2).c2; have y0 := (unhide hL).box.c0; have y1 := (unhide hL).box.c1; have y2 := (unhide hL).box.c2; clear hb3 hb4 qu C1) | (go_at_call 31; refine (unhide C2 _ (by exact unhide HMB)).mono ?_; rintro e w5 ⟨vo, vd, rfl, qv, hb3⟩; (first | (have hb4 := Below.trans ((Below.refl _ _).drew) hb3) | (have hb4 := hb3)); replace hL := hide ((unhide hL).all hb4); replace hA := hide ((unhide hA).all hb4); replace hA2 := hide ((unhide hA2).all hb4); (first | (replace HMA := hide ((unhide HMA).below hb4)) | skip); (first | (replace HU := hide ((unhide HU).below hb4)) | skip); have HV := hide qv; clear HMB t0 t1 t2 v0 v1 v2 y0 y1 y2; have t0 := (unhide hA).c0; have t1 := (unhide hA).c1; have t2 := (unhide hA).c2; have v0 := (unhide hA2).c0; have v1 := (unhide hA2).c1; have v2 := (unhide hA2).c2; have y0 := (unhide hL).box.c0; have y1 := (unhide hL).box.c1; have y2 := (unhide hL).box.c2; clear hb3 hb4 qv C2) | (go_at_call 29; refine (unhide C3 _ _ _ _ _ (unhide HU) (unhide HV)).mono ?_; rintro e w6 ⟨rfl, hb4⟩; replace hL := hide ((unhide hL).all hb4); replace hA := hide ((unhide hA).all hb4); replace hA2 := hide ((unhide hA2).all hb4); clear t0 t1 t2 v0 v1 v2 y0 y1 y2; have y0 := (unhide hL).box.c0; have y1 := (unhide hL).box.c1; have y2 := (unhide hL).box.c2; clear hb4 HU HV) | (go_at_call 28; refine (unhide C4 _ _ _ ⟨(unhide hL).bits, unhide HP, hr6, hq6⟩).mono ?_; rintro e w7 ⟨v, rfl, ⟨no5, nc5, rfl, _, q5⟩, hb5⟩; clear y0 y1 y2; have L5 := (unhide hL).all hb5; have A5 := (unhide hA).all hb5; have A6 := (unhide hA2).all hb5; have y0 := L5.box.c0; have y1 := L5.box.c1; have y2 := L5.box.c2; have f0 := L5.box.free 0; have f1 := L5.box.free 1; have f2 := L5.box.free 2; have L6 := hide (L5.put q5); have HA6 := hide (((A5.other (p := ⟨g, 0, none⟩) (unhide NE) (.int .i64 r)).other (p := ⟨g, 1, none⟩) (unhide NE) (.int .i64 q)).other (p := ⟨g, 2, none⟩) (unhide NE) (.slice no5 T2.length nc5)); have HA7 := hide (((A6.other (p := ⟨g, 0, none⟩) (unhide NE2) (.int .i64 r)).other (p := ⟨g, 1, none⟩) (unhide NE2) (.int .i64 q)).other (p := ⟨g, 2, none⟩) (unhide NE2) (.slice no5 T2.length nc5)); clear hb5 L5 A5 A6 q5 hL hA hA2) | fail "NO ARM")
          all_goals
            clear C3 C4 y0 y1 y2 f0 f1 f2
            go_wp2_with fail
            go_round
            case rel => exact ⟨k + 1, no5, nc5, by omega, by go_num, by rw [unhide HT2]; exact L6, HA6, HA7⟩
            case measure => simp [intOf]; omega
        · have hkk : q = k := by omega
          subst hkk
          have hL' := hide (show LpSt w _ g (w.heap.size + 1 + 1) r q no nc (mkM r q (fiR f (j + 1) 0)) from by rw [← fiR_row r q f j]; exact unhide hL)
          clear hL
          go_wp2_with fail
          go_round
          case rel => exact ⟨j + 1, no, nc, by omega, by go_num, hL', hA, hA2⟩
          case measure => simp [intOf]; omega
    · have hjj : r = j := by omega
      subst hjj
      rw [fiR_all] at hL
      have y0 := (unhide hL).box.c0; have y1 := (unhide hL).box.c1; have y2 := (unhide hL).box.c2
      have r0 := (unhide hL).res.c0; have r1 := (unhide hL).res.c1; have r2 := (unhide hL).res.c2
      have f0 := (unhide hL).res.free 0; have f1 := (unhide hL).res.free 1; have f2 := (unhide hL).res.free 2
      have XP := (unhide hL).res.put (.int .i64 r) (.int .i64 q) (.slice no (mkM r q f).length nc)
      have z0 := XP.c0; have z1 := XP.c1; have z2 := XP.c2
      have Q := hide (BitsAt.putM (unhide hL).bits (unhide hL).res (.int .i64 r) (.int .i64 q) (.slice no (mkM r q f).length nc))
      have BP := hide (below_putM (unhide hL).bel (b := w.heap.size + 1 + 1) (by omega) (.int .i64 r) (.int .i64 q) (.slice no (mkM r q f).length nc))
      clear XP hL
      go_wp2
      exact bodyPost_ret (v := .agg #[.int .i64 r, .int .i64 q, .slice no (mkM r q f).length nc]) (by simp [results, Tryz.results11, go_sem, z0, z1, z2]) rfl ⟨_, rfl, NewM.any (unhide Q), unhide BP⟩

end Go.Proofs.YtheepcdlakjdcaaGreatDoor

