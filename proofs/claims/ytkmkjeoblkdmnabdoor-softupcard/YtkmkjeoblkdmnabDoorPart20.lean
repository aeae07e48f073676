/- Part 20 of the texts. -/
import Derived.Test.YtkmkjeoblkdmnabDoorPart19
import Derived.Laws.Cover2
import Derived.Laws.Externs
import Derived.Test.YtkmkjeoblkdmnabDoorChecked
import Derived.Test.YtkmkjeoblkdmnabDoorPart02
import Derived.ProofKit
import Derived.SizedLaws
import Derived.Lib.SmallJoins
import Derived.Test.YtkmkjeoblkdmnabDoorRows
import Derived.Test.YtkmkjeoblkdmnabDoorPart12
import Derived.Lib.LaidTab
import Derived.OpenShut
import Derived.Deep.DeepHandedRow
/- The library's Nextafter towards Inf; the law SoftUp, walked. -/
namespace Go.Proofs.YtkmkjeoblkdmnabDoor
open Go.RowKit

theorem frombits5_run (R : Nat) (W : World) : (callFunc 5 #[.int .u64 R]).run Tryd.prog W = .ok (.value (.float .f64 R)) W := by
  rw [run_callFunc_extern (e := Extern.MathFloatBits.float64frombits) Tryd.func5 (by kernel_rfl) (by kernel_rfl) (by kernel_rfl) (by kernel_rfl)]
  show ((pure (.float .f64 ((R : Int).toNat)) : Sem Value).run Tryd.prog W).andThen (fun v w' => .ok (Next.value v) w') = _
  simp

theorem tobits_run (R : Nat) (W : World) : (callFunc 7 #[.float .f64 R]).run Tryd.prog W = .ok (.value (.int .u64 R)) W := by
  rw [run_callFunc_extern (e := Extern.MathFloatBits.float64bits) Tryd.func7 (by kernel_rfl) (by kernel_rfl) (by kernel_rfl) (by kernel_rfl)]
  show ((pure (.int .u64 (R : Int)) : Sem Value).run Tryd.prog W).andThen (fun v w' => .ok (Next.value v) w') = _
  simp

set_option maxHeartbeats 1000000 in
theorem isNaN_no (b : Nat) (w : World) (h : FloatKind.f64.format.order b b = some .eq) :
    Calls Tryd.prog 14 #[.float .f64 b] w fun e w' => e = .returned (.bool false) ∧ w = w' := by
  go_enter Tryd.func14, Tryd.ntmps14
  go_wp2
  go_ret
  exact ⟨rfl, rfl⟩

set_option maxHeartbeats 1000000 in
theorem inf_any (w : World) : Calls Tryd.prog 9 #[.int .i64 1] w fun e w' => e = .returned (.float .f64 9218868437227405312) ∧ w = w' := by
  have hF : ∀ W, (callFunc 5 #[.int .u64 9218868437227405312]).run Tryd.prog W = .ok (.value (.float .f64 9218868437227405312)) W := fun W => frombits5_run 9218868437227405312 W
  go_enter Tryd.func9, Tryd.ntmps9
  go_wp2
  go_ret
  exact ⟨rfl, rfl⟩

set_option maxHeartbeats 1000000 in
theorem copysign_one (w : World) : Calls Tryd.prog 16 #[.float .f64 1, .float .f64 9218868437227405312] w fun e w' => e = .returned (.float .f64 1) ∧ w = w' := by
  have hF : ∀ W, (callFunc 5 #[.int .u64 1]).run Tryd.prog W = .ok (.value (.float .f64 1)) W := fun W => frombits5_run 1 W
  have hB1 : ∀ W, (callFunc 7 #[.float .f64 1]).run Tryd.prog W = .ok (.value (.int .u64 1)) W := fun W => tobits_run 1 W
  have hB2 : ∀ W, (callFunc 7 #[.float .f64 9218868437227405312]).run Tryd.prog W = .ok (.value (.int .u64 9218868437227405312)) W := fun W => tobits_run 9218868437227405312 W
  have a1 : bits .andNot .u64 1 9223372036854775808 = 1 := by decide +kernel
  have a2 : bits .and .u64 9218868437227405312 9223372036854775808 = 0 := by decide +kernel
  have a3 : bits .or .u64 1 0 = 1 := by decide +kernel
  go_enter Tryd.func16, Tryd.ntmps16
  go_wp2_with (simp only [a1, a2, a3])
  go_ret
  exact ⟨rfl, rfl⟩

end Go.Proofs.YtkmkjeoblkdmnabDoor

/- The library's Nextafter towards Inf; the law SoftUp, walked. -/
namespace Go.Proofs.YtkmkjeoblkdmnabDoor
open Go.RowKit

set_option maxHeartbeats 2000000 in
theorem next_z (b : Nat) (w : World) (hx : FloatKind.f64.format.order b b = some .eq) (hxy : FloatKind.f64.format.order b 9218868437227405312 = some .lt) (_hyx : FloatKind.f64.format.order 9218868437227405312 b = some .gt) (h0 : FloatKind.f64.format.order b 0 = some .eq)  :
    Calls Tryd.prog 8 #[.float .f64 b, .float .f64 9218868437227405312] w fun e w' => e = .returned (.float .f64 1) ∧ w = w' := by
  have hy : FloatKind.f64.format.order 9218868437227405312 9218868437227405312 = some .eq := by decide +kernel
  have C1 := hide (fun w' => isNaN_no b w' hx)
  have C2 := hide (fun w' => isNaN_no 9218868437227405312 w' hy)
  clear hx hy
  have hF : ∀ W, (callFunc 5 #[.int .u64 1]).run Tryd.prog W = .ok (.value (.float .f64 1)) W := fun W => frombits5_run 1 W
  go_enter Tryd.func8, Tryd.ntmps8
  go_wp2_with fail
  refine (unhide C1 _).mono ?_
  rintro e w1 ⟨rfl, rfl⟩
  clear C1
  go_wp2_with fail
  refine (unhide C2 _).mono ?_
  rintro e w2 ⟨rfl, rfl⟩
  clear C2
  go_wp2_with (go_at_call 16; refine (copysign_one _).mono ?_; rintro e w3 ⟨rfl, rfl⟩)
  go_ret
  exact ⟨rfl, rfl⟩

set_option maxHeartbeats 2000000 in
theorem next_p (b c : Nat) (w : World) (hx : FloatKind.f64.format.order b b = some .eq) (hxy : FloatKind.f64.format.order b 9218868437227405312 = some .lt) (hyx : FloatKind.f64.format.order 9218868437227405312 b = some .gt) (h0 : FloatKind.f64.format.order b 0 = some .gt) (hw : IntKind.u64.wrap ((b : Int) + 1) = (c : Int)) :
    Calls Tryd.prog 8 #[.float .f64 b, .float .f64 9218868437227405312] w fun e w' => e = .returned (.float .f64 c) ∧ w = w' := by
  have hy : FloatKind.f64.format.order 9218868437227405312 9218868437227405312 = some .eq := by decide +kernel
  have C1 := hide (fun w' => isNaN_no b w' hx)
  have C2 := hide (fun w' => isNaN_no 9218868437227405312 w' hy)
  clear hx hy
  have hF := fun W => frombits5_run c W
  have hB := fun W => tobits_run b W
  go_enter Tryd.func8, Tryd.ntmps8
  go_wp2_with fail
  refine (unhide C1 _).mono ?_
  rintro e w1 ⟨rfl, rfl⟩
  clear C1
  go_wp2_with fail
  refine (unhide C2 _).mono ?_
  rintro e w2 ⟨rfl, rfl⟩
  clear C2
  go_wp2
  go_ret
  exact ⟨rfl, rfl⟩

set_option maxHeartbeats 2000000 in
theorem next_n (b c : Nat) (w : World) (hx : FloatKind.f64.format.order b b = some .eq) (hxy : FloatKind.f64.format.order b 9218868437227405312 = some .lt) (hyx : FloatKind.f64.format.order 9218868437227405312 b = some .gt) (h0 : FloatKind.f64.format.order b 0 = some .lt) (hw : IntKind.u64.wrap ((b : Int) - 1) = (c : Int)) :
    Calls Tryd.prog 8 #[.float .f64 b, .float .f64 9218868437227405312] w fun e w' => e = .returned (.float .f64 c) ∧ w = w' := by
  have hy : FloatKind.f64.format.order 9218868437227405312 9218868437227405312 = some .eq := by decide +kernel
  have C1 := hide (fun w' => isNaN_no b w' hx)
  have C2 := hide (fun w' => isNaN_no 9218868437227405312 w' hy)
  clear hx hy
  have hF := fun W => frombits5_run c W
  have hB := fun W => tobits_run b W
  go_enter Tryd.func8, Tryd.ntmps8
  go_wp2_with fail
  refine (unhide C1 _).mono ?_
  rintro e w1 ⟨rfl, rfl⟩
  clear C1
  go_wp2_with fail
  refine (unhide C2 _).mono ?_
  rintro e w2 ⟨rfl, rfl⟩
  clear C2
  go_wp2
  go_ret
  exact ⟨rfl, rfl⟩

set_option maxHeartbeats 4000000 in
theorem softUp_same (b : Nat) (w : World) (hT : Tab w) (CU : Calls Tryd.prog 4 #[.int .u64 b] w fun r w' => r = .returned (.int .u64 b) ∧ Below w.heap.size w w')
    (hc : FloatKind.f64.format.order b b = none ∨ (FloatKind.f64.format.order b b = some .eq ∧ ((b : Int) == 9218868437227405312) = true)) :
    Calls Tryd.prog 3 #[.int .u64 b] w fun r w' => r = .returned (.bool true) ∧ Below w.heap.size w w' := by
  have KU := hide CU
  have HT := hide hT
  have hF := fun W => frombits5_run b W
  clear CU hT
  rcases hc with h1 | ⟨h1, h2⟩
  all_goals
    go_enter Tryd.func3, Tryd.ntmps3
    go_wp2_with fail
    refine Calls.mono (unhide KU) ?_
    rintro e w1 ⟨rfl, hb1⟩
    have B1 := hide hb1
    have HT1 := hide ((unhide HT).all hb1)
    clear hb1 KU HT
    go_wp2_with fail
    refine (awake4_any _ (unhide HT1)).mono ?_
    rintro e w2 ⟨rfl, hb2⟩
    have B2 := hide ((unhide B1).trans (hb2.mono (unhide B1).size))
    clear hb2 B1 HT1
    go_wp2
    go_ret
    exact ⟨rfl, unhide B2⟩

set_option maxHeartbeats 4000000 in
theorem softUp_next (b c : Nat) (w : World) (hT : Tab w) (CU : Calls Tryd.prog 4 #[.int .u64 b] w fun r w' => r = .returned (.int .u64 c) ∧ Below w.heap.size w w')
    (CN : ∀ w', Calls Tryd.prog 8 #[.float .f64 b, .float .f64 9218868437227405312] w' fun r w'' => r = .returned (.float .f64 c) ∧ w' = w'')
    (h1 : FloatKind.f64.format.order b b = some .eq) (h2 : ((b : Int) == 9218868437227405312) = false) (h3 : ((c : Int) == 0) = false) :
    Calls Tryd.prog 3 #[.int .u64 b] w fun r w' => r = .returned (.bool true) ∧ Below w.heap.size w w' := by
  have KU := hide CU; have KN := hide CN
  have HT := hide hT
  have hF := fun W => frombits5_run b W
  have hB := fun W => tobits_run c W
  clear CU CN hT
  go_enter Tryd.func3, Tryd.ntmps3
  go_wp2_with fail
  refine Calls.mono (unhide KU) ?_
  rintro e w1 ⟨rfl, hb1⟩
  have B1 := hide hb1
  have HT1 := hide ((unhide HT).all hb1)
  clear hb1 KU HT
  go_wp2_with (first | (go_at_call 9; refine (inf_any _).mono ?_; rintro e w3 ⟨rfl, rfl⟩) | (go_at_call 8; refine (unhide KN _).mono ?_; rintro e w4 ⟨rfl, rfl⟩))
  refine (awake4_any _ (unhide HT1)).mono ?_
  rintro e w2 ⟨rfl, hb2⟩
  have B2 := hide ((unhide B1).trans (hb2.mono (unhide B1).size))
  clear hb2 B1 HT1
  go_wp2
  go_ret
  exact ⟨rfl, unhide B2⟩

theorem wrd_of (b : Nat) (h : b < 18446744073709551616) : b = wrd (fS b) (b % 9223372036854775808) := by
  have hs : fS b = decide (9223372036854775808 ≤ b) := rfl
  rw [hs]
  by_cases c : 9223372036854775808 ≤ b
  · rw [decide_eq_true c, wrd_true]; omega
  · rw [decide_eq_false c, wrd_false]; omega

theorem order_nan (n : Bool) (r : Nat) (h : 9218868437227405312 < r) (h2 : r < 9223372036854775808) (y : Nat) : Ieee.double.order (wrd n r) y = none := by
  obtain ⟨h1, h3⟩ := wrd_parts n r h2
  have : Ieee.double.read (wrd n r) = .nan n (r - 9218868437227405312) := by
    unfold Ieee.Format.read
    rw [dbl_sw, dbl_bin, dbl_inf, dbl_lp]
    simp only [h1, h3]
    rw [if_neg (by omega), if_neg (by omega), if_neg (by omega)]
  unfold Ieee.Format.order
  rw [this]
  cases Ieee.double.read y <;> rfl

theorem pv_zero : pv false 0 = 0 := by unfold pv; rw [rv_zero]; rfl

theorem softUp_walk (b : Nat) (w : World) (h : b < 18446744073709551616) (hT : Tab w) :
    Calls Tryd.prog 3 #[.int .u64 b] w fun r w' => r = .returned (.bool true) ∧ Below w.heap.size w w' := by
  have CU := up_any b w h
  have hb := wrd_of b h
  have hr : b % 9223372036854775808 < 9223372036854775808 := by omega
  have hp : fP b = b % 9223372036854775808 / 4503599627370496 := rfl
  have hff : fF b = b % 9223372036854775808 % 4503599627370496 := by unfold fF; omega
  obtain ⟨n, hn⟩ : ∃ n, n = fS b := ⟨_, rfl⟩
  obtain ⟨r, hrr⟩ : ∃ r, r = b % 9223372036854775808 := ⟨_, rfl⟩
  rw [← hrr] at hr hp hff
  rw [← hn, ← hrr] at hb
  by_cases c1 : 9218868437227405312 < r
  · have hk : fK b = 4 := by unfold fK; rw [hp, hff, if_pos (by omega), if_neg (by omega)]
    have hu : fU b = b := by unfold fU; exact if_pos (.inl hk)
    rw [hu] at CU
    refine softUp_same b w hT CU (.inl ?_)
    have := order_nan n r c1 hr (wrd n r)
    rw [← hb] at this
    exact this
  have hrle : r ≤ 9218868437227405312 := by omega
  have hx : Ieee.double.order b b = some .eq := by
    have := order_wrd n n r r hrle hrle
    rw [← hb] at this
    rw [this]; simp
  by_cases c2 : b = 9218868437227405312
  · have hu : fU b = b := by unfold fU; exact if_pos (.inr c2)
    rw [hu] at CU
    exact softUp_same b w hT CU (.inr ⟨hx, by simp; omega⟩)
  have hne4 : ¬ (fK b = 4 ∨ b = 9218868437227405312) := by
    rintro (hk | hk)
    · have hnk : fK b ≠ 4 := by
        unfold fK
        rw [hp, hff]
        by_cases d : r / 4503599627370496 = 2047
        · rw [if_pos d, if_pos (by omega)]; decide
        · rw [if_neg d]
          split
          · split <;> decide
          · decide
      exact hnk hk
    · exact c2 hk
  have hlt : pv n r < (rv 9218868437227405312 : Int) := by
    unfold pv
    cases n
    · have hr2 : r < 9218868437227405312 := by rw [wrd_false] at hb; omega
      have := rv_lt hr2
      rw [if_neg (by decide)]; omega
    · have := rv_lt (r := 0) (s := 9218868437227405312) (by decide)
      rw [if_pos rfl]; omega
  have hpi : pv false 9218868437227405312 = (rv 9218868437227405312 : Int) := rfl
  have hxy : Ieee.double.order b 9218868437227405312 = some .lt := by
    have := order_wrd n false r 9218868437227405312 hrle (by decide)
    rw [← hb, wrd_false, hpi, Int.compare_eq_lt.2 hlt] at this
    exact this
  have hyx : Ieee.double.order 9218868437227405312 b = some .gt := by
    have := order_wrd false n 9218868437227405312 r (by decide) hrle
    rw [← hb, wrd_false, hpi, Int.compare_eq_gt.2 hlt] at this
    exact this
  have h0 : Ieee.double.order b 0 = some (compare (pv n r) 0) := by
    have := order_wrd n false r 0 hrle (by decide)
    rw [← hb, wrd_false, pv_zero] at this
    exact this
  have hk0 : fK b = 0 ↔ r = 0 := by
    unfold fK
    rw [hp, hff]
    by_cases d : r / 4503599627370496 = 2047
    · rw [if_pos d, if_pos (by omega)]
      exact ⟨fun hh => by simp at hh, fun hh => by omega⟩
    · rw [if_neg d]
      by_cases d2 : r / 4503599627370496 = 0
      · rw [if_pos d2]
        by_cases d3 : r % 4503599627370496 = 0
        · rw [if_pos d3]; exact ⟨fun _ => by omega, fun _ => rfl⟩
        · rw [if_neg d3]; exact ⟨fun hh => by simp at hh, fun hh => by omega⟩
      · rw [if_neg d2]; exact ⟨fun hh => by simp at hh, fun hh => by omega⟩
  have g2 : ((b : Int) == 9218868437227405312) = false := by simp; omega
  by_cases c3 : r = 0
  · have hu : fU b = 1 := by unfold fU; rw [if_neg hne4, if_pos (hk0.2 c3)]
    rw [hu] at CU
    have hz : compare (pv n r) 0 = .eq := by
      rw [c3]; unfold pv; rw [rv_zero]; cases n <;> rfl
    rw [hz] at h0
    exact softUp_next b 1 w hT CU (fun w' => next_z b w' hx hxy hyx h0) hx g2 (by decide)
  · have hpos : 0 < rv r := by have := rv_lt (r := 0) (s := r) (by omega); rw [rv_zero] at this; exact this
    have hu : fU b = if fS b = true then b - 1 else b + 1 := by unfold fU; rw [if_neg hne4, if_neg (fun hh => c3 (hk0.1 hh))]
    rw [← hn] at hu
    cases n
    · rw [if_neg (by decide)] at hu
      rw [hu] at CU
      rw [wrd_false] at hb
      have hz : compare (pv false r) 0 = .gt := Int.compare_eq_gt.2 (by unfold pv; rw [if_neg (by decide)]; omega)
      rw [hz] at h0
      exact softUp_next b (b + 1) w hT CU (fun w' => next_p b (b + 1) w' hx hxy hyx h0 (by simp only [IntKind.wrap_u64]; omega)) hx g2 (by simp; omega)
    · rw [if_pos rfl] at hu
      rw [hu] at CU
      rw [wrd_true] at hb
      have hz : compare (pv true r) 0 = .lt := Int.compare_eq_lt.2 (by unfold pv; rw [if_pos rfl]; omega)
      rw [hz] at h0
      exact softUp_next b (b - 1) w hT CU (fun w' => next_n b (b - 1) w' hx hxy hyx h0 (by simp only [IntKind.wrap_u64]; omega)) hx g2 (by simp; omega)

end Go.Proofs.YtkmkjeoblkdmnabDoor

/- A struct of a sign and limbs that came in, opened. -/
namespace Go.Proofs.YtkmkjeoblkdmnabDoor
open Go.ChangeShapes Go.WideShapes Go.ChangeAt Go.RowKit Go.Joins

theorem Tryd.own : ownKnob Tryd.prog.godebug = none := by kernel_rfl
theorem Tryd.laidOut : laidOutB Tryd.prog = true := by kernel_rfl
theorem Tryd.cellsW : Tryd.prog.cellsOf 35 = 2 := by kernel_rfl
theorem Tryd.cellsU : Tryd.prog.cellsOf 63 = 1 := by kernel_rfl
theorem Tryd.bytesU : Tryd.prog.bytesOf 63 = 4 := by kernel_rfl

theorem bounds_of_u32 {x : Int} (h : (Lit.int .u32 x).wf = true) : 0 ≤ x ∧ x < 4294967296 := by
  simp [Lit.wf, IntKind.min, IntKind.max, IntKind.signed, IntKind.bits] at h
  omega

theorem limbs_of_ints {W : World} {a : Addr} {len cap : Nat} {zs : List Int} (hl : len ≤ cap) (hz : zs.length = cap) (hc : ∀ i, i < zs.length → W.cell? (a.add i) = some (.int .u32 (zs.getD i 0))) (hw : ∀ n ∈ zs, (Lit.int .u32 n).wf = true) :
    LimbsAt W (some a) cap ((zs.take len).map Int.toNat) ∧ ((zs.take len).map Int.toNat).length = len := by
  have hlen : ((zs.take len).map Int.toNat).length = len := by simp; omega
  refine ⟨⟨by omega, ?_, ?_⟩, hlen⟩
  · intro x hx
    obtain ⟨y, hy, rfl⟩ := List.mem_map.1 hx
    have := bounds_of_u32 (hw y (List.mem_of_mem_take hy))
    omega
  · rcases Nat.eq_zero_or_pos len with rfl | hp
    · left; simp
    · right
      obtain ⟨b, off, spot⟩ := a
      have h0 := hc 0 (by omega)
      have hspot : spot = none := by simpa [Addr.add] using World.cell?_spot h0
      subst hspot
      have hb : b < W.heap.size := by
        have := World.block_lt_of_cell? W _ h0
        simpa [Addr.add] using this
      refine ⟨b, off, rfl, hb, fun i hi => ?_⟩
      have h1 := hc i (by omega)
      have h2 : (0 : Int) ≤ zs[i]'(by omega) := (bounds_of_u32 (hw _ (List.getElem_mem _))).1
      have h3 : (⟨b, off, none⟩ : Addr).add i = ⟨b, off + i, none⟩ := by simp [Addr.add]
      rw [h3] at h1
      rw [h1]
      have e : ((zs.take len).map Int.toNat)[i]?.getD 0 = (zs[i]'(by omega)).toNat := by
        rw [List.getElem?_map, List.getElem?_take, if_pos (by omega), List.getElem?_eq_getElem (by omega)]; rfl
      rw [e, List.getD_eq_getElem?_getD, List.getElem?_eq_getElem (by omega)]
      simp only [Option.getD_some, Option.some.injEq, Value.int.injEq, true_and]
      omega

/-- A number that came in: its sign, its limbs, where they lie; by the row's own reach they are not too many. -/
theorem open_whole {H : Type} {enc : TypeId × Value → H} {W : World} {base : Nat} {v : Value} {d : DataW H} {p : List MemPlace} (hval : Value.okWide Tryd.prog W .any base 35 v) (h : DataW.Trod enc Tryd.prog W 0 (fun _ => true) true 35 v d p)
    (hs : ∀ n ∈ d.weights Tryd.prog 35, n ≤ reachBytes) :
    ∃ neg ao cap L, v = .agg #[.bool neg, .slice ao L.length cap] ∧ LimbsAt W ao cap L ∧ L.length ≤ 35184372087808 := by
  obtain ⟨c0, c1, y0, y1, m, rfl, rfl, rfl, hy0, hy1⟩ := open_agg2 Tryd.underlying35 (by kernel_rfl) Tryd.cellsW hval h
  obtain ⟨neg, e0, rfl⟩ := DataW.trod_bool Tryd.underlying4 hy0
  simp at e0
  subst e0
  rcases open_ints Tryd.underlying33 Tryd.underlying63 Tryd.cellsU hy1 with ⟨hcs, _⟩ | ⟨a, len, cap, zs, hcs, _, hl, hm, hz, rfl, hcell, hwz⟩
  · simp at hcs
    subst hcs
    exact ⟨neg, none, 0, [], rfl, LimbsAt.nil _ _ _, by simp⟩
  · simp at hcs
    subst hcs
    obtain ⟨h1, h2⟩ := limbs_of_ints hl (by simpa using hz) hcell hwz
    refine ⟨neg, some a, cap, _, by rw [h2], h1, ?_⟩
    have hk := hs ((zs.length) * 4) (by
      simp only [DataW.weights, Tryd.underlying35, DataW.weightsEach, List.map, Tryd.underlying33, List.nil_append, List.append_nil, List.mem_cons, Tryd.bytesU, lits, List.length_map, List.length_take, List.length_drop]
      left
      omega)
    simp only [reachBytes] at hk
    rw [h2]
    have : zs.length = cap := by simpa using hz
    omega

end Go.Proofs.YtkmkjeoblkdmnabDoor

/- The bounds of an int or int64 that came in. -/
namespace Go.Proofs.YtkmkjeoblkdmnabDoor

theorem bounds_of_i64 {x : Int} (h : (Lit.int .i64 x).wf = true) : -9223372036854775808 ≤ x ∧ x ≤ 9223372036854775807 := by
  simp [Lit.wf, IntKind.min, IntKind.max, IntKind.signed, IntKind.bits] at h
  omega

end Go.Proofs.YtkmkjeoblkdmnabDoor

/- A dyadic number that came in, opened; the library's table, as the row lays it. -/
namespace Go.Proofs.YtkmkjeoblkdmnabDoor
open Go.ChangeShapes Go.WideShapes Go.ChangeAt Go.RowKit Go.Joins

theorem Tryd.cellsD : Tryd.prog.cellsOf 37 = 3 := by kernel_rfl
theorem Tryd.cellsI : Tryd.prog.cellsOf 3 = 1 := by kernel_rfl
theorem Tryd.cellsB : Tryd.prog.cellsOf 4 = 1 := by kernel_rfl
theorem Tryd.cellsS : Tryd.prog.cellsOf 33 = 1 := by kernel_rfl

theorem Tryd.tabName : Tryd.prog.globalNamed "math/bits.deBruijn32tab" = some 1 := by kernel_rfl
theorem Tryd.tabType : (Tryd.prog.globals[1]?).map (·.type) = some 72 := by kernel_rfl
theorem Tryd.tabCells : Tryd.prog.cellsOf 72 = 32 := by kernel_rfl
theorem Tryd.byteCells : Tryd.prog.cellsOf 5 = 1 := by kernel_rfl

theorem tab_getD : ∀ j, j < Lib.deBruijn32tab.length → (List.map Int.ofNat Lib.deBruijn32tab).getD j 0 = ((Lib.deBruijn32tab.getD j 0 : Nat) : Int) := by decide

/-- What the rows' list gives: the table's cells. -/
theorem tab_of_laid {W : World} (h : laidMetH Tryd.prog [("math/bits.deBruijn32tab", Rows.laid_math_bits_deBruijn32tab)] W) : Tab W := by
  have ht := Lib.tabIs_of_head (zs := Lib.deBruijn32tab.map Int.ofNat) (rest := []) Tryd.tabName Tryd.tabType Tryd.underlying72 Tryd.underlying5 Tryd.byteCells Tryd.tabCells h
  intro j hj
  have := ht.cell Tryd.tabName j (by simpa using hj)
  rw [this]
  congr 2
  exact tab_getD j hj

/-- A dyadic number that came in. -/
theorem open_dyadic {H : Type} {enc : TypeId × Value → H} {W : World} {base : Nat} {v : Value} {d : DataW H} {p : List MemPlace} (hval : Value.okWide Tryd.prog W .any base 37 v) (h : DataW.Trod enc Tryd.prog W 0 (fun _ => true) true 37 v d p)
    (hs : ∀ n ∈ d.weights Tryd.prog 37, n ≤ reachBytes) :
    ∃ (neg : Bool) (ao : Option Addr) (cap : Nat) (L : List Nat) (e : Int), v = .agg #[.bool neg, .slice ao L.length cap, .int .i64 e] ∧ LimbsAt W ao cap L ∧ L.length ≤ 35184372087808 ∧ (-9223372036854775808 ≤ e ∧ e ≤ 9223372036854775807) := by
  obtain ⟨cs, rfl, hsz⟩ := okWide_struct Tryd.underlying37 hval
  obtain ⟨c0, c1, c2, rfl⟩ := array3 (hsz.trans Tryd.cellsD)
  obtain ⟨fuel, hf⟩ := h
  obtain ⟨y0, y1, n, hx, _, h0, h1⟩ := trod_struct2 Tryd.underlying37 hf
  simp only [Prod.mk.injEq] at hx
  obtain ⟨rfl, rfl⟩ := hx
  have h0' : DataW.trod enc Tryd.prog W 0 (fun _ => true) true n 35 [c0, c1] = some y0 := by simpa [Value.cells, Tryd.cellsW] using h0
  have h1' : DataW.trod enc Tryd.prog W 0 (fun _ => true) true n 3 [c2] = some y1 := by simpa [Value.cells, Tryd.cellsI] using h1
  clear h0 h1
  obtain ⟨e, e1, e2, we⟩ := DataW.trod_int Tryd.underlying3 h1'
  simp at e1
  subst e1
  obtain ⟨z0, z1, m, hz, _, g0, g1⟩ := trod_struct2 Tryd.underlying35 h0'
  subst hz
  have g0' : DataW.trod enc Tryd.prog W 0 (fun _ => true) true m 4 [c0] = some z0 := by simpa [Tryd.cellsB] using g0
  have g1' : DataW.trod enc Tryd.prog W 0 (fun _ => true) true m 33 [c1] = some z1 := by simpa [Tryd.cellsS] using g1
  clear g0 g1
  obtain ⟨neg, e0, _⟩ := DataW.trod_bool Tryd.underlying4 g0'
  simp at e0
  subst e0
  have be := bounds_of_i64 we
  rcases open_ints Tryd.underlying33 Tryd.underlying63 Tryd.cellsU g1' with ⟨hcs, _⟩ | ⟨a, len, cap, zs, hcs, _, hl, hm, hzz, rfl, hcell, hwz⟩
  · simp at hcs
    subst hcs
    exact ⟨neg, none, 0, [], e, rfl, LimbsAt.nil _ _ _, by simp, be⟩
  · simp at hcs
    subst hcs
    obtain ⟨l1, l2⟩ := limbs_of_ints hl (by simpa using hzz) hcell hwz
    refine ⟨neg, some a, cap, _, e, by rw [l2], l1, ?_, be⟩
    have hk := hs ((zs.length) * 4) (by
      simp only [DataW.weights, Tryd.underlying37, Tryd.underlying35, DataW.weightsEach, List.map, Tryd.underlying33, List.append_nil, List.mem_cons, List.mem_append, Tryd.bytesU, lits, List.length_map, List.length_take, List.length_drop]
      refine .inl (.inr (.inl ?_))
      have : zs.length = cap := by simpa using hzz
      omega)
    simp only [reachBytes] at hk
    rw [l2]
    have : zs.length = cap := by simpa using hzz
    omega

end Go.Proofs.YtkmkjeoblkdmnabDoor

