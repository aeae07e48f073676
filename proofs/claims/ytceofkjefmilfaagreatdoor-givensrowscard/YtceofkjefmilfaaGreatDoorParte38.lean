/- Part 38 of the texts. -/
import Derived.Test.YtceofkjefmilfaaGreatDoorParte37
import Derived.Test.YtceofkjefmilfaaGreatDoorParte34
import Derived.Test.YtceofkjefmilfaaGreatDoorParte24
import Derived.Test.YtceofkjefmilfaaGreatDoorParte36
import Derived.Test.YtceofkjefmilfaaGreatDoorParte25
import Derived.Test.YtceofkjefmilfaaGreatDoorParte32
import Derived.Test.YtceofkjefmilfaaGreatDoorParte33
import Derived.Test.YtceofkjefmilfaaGreatDoorChecked
import Derived.Test.YtceofkjefmilfaaGreatDoorParte02
import Derived.ProofKit
import Derived.SizedLaws
import Derived.Lib.SmallJoins
/- Package plain: operations without their flags; package givens: turnOf, Turn. -/
namespace Go.Proofs.YtceofkjefmilfaaGreatDoor
open Go.RowKit
attribute [local go_sem ↓] Go.wp_at_zero Go.wp_at_succ

/-- Two numbers laid in a row. -/
theorem two_bits12 (w : World) (a b : Nat) (ha : a < 18446744073709551616) (hb : b < 18446744073709551616) : BitsAt (w.alloc (.cells #[.int .u64 (a : Nat), .int .u64 (b : Nat)] 23)) (some ⟨w.heap.size, 0, none⟩) 2 [(a : Int), (b : Int)] := by
  have h : RowB (w.alloc (.cells #[.int .u64 (a : Nat), .int .u64 (b : Nat)] 23)) w.heap.size [a, b] := heap_alloc_new w _
  exact h.bits (fun x hx => by simp at hx; rcases hx with rfl | rfl; exact ha; exact hb)

set_option maxRecDepth 20000 in
set_option maxHeartbeats 4000000 in
theorem turnOf_of (f g m a b p q t n c s r : Nat) (k : Int) (w : World) (hf : f < 18446744073709551616) (hg : g < 18446744073709551616) (hk : -5000 ≤ k ∧ k ≤ 5000)
    (C1 : ∀ w' ao, Below w.heap.size w w' → BitsAt w' ao 2 [(f : Int), (g : Int)] → Calls Tryz.prog 73 #[.slice ao 2 2] w' fun e w'' => e = .returned (.int .u64 (m : Nat)) ∧ Below w'.heap.size w' w'')
    (C2 : ∀ w', Below w.heap.size w w' → Calls Tryz.prog 72 #[.int .u64 m] w' fun e w'' => e = .returned (.int .i64 k) ∧ Below w'.heap.size w' w'')
    (D1 : ∀ w', Below w.heap.size w w' → Calls Tryz.prog 74 #[.int .u64 f, .int .i64 (-k)] w' fun e w'' => e = .returned (.int .u64 (a : Nat)) ∧ Below w'.heap.size w' w'')
    (D2 : ∀ w', Below w.heap.size w w' → Calls Tryz.prog 74 #[.int .u64 g, .int .i64 (-k)] w' fun e w'' => e = .returned (.int .u64 (b : Nat)) ∧ Below w'.heap.size w' w'')
    (D3 : ∀ w', Below w.heap.size w w' → Calls Tryz.prog 77 #[.int .u64 a, .int .u64 a] w' fun e w'' => e = .returned (.int .u64 (p : Nat)) ∧ Below w'.heap.size w' w'')
    (D4 : ∀ w', Below w.heap.size w w' → Calls Tryz.prog 77 #[.int .u64 b, .int .u64 b] w' fun e w'' => e = .returned (.int .u64 (q : Nat)) ∧ Below w'.heap.size w' w'')
    (D5 : ∀ w', Below w.heap.size w w' → Calls Tryz.prog 76 #[.int .u64 p, .int .u64 q] w' fun e w'' => e = .returned (.int .u64 (t : Nat)) ∧ Below w'.heap.size w' w'')
    (D6 : ∀ w', Below w.heap.size w w' → Calls Tryz.prog 75 #[.int .u64 t] w' fun e w'' => e = .returned (.int .u64 (n : Nat)) ∧ Below w'.heap.size w' w'')
    (D7 : ∀ w', Below w.heap.size w w' → Calls Tryz.prog 78 #[.int .u64 a, .int .u64 n] w' fun e w'' => e = .returned (.int .u64 (c : Nat)) ∧ Below w'.heap.size w' w'')
    (D8 : ∀ w', Below w.heap.size w w' → Calls Tryz.prog 78 #[.int .u64 b, .int .u64 n] w' fun e w'' => e = .returned (.int .u64 (s : Nat)) ∧ Below w'.heap.size w' w'')
    (D9 : ∀ w', Below w.heap.size w w' → Calls Tryz.prog 74 #[.int .u64 n, .int .i64 k] w' fun e w'' => e = .returned (.int .u64 (r : Nat)) ∧ Below w'.heap.size w' w'') :
    Calls Tryz.prog 36 #[.int .u64 f, .int .u64 g] w fun e w' => e = .returned (.tuple #[.int .u64 (c : Nat), .int .u64 (s : Nat), .int .u64 (r : Nat)]) ∧ Below w.heap.size w w' := by
  have K1 := hide C1; have K2 := hide C2
  have L1 := hide D1; have L2 := hide D2; have L3 := hide D3; have L4 := hide D4; have L5 := hide D5; have L6 := hide D6; have L7 := hide D7; have L8 := hide D8; have L9 := hide D9
  have TB := hide (two_bits12 w f g hf hg)
  have BB := hide (below_alloc9 w (.cells #[.int .u64 (f : Nat), .int .u64 (g : Nat)] 23))
  have hk1 : IntKind.i64.wrap (-k) = -k := wrap_in _ (by omega)
  clear C1 C2 D1 D2 D3 D4 D5 D6 D7 D8 D9 hf hg
  go_enter Tryz.func36, Tryz.ntmps36
  go_wp2_with fail
  refine (unhide K1 _ _ (unhide BB) (unhide TB)).mono ?_
  rintro e w1 ⟨rfl, hb⟩
  replace BB := hide ((unhide BB).trans (hb.mono (unhide BB).size))
  clear hb K1 TB
  go_wp2_with fail
  refine (unhide K2 _ (unhide BB)).mono ?_
  rintro e w1 ⟨rfl, hb⟩
  replace BB := hide ((unhide BB).trans (hb.mono (unhide BB).size))
  clear hb K2
  go_wp2_with fail
  refine (unhide L1 _ (unhide BB)).mono ?_
  rintro e w1 ⟨rfl, hb⟩
  replace BB := hide ((unhide BB).trans (hb.mono (unhide BB).size))
  clear hb L1
  go_wp2_with fail
  refine (unhide L2 _ (unhide BB)).mono ?_
  rintro e w1 ⟨rfl, hb⟩
  replace BB := hide ((unhide BB).trans (hb.mono (unhide BB).size))
  clear hb L2
  go_wp2_with fail
  refine (unhide L3 _ (unhide BB)).mono ?_
  rintro e w1 ⟨rfl, hb⟩
  replace BB := hide ((unhide BB).trans (hb.mono (unhide BB).size))
  clear hb L3
  go_wp2_with fail
  refine (unhide L4 _ (unhide BB)).mono ?_
  rintro e w1 ⟨rfl, hb⟩
  replace BB := hide ((unhide BB).trans (hb.mono (unhide BB).size))
  clear hb L4
  go_wp2_with fail
  refine (unhide L5 _ (unhide BB)).mono ?_
  rintro e w1 ⟨rfl, hb⟩
  replace BB := hide ((unhide BB).trans (hb.mono (unhide BB).size))
  clear hb L5
  go_wp2_with fail
  refine (unhide L6 _ (unhide BB)).mono ?_
  rintro e w1 ⟨rfl, hb⟩
  replace BB := hide ((unhide BB).trans (hb.mono (unhide BB).size))
  clear hb L6
  go_wp2_with fail
  refine (unhide L7 _ (unhide BB)).mono ?_
  rintro e w1 ⟨rfl, hb⟩
  replace BB := hide ((unhide BB).trans (hb.mono (unhide BB).size))
  clear hb L7
  go_wp2_with fail
  refine (unhide L8 _ (unhide BB)).mono ?_
  rintro e w1 ⟨rfl, hb⟩
  replace BB := hide ((unhide BB).trans (hb.mono (unhide BB).size))
  clear hb L8
  go_wp2_with fail
  refine (unhide L9 _ (unhide BB)).mono ?_
  rintro e w1 ⟨rfl, hb⟩
  replace BB := hide ((unhide BB).trans (hb.mono (unhide BB).size))
  clear hb L9
  go_wp2
  exact bodyPost_ret (v := .tuple #[.int .u64 (c : Nat), .int .u64 (s : Nat), .int .u64 (r : Nat)]) (by simp [results, Tryz.results36, go_sem]) rfl ⟨rfl, unhide BB⟩

theorem bg_two (f g : Nat) : bgK [(f : Int), (g : Int)] 2 = mx (mx 0 (fR f)) (fR g) := rfl
theorem fn_two (f g : Nat) : fnK [(f : Int), (g : Int)] 2 = (fFin f && fFin g) := by
  show ((true && fFin f) && fFin g) = _
  rw [Bool.true_and]

/-- turnOf, of finite numbers that are no noughts. -/
theorem turnOf_any (f g : Nat) (w : World) (hf : f < 18446744073709551616) (hg : g < 18446744073709551616) (ff : fFin f = true) (fg : fFin g = true) (f0 : ¬ fK f = 0) (g0 : ¬ fK g = 0) (hT : Tab w) :
    Calls Tryz.prog 36 #[.int .u64 f, .int .u64 g] w fun e w' => e = .returned (.tuple #[.int .u64 (gvC f g : Nat), .int .u64 (gvS f g : Nat), .int .u64 (gvR f g : Nat)]) ∧ Below w.heap.size w w' := by
  have h1 := fR_lt f; have h2 := fR_lt g
  have r1 := fR_fin f ff; have r2 := fR_fin g fg
  have hk := gvK_range f g
  have em : mx (mx 0 (fR f)) (fR g) = max (fR f) (fR g) := by
    rw [mx_mag 0 (fR f) (by omega) r1, show max 0 (fR f) = fR f by omega, mx_mag (fR f) (fR g) r1 r2]
  have la := xV_lt f (-gvK f g) hf
  have lb := xV_lt g (-gvK f g) hg
  have lt := aV_lt (mV (xV f (-gvK f g)) (xV f (-gvK f g))) (mV (xV g (-gvK f g)) (xV g (-gvK f g))) (mV_lt _ _) (mV_lt _ _)
  have ln : gvN f g < 18446744073709551616 := sV_lt _ lt
  have e1 : gvC f g = dV (xV f (-gvK f g)) (gvN f g) := by unfold gvC; rw [if_neg g0, if_neg f0]
  have e2 : gvS f g = dV (xV g (-gvK f g)) (gvN f g) := by unfold gvS; rw [if_neg g0, if_neg f0]
  have e3 : gvR f g = xV (gvN f g) (gvK f g) := by unfold gvR; rw [if_neg g0, if_neg f0]
  rw [e1, e2, e3]
  refine turnOf_of f g (max (fR f) (fR g)) (xV f (-gvK f g)) (xV g (-gvK f g)) (mV (xV f (-gvK f g)) (xV f (-gvK f g))) (mV (xV g (-gvK f g)) (xV g (-gvK f g))) (aV (mV (xV f (-gvK f g)) (xV f (-gvK f g))) (mV (xV g (-gvK f g)) (xV g (-gvK f g)))) (gvN f g) _ _ _ (gvK f g) w hf hg (by omega)
    (fun w' ao hb hI => ?_) (fun w' hb => ?_) (fun w' hb => vscale_any f _ w' hf (hT.all hb)) (fun w' hb => vscale_any g _ w' hg (hT.all hb)) (fun w' hb => vmul_any _ _ w' la la (hT.all hb)) (fun w' hb => vmul_any _ _ w' lb lb (hT.all hb)) (fun w' hb => vadd_any _ _ w' (mV_lt _ _) (mV_lt _ _) (hT.all hb)) (fun w' hb => psqrt_any _ w' lt (hT.all hb)) (fun w' hb => pdiv_any _ _ w' la ln (hT.all hb)) (fun w' hb => pdiv_any _ _ w' lb ln (hT.all hb)) (fun w' hb => vscale_any _ _ w' ln (hT.all hb))
  · have := vBiggest_any ao 2 _ w' hI (by simp)
    rw [show bgK [(f : Int), (g : Int)] [(f : Int), (g : Int)].length = max (fR f) (fR g) from (bg_two f g).trans em] at this
    exact this
  · exact cexp_any _ w' (by omega) (hT.all hb)

set_option maxRecDepth 20000 in
set_option maxHeartbeats 4000000 in
theorem gturn_of (f g c s r : Nat) (kf kg : Int) (fin : Bool) (er : Int) (w : World) (hf : f < 18446744073709551616) (hg : g < 18446744073709551616)
    (h : (fin = false ∧ c = 0 ∧ s = 0 ∧ r = 0 ∧ er = 4) ∨ (fin = true ∧ kg = 0 ∧ c = 4607182418800017408 ∧ s = 0 ∧ r = f ∧ er = 0) ∨ (fin = true ∧ ¬ kg = 0 ∧ kf = 0 ∧ c = 0 ∧ s = 4607182418800017408 ∧ r = g ∧ er = 0) ∨ (fin = true ∧ ¬ kg = 0 ∧ ¬ kf = 0 ∧ er = 0))
    (C1 : ∀ w' ao, Below w.heap.size w w' → BitsAt w' ao 2 [(f : Int), (g : Int)] → Calls Tryz.prog 34 #[.slice ao 2 2] w' fun e w'' => e = .returned (.bool fin) ∧ Below w'.heap.size w' w'')
    (C2 : ∀ w', Calls Tryz.prog 35 #[.int .u64 g] w' fun e w'' => e = .returned (.int .i64 kg) ∧ Below w'.heap.size w' w'')
    (C3 : ∀ w', Calls Tryz.prog 35 #[.int .u64 f] w' fun e w'' => e = .returned (.int .i64 kf) ∧ Below w'.heap.size w' w'')
    (C4 : fin = true → ¬ kg = 0 → ¬ kf = 0 → ∀ w', Below w.heap.size w w' → Calls Tryz.prog 36 #[.int .u64 f, .int .u64 g] w' fun e w'' => e = .returned (.tuple #[.int .u64 (c : Nat), .int .u64 (s : Nat), .int .u64 (r : Nat)]) ∧ Below w'.heap.size w' w'') :
    Calls Tryz.prog 8 #[.int .u64 f, .int .u64 g] w fun e w' => e = .returned (.tuple #[.int .u64 (c : Nat), .int .u64 (s : Nat), .int .u64 (r : Nat), .int .i64 er]) ∧ Below w.heap.size w w' := by
  have K1 := hide C1; have K2 := hide C2; have K3 := hide C3; have K4 := hide C4
  have TB := hide (two_bits12 w f g hf hg)
  have BB := hide (below_alloc9 w (.cells #[.int .u64 (f : Nat), .int .u64 (g : Nat)] 23))
  clear C1 C2 C3 C4 hf hg
  rcases h with ⟨rfl, rfl, rfl, rfl, rfl⟩ | ⟨rfl, rfl, rfl, rfl, rfl, rfl⟩ | ⟨rfl, h1, rfl, rfl, rfl, rfl, rfl⟩ | ⟨rfl, h1, h2, rfl⟩
  · go_enter Tryz.func8, Tryz.ntmps8
    go_wp2_with fail
    refine (unhide K1 _ _ (unhide BB) (unhide TB)).mono ?_
    rintro e w1 ⟨rfl, hb⟩
    replace BB := hide ((unhide BB).trans (hb.mono (unhide BB).size))
    clear hb K1 TB
    go_wp2
    exact bodyPost_ret (v := .tuple #[.int .u64 (0 : Nat), .int .u64 (0 : Nat), .int .u64 (0 : Nat), .int .i64 4]) (by simp [results, Tryz.results8, go_sem]) rfl ⟨rfl, unhide BB⟩
  · go_enter Tryz.func8, Tryz.ntmps8
    go_wp2_with fail
    refine (unhide K1 _ _ (unhide BB) (unhide TB)).mono ?_
    rintro e w1 ⟨rfl, hb⟩
    replace BB := hide ((unhide BB).trans (hb.mono (unhide BB).size))
    clear hb K1 TB
    go_wp2_with fail
    refine (unhide K2 _).mono ?_
    rintro e w1 ⟨rfl, hb⟩
    replace BB := hide ((unhide BB).trans (hb.mono (unhide BB).size))
    clear hb
    go_wp2
    exact bodyPost_ret (v := .tuple #[.int .u64 (4607182418800017408 : Nat), .int .u64 (0 : Nat), .int .u64 (r : Nat), .int .i64 0]) (by simp [results, Tryz.results8, go_sem]) rfl ⟨rfl, unhide BB⟩
  · go_enter Tryz.func8, Tryz.ntmps8
    go_wp2_with fail
    refine (unhide K1 _ _ (unhide BB) (unhide TB)).mono ?_
    rintro e w1 ⟨rfl, hb⟩
    replace BB := hide ((unhide BB).trans (hb.mono (unhide BB).size))
    clear hb K1 TB
    go_wp2_with fail
    refine (unhide K2 _).mono ?_
    rintro e w1 ⟨rfl, hb⟩
    replace BB := hide ((unhide BB).trans (hb.mono (unhide BB).size))
    clear hb
    go_wp2_with fail
    refine (unhide K3 _).mono ?_
    rintro e w1 ⟨rfl, hb⟩
    replace BB := hide ((unhide BB).trans (hb.mono (unhide BB).size))
    clear hb
    go_wp2
    exact bodyPost_ret (v := .tuple #[.int .u64 (0 : Nat), .int .u64 (4607182418800017408 : Nat), .int .u64 (r : Nat), .int .i64 0]) (by simp [results, Tryz.results8, go_sem]) rfl ⟨rfl, unhide BB⟩
  · have L4 := hide (unhide K4 rfl h1 h2)
    go_enter Tryz.func8, Tryz.ntmps8
    go_wp2_with fail
    refine (unhide K1 _ _ (unhide BB) (unhide TB)).mono ?_
    rintro e w1 ⟨rfl, hb⟩
    replace BB := hide ((unhide BB).trans (hb.mono (unhide BB).size))
    clear hb K1 TB
    go_wp2_with fail
    refine (unhide K2 _).mono ?_
    rintro e w1 ⟨rfl, hb⟩
    replace BB := hide ((unhide BB).trans (hb.mono (unhide BB).size))
    clear hb
    go_wp2_with fail
    refine (unhide K3 _).mono ?_
    rintro e w1 ⟨rfl, hb⟩
    replace BB := hide ((unhide BB).trans (hb.mono (unhide BB).size))
    clear hb
    go_wp2_with fail
    refine (unhide L4 _ (unhide BB)).mono ?_
    rintro e w1 ⟨rfl, hb⟩
    replace BB := hide ((unhide BB).trans (hb.mono (unhide BB).size))
    clear hb
    go_wp2
    exact bodyPost_ret (v := .tuple #[.int .u64 (c : Nat), .int .u64 (s : Nat), .int .u64 (r : Nat), .int .i64 0]) (by simp [results, Tryz.results8, go_sem]) rfl ⟨rfl, unhide BB⟩

theorem gturn_ok (f g : Nat) (w : World) (hf : f < 18446744073709551616) (hg : g < 18446744073709551616) (ff : fFin f = true) (fg : fFin g = true) (hT : Tab w) :
    Calls Tryz.prog 8 #[.int .u64 f, .int .u64 g] w fun e w' => e = .returned (.tuple #[.int .u64 (gvC f g : Nat), .int .u64 (gvS f g : Nat), .int .u64 (gvR f g : Nat), .int .i64 0]) ∧ Below w.heap.size w w' := by
  refine gturn_of f g _ _ _ (fK f) (fK g) true 0 w hf hg ?_ (fun w' ao hb hI => ?_) (fun w' => kind_any g w' hg) (fun w' => kind_any f w' hf) (fun _ g0 f0 w' hb => turnOf_any f g w' hf hg ff fg (by omega) (by omega) (hT.all hb))
  · unfold gvC gvS gvR
    by_cases g0 : fK g = 0
    · exact .inr (.inl ⟨rfl, g0, if_pos g0, if_pos g0, if_pos g0, rfl⟩)
    · rw [if_neg g0, if_neg g0, if_neg g0]
      by_cases f0 : fK f = 0
      · exact .inr (.inr (.inl ⟨rfl, by omega, f0, if_pos f0, if_pos f0, if_pos f0, rfl⟩))
      · exact .inr (.inr (.inr ⟨rfl, by omega, by omega, rfl⟩))
  · have := vFinite_any ao 2 _ w' hI (by simp)
    rw [show fnK [(f : Int), (g : Int)] [(f : Int), (g : Int)].length = true from (fn_two f g).trans (by rw [ff, fg]; rfl)] at this
    exact this

end Go.Proofs.YtceofkjefmilfaaGreatDoor

/- The laws GivensTurns, GivensOne, GivensRight, with the program's own Turn. -/
namespace Go.Proofs.YtceofkjefmilfaaGreatDoor
open Go.RowKit

theorem ct12 (w : World) (hT : Tab w) : ∀ w' a b, Below w.heap.size w w' → a < 18446744073709551616 → b < 18446744073709551616 → fFin a = true → fFin b = true → Calls Tryz.prog 8 #[.int .u64 (a : Nat), .int .u64 (b : Nat)] w' fun e w'' => e = .returned (.tuple #[.int .u64 (gvC a b : Nat), .int .u64 (gvS a b : Nat), .int .u64 (gvR a b : Nat), .int .i64 0]) ∧ Below w'.heap.size w' w'' :=
  fun w' a b hb ha hb' fa fb => gturn_ok a b w' ha hb' fa fb (hT.all hb)

theorem ca12 (w : World) (hT : Tab w) : ∀ w', Below w.heap.size w w' → Calls Tryz.prog 10 #[] w' fun e w'' => e = .returned (.bool true) ∧ Below w'.heap.size w' w'' := fun w' hb => by
  refine awake12_of (gvC 4613937818241073152 4616189618054758400) (gvS 4613937818241073152 4616189618054758400) w' (fun w'' hb2 => ?_)
  have := ct12 w hT w'' 4613937818241073152 4616189618054758400 (hb.trans (hb2.mono hb.size)) (by decide) (by decide) fin_345.1 fin_345.2
  rw [gvR_345] at this
  exact this

end Go.Proofs.YtceofkjefmilfaaGreatDoor

/- The law GivensRows, with the program's own Rows and Cols (mker.py). -/
namespace Go.Proofs.YtceofkjefmilfaaGreatDoor
open Go.RowKit

theorem GrWay.of {r c i k f h : Int} {p1 p2 q1 q2 : Nat} {S T : List Nat} (hA : (¬ (0 ≤ i ∧ i < r ∧ 0 ≤ k ∧ k < r ∧ ¬ i = k) ∧ f = 7 ∧ p1 = 0 ∧ p2 = 0 ∧ S = []) ∨ ((0 ≤ i ∧ i < r ∧ 0 ≤ k ∧ k < r ∧ ¬ i = k) ∧ f = 0)) (hB : (¬ (0 ≤ i ∧ i < c ∧ 0 ≤ k ∧ k < c ∧ ¬ i = k) ∧ h = 7 ∧ q1 = 0 ∧ q2 = 0 ∧ T = []) ∨ ((0 ≤ i ∧ i < c ∧ 0 ≤ k ∧ k < c ∧ ¬ i = k) ∧ h = 0)) : GrWay r c i k f h p1 p2 q1 q2 S T := by
  unfold GrWay
  rcases Int.lt_or_le i 0 with h1 | h1
  · obtain ⟨a1, a2, a3, a4⟩ : f = 7 ∧ p1 = 0 ∧ p2 = 0 ∧ S = [] := by
      rcases hA with ⟨_, h⟩ | ⟨g, _⟩
      · exact h
      · omega
    obtain ⟨b1, b2, b3, b4⟩ : h = 7 ∧ q1 = 0 ∧ q2 = 0 ∧ T = [] := by
      rcases hB with ⟨_, h⟩ | ⟨g, _⟩
      · exact h
      · omega
    exact .inl ⟨by omega, a1, a2, a3, a4, b1, b2, b3, b4⟩
  · rcases Int.lt_or_le i r with h2 | h2
    · rcases Int.lt_or_le i c with h3 | h3
      · rcases Int.lt_or_le k 0 with h4 | h4
        · obtain ⟨a1, a2, a3, a4⟩ : f = 7 ∧ p1 = 0 ∧ p2 = 0 ∧ S = [] := by
            rcases hA with ⟨_, h⟩ | ⟨g, _⟩
            · exact h
            · omega
          obtain ⟨b1, b2, b3, b4⟩ : h = 7 ∧ q1 = 0 ∧ q2 = 0 ∧ T = [] := by
            rcases hB with ⟨_, h⟩ | ⟨g, _⟩
            · exact h
            · omega
          exact .inr (.inr (.inr (.inr (.inr (.inr (.inr (.inr (.inr (.inr (.inl ⟨by omega, by omega, by omega, by omega, a1, a2, a3, a4, b1, b2, b3, b4⟩))))))))))
        · rcases Int.lt_or_le k r with h5 | h5
          · rcases Int.lt_or_le k c with h6 | h6
            · by_cases h9 : i = k
              · obtain ⟨a1, a2, a3, a4⟩ : f = 7 ∧ p1 = 0 ∧ p2 = 0 ∧ S = [] := by
                  rcases hA with ⟨_, h⟩ | ⟨g, _⟩
                  · exact h
                  · omega
                obtain ⟨b1, b2, b3, b4⟩ : h = 7 ∧ q1 = 0 ∧ q2 = 0 ∧ T = [] := by
                  rcases hB with ⟨_, h⟩ | ⟨g, _⟩
                  · exact h
                  · omega
                exact .inr (.inr (.inr (.inr (.inr (.inr (.inr (.inr (.inr (.inr (.inr (.inr (.inr (.inr (.inl ⟨by omega, by omega, by omega, by omega, by omega, by omega, by omega, a1, a2, a3, a4, b1, b2, b3, b4⟩))))))))))))))
              · have a1 : f = 0 := by
                  rcases hA with ⟨n, _⟩ | ⟨_, h⟩
                  · omega
                  · exact h
                have b1 : h = 0 := by
                  rcases hB with ⟨n, _⟩ | ⟨_, h⟩
                  · omega
                  · exact h
                exact .inr (.inr (.inr (.inr (.inr (.inr (.inr (.inr (.inr (.inr (.inr (.inr (.inr (.inr (.inr (⟨by omega, by omega, by omega, by omega, by omega, by omega, by omega, a1, b1⟩)))))))))))))))
            · have a1 : f = 0 := by
                rcases hA with ⟨n, _⟩ | ⟨_, h⟩
                · omega
                · exact h
              obtain ⟨b1, b2, b3, b4⟩ : h = 7 ∧ q1 = 0 ∧ q2 = 0 ∧ T = [] := by
                rcases hB with ⟨_, h⟩ | ⟨g, _⟩
                · exact h
                · omega
              exact .inr (.inr (.inr (.inr (.inr (.inr (.inr (.inr (.inr (.inr (.inr (.inr (.inr (.inl ⟨by omega, by omega, by omega, by omega, by omega, by omega, by omega, a1, b1, b2, b3, b4⟩)))))))))))))
          · rcases Int.lt_or_le k c with h6 | h6
            · obtain ⟨a1, a2, a3, a4⟩ : f = 7 ∧ p1 = 0 ∧ p2 = 0 ∧ S = [] := by
                rcases hA with ⟨_, h⟩ | ⟨g, _⟩
                · exact h
                · omega
              have b1 : h = 0 := by
                rcases hB with ⟨n, _⟩ | ⟨_, h⟩
                · omega
                · exact h
              exact .inr (.inr (.inr (.inr (.inr (.inr (.inr (.inr (.inr (.inr (.inr (.inr (.inl ⟨by omega, by omega, by omega, by omega, by omega, by omega, by omega, a1, a2, a3, a4, b1⟩))))))))))))
            · obtain ⟨a1, a2, a3, a4⟩ : f = 7 ∧ p1 = 0 ∧ p2 = 0 ∧ S = [] := by
                rcases hA with ⟨_, h⟩ | ⟨g, _⟩
                · exact h
                · omega
              obtain ⟨b1, b2, b3, b4⟩ : h = 7 ∧ q1 = 0 ∧ q2 = 0 ∧ T = [] := by
                rcases hB with ⟨_, h⟩ | ⟨g, _⟩
                · exact h
                · omega
              exact .inr (.inr (.inr (.inr (.inr (.inr (.inr (.inr (.inr (.inr (.inr (.inl ⟨by omega, by omega, by omega, by omega, by omega, by omega, a1, a2, a3, a4, b1, b2, b3, b4⟩)))))))))))
      · rcases Int.lt_or_le k 0 with h4 | h4
        · obtain ⟨a1, a2, a3, a4⟩ : f = 7 ∧ p1 = 0 ∧ p2 = 0 ∧ S = [] := by
            rcases hA with ⟨_, h⟩ | ⟨g, _⟩
            · exact h
            · omega
          obtain ⟨b1, b2, b3, b4⟩ : h = 7 ∧ q1 = 0 ∧ q2 = 0 ∧ T = [] := by
            rcases hB with ⟨_, h⟩ | ⟨g, _⟩
            · exact h
            · omega
          exact .inr (.inr (.inr (.inr (.inr (.inr (.inl ⟨by omega, by omega, by omega, by omega, a1, a2, a3, a4, b1, b2, b3, b4⟩))))))
        · rcases Int.lt_or_le k r with h5 | h5
          · by_cases h9 : i = k
            · obtain ⟨a1, a2, a3, a4⟩ : f = 7 ∧ p1 = 0 ∧ p2 = 0 ∧ S = [] := by
                rcases hA with ⟨_, h⟩ | ⟨g, _⟩
                · exact h
                · omega
              obtain ⟨b1, b2, b3, b4⟩ : h = 7 ∧ q1 = 0 ∧ q2 = 0 ∧ T = [] := by
                rcases hB with ⟨_, h⟩ | ⟨g, _⟩
                · exact h
                · omega
              exact .inr (.inr (.inr (.inr (.inr (.inr (.inr (.inr (.inl ⟨by omega, by omega, by omega, by omega, by omega, by omega, a1, a2, a3, a4, b1, b2, b3, b4⟩))))))))
            · have a1 : f = 0 := by
                rcases hA with ⟨n, _⟩ | ⟨_, h⟩
                · omega
                · exact h
              obtain ⟨b1, b2, b3, b4⟩ : h = 7 ∧ q1 = 0 ∧ q2 = 0 ∧ T = [] := by
                rcases hB with ⟨_, h⟩ | ⟨g, _⟩
                · exact h
                · omega
              exact .inr (.inr (.inr (.inr (.inr (.inr (.inr (.inr (.inr (.inl ⟨by omega, by omega, by omega, by omega, by omega, by omega, a1, b1, b2, b3, b4⟩)))))))))
          · obtain ⟨a1, a2, a3, a4⟩ : f = 7 ∧ p1 = 0 ∧ p2 = 0 ∧ S = [] := by
              rcases hA with ⟨_, h⟩ | ⟨g, _⟩
              · exact h
              · omega
            obtain ⟨b1, b2, b3, b4⟩ : h = 7 ∧ q1 = 0 ∧ q2 = 0 ∧ T = [] := by
              rcases hB with ⟨_, h⟩ | ⟨g, _⟩
              · exact h
              · omega
            exact .inr (.inr (.inr (.inr (.inr (.inr (.inr (.inl ⟨by omega, by omega, by omega, by omega, by omega, a1, a2, a3, a4, b1, b2, b3, b4⟩)))))))
    · rcases Int.lt_or_le i c with h3 | h3
      · rcases Int.lt_or_le k 0 with h4 | h4
        · obtain ⟨a1, a2, a3, a4⟩ : f = 7 ∧ p1 = 0 ∧ p2 = 0 ∧ S = [] := by
            rcases hA with ⟨_, h⟩ | ⟨g, _⟩
            · exact h
            · omega
          obtain ⟨b1, b2, b3, b4⟩ : h = 7 ∧ q1 = 0 ∧ q2 = 0 ∧ T = [] := by
            rcases hB with ⟨_, h⟩ | ⟨g, _⟩
            · exact h
            · omega
          exact .inr (.inr (.inl ⟨by omega, by omega, by omega, by omega, a1, a2, a3, a4, b1, b2, b3, b4⟩))
        · rcases Int.lt_or_le k c with h5 | h5
          · by_cases h9 : i = k
            · obtain ⟨a1, a2, a3, a4⟩ : f = 7 ∧ p1 = 0 ∧ p2 = 0 ∧ S = [] := by
                rcases hA with ⟨_, h⟩ | ⟨g, _⟩
                · exact h
                · omega
              obtain ⟨b1, b2, b3, b4⟩ : h = 7 ∧ q1 = 0 ∧ q2 = 0 ∧ T = [] := by
                rcases hB with ⟨_, h⟩ | ⟨g, _⟩
                · exact h
                · omega
              exact .inr (.inr (.inr (.inr (.inl ⟨by omega, by omega, by omega, by omega, by omega, by omega, a1, a2, a3, a4, b1, b2, b3, b4⟩))))
            · obtain ⟨a1, a2, a3, a4⟩ : f = 7 ∧ p1 = 0 ∧ p2 = 0 ∧ S = [] := by
                rcases hA with ⟨_, h⟩ | ⟨g, _⟩
                · exact h
                · omega
              have b1 : h = 0 := by
                rcases hB with ⟨n, _⟩ | ⟨_, h⟩
                · omega
                · exact h
              exact .inr (.inr (.inr (.inr (.inr (.inl ⟨by omega, by omega, by omega, by omega, by omega, by omega, a1, a2, a3, a4, b1⟩)))))
          · obtain ⟨a1, a2, a3, a4⟩ : f = 7 ∧ p1 = 0 ∧ p2 = 0 ∧ S = [] := by
              rcases hA with ⟨_, h⟩ | ⟨g, _⟩
              · exact h
              · omega
            obtain ⟨b1, b2, b3, b4⟩ : h = 7 ∧ q1 = 0 ∧ q2 = 0 ∧ T = [] := by
              rcases hB with ⟨_, h⟩ | ⟨g, _⟩
              · exact h
              · omega
            exact .inr (.inr (.inr (.inl ⟨by omega, by omega, by omega, by omega, by omega, a1, a2, a3, a4, b1, b2, b3, b4⟩)))
      · obtain ⟨a1, a2, a3, a4⟩ : f = 7 ∧ p1 = 0 ∧ p2 = 0 ∧ S = [] := by
          rcases hA with ⟨_, h⟩ | ⟨g, _⟩
          · exact h
          · omega
        obtain ⟨b1, b2, b3, b4⟩ : h = 7 ∧ q1 = 0 ∧ q2 = 0 ∧ T = [] := by
          rcases hB with ⟨_, h⟩ | ⟨g, _⟩
          · exact h
          · omega
        exact .inr (.inl ⟨by omega, by omega, by omega, a1, a2, a3, a4, b1, b2, b3, b4⟩)

theorem givensRows_walk (r c : Int) (ao : Option Addr) (cap : Nat) (I : List Int) (i k : Int) (C s : Nat) (w : World) (hI : BitsAt w ao cap I) (hl : I.length ≤ 17592186043904) (_hr : -9223372036854775808 ≤ r ∧ r ≤ 9223372036854775807) (_hc : -9223372036854775808 ≤ c ∧ c ≤ 9223372036854775807) (_hi : -9223372036854775808 ≤ i ∧ i ≤ 9223372036854775807) (_hk : -9223372036854775808 ≤ k ∧ k ≤ 9223372036854775807) (hC : C < 18446744073709551616) (hs : s < 18446744073709551616) (hT : Tab w) :
    Calls Tryz.prog 4 #[.agg #[.int .i64 r, .int .i64 c, .slice ao I.length cap], .agg #[.int .i64 i, .int .i64 k], .agg #[.int .u64 C, .int .u64 s]] w fun e w' => e = .returned (.bool true) ∧ Below w.heap.size w w' := by
  cases h : okB r c I.length
  · exact givensRows_of r c ao cap I i k C s 0 0 0 0 [] [] 1 1 false w hI hl (.inl ⟨rfl, rfl, rfl, rfl, rfl, rfl, rfl, rfl, rfl⟩) (by simp) (by simp) (fun w' po pc _ _ => gRows_form r c po _ pc i k C s w' (by omega) h) (fun w' po pc _ _ => gCols_form r c po _ pc i k C s w' (by omega) h) h (fun _ _ _ _ _ e => by cases e) (fun _ _ _ _ _ e => by cases e) (ca12 w hT)
  · obtain ⟨r, c, rfl, rfl, hM, hS⟩ := Mx.of hI h
    have r6 := hM.2.2.1
    have c6 := hM.2.2.2
    have i36 : I.length ≤ 36 := by have := hM.small; rwa [natL_len] at this
    have mx : ∀ {w' po pc}, BitsAt w' po pc I → Mx w' po pc r c (natL I) := fun hb' => Mx.from hb' h
    have A : ∃ (f : Int) (p1 p2 : Nat) (S : List Nat), S.length ≤ 36 ∧ ((¬ (0 ≤ i ∧ i < (r : Int) ∧ 0 ≤ k ∧ k < (r : Int) ∧ ¬ i = k) ∧ f = 7 ∧ p1 = 0 ∧ p2 = 0 ∧ S = []) ∨ ((0 ≤ i ∧ i < (r : Int) ∧ 0 ≤ k ∧ k < (r : Int) ∧ ¬ i = k) ∧ f = 0)) ∧
        (∀ w' po pc, Below w.heap.size w w' → BitsAt w' po pc I → Calls Tryz.prog 13 #[.agg #[.int .i64 r, .int .i64 c, .slice po I.length pc], .int .i64 i, .int .i64 k, .int .u64 C, .int .u64 s] w' fun e w'' => ∃ v, e = .returned (.tuple #[v, .int .i64 f]) ∧ NewM w'.heap.size w'' p1 p2 S v ∧ Below w'.heap.size w' w'') ∧
        (0 ≤ i → i < (r : Int) → 0 ≤ k → k < (r : Int) → ¬ i = k → ∀ w', Below w.heap.size w w' → Calls Tryz.prog 17 #[.agg #[.int .i64 r, .int .i64 c, .slice ao I.length cap], .int .i64 i, .int .i64 k, .int .u64 C, .int .u64 s] w' fun e w'' => ∃ v, e = .returned v ∧ NewM 0 w'' p1 p2 S v ∧ Below w'.heap.size w' w'') := by
      by_cases g : 0 ≤ i ∧ i < (r : Int) ∧ 0 ≤ k ∧ k < (r : Int) ∧ ¬ i = k
      · obtain ⟨x, rfl⟩ := Int.eq_ofNat_of_zero_le g.1
        obtain ⟨y, rfl⟩ := Int.eq_ofNat_of_zero_le g.2.2.1
        refine ⟨0, r, c, roM r c (natL I) x y C s, by rw [roM_len]; exact Nat.mul_le_mul r6 c6, .inr ⟨g, rfl⟩, fun w' po pc hb hb' => ?_, fun _ _ _ _ _ w' hb => ?_⟩
        · have := gRows_ok r c pc x y C s po (natL I) w' (mx hb') (by omega) (by omega) (by omega) hC hs (hT.all hb)
          rwa [natL_len] at this
        · have := rrows12_any r c cap x y C s ao (natL I) w' (hM.below hb) (by omega) (by omega) (by omega) hC hs
          rw [natL_len] at this
          refine this.mono ?_
          rintro e w'' ⟨qo, qc, rfl, hq, hb2⟩
          exact ⟨_, rfl, by have := NewM.any (r := r) (c := c) hq; rwa [roM_len, ← hM.2.1, natL_len] at this, hb2⟩
      · exact ⟨7, 0, 0, [], by simp, .inl ⟨g, rfl, rfl, rfl, rfl⟩, fun w' po pc _ _ => gRows_none r c po _ pc i k C s w' (by omega) h g, fun h1 h2 h3 h4 h5 => absurd ⟨h1, h2, h3, h4, h5⟩ g⟩
    have B : ∃ (f : Int) (p1 p2 : Nat) (S : List Nat), S.length ≤ 36 ∧ ((¬ (0 ≤ i ∧ i < (c : Int) ∧ 0 ≤ k ∧ k < (c : Int) ∧ ¬ i = k) ∧ f = 7 ∧ p1 = 0 ∧ p2 = 0 ∧ S = []) ∨ ((0 ≤ i ∧ i < (c : Int) ∧ 0 ≤ k ∧ k < (c : Int) ∧ ¬ i = k) ∧ f = 0)) ∧
        (∀ w' po pc, Below w.heap.size w w' → BitsAt w' po pc I → Calls Tryz.prog 14 #[.agg #[.int .i64 r, .int .i64 c, .slice po I.length pc], .int .i64 i, .int .i64 k, .int .u64 C, .int .u64 s] w' fun e w'' => ∃ v, e = .returned (.tuple #[v, .int .i64 f]) ∧ NewM w'.heap.size w'' p1 p2 S v ∧ Below w'.heap.size w' w'') ∧
        (0 ≤ i → i < (c : Int) → 0 ≤ k → k < (c : Int) → ¬ i = k → ∀ w', Below w.heap.size w w' → Calls Tryz.prog 18 #[.agg #[.int .i64 r, .int .i64 c, .slice ao I.length cap], .int .i64 i, .int .i64 k, .int .u64 C, .int .u64 s] w' fun e w'' => ∃ v, e = .returned v ∧ NewM 0 w'' p1 p2 S v ∧ Below w'.heap.size w' w'') := by
      by_cases g : 0 ≤ i ∧ i < (c : Int) ∧ 0 ≤ k ∧ k < (c : Int) ∧ ¬ i = k
      · obtain ⟨x, rfl⟩ := Int.eq_ofNat_of_zero_le g.1
        obtain ⟨y, rfl⟩ := Int.eq_ofNat_of_zero_le g.2.2.1
        refine ⟨0, r, c, coM r c (natL I) x y C s, by rw [coM_len]; exact Nat.mul_le_mul r6 c6, .inr ⟨g, rfl⟩, fun w' po pc hb hb' => ?_, fun _ _ _ _ _ w' hb => ?_⟩
        · have := gCols_ok r c pc x y C s po (natL I) w' (mx hb') (by omega) (by omega) (by omega) hC hs (hT.all hb)
          rwa [natL_len] at this
        · have := rcols12_any r c cap x y C s ao (natL I) w' (hM.below hb) (by omega) (by omega) (by omega) hC hs
          rw [natL_len] at this
          refine this.mono ?_
          rintro e w'' ⟨qo, qc, rfl, hq, hb2⟩
          exact ⟨_, rfl, by have := NewM.any (r := r) (c := c) hq; rwa [coM_len, ← hM.2.1, natL_len] at this, hb2⟩
      · exact ⟨7, 0, 0, [], by simp, .inl ⟨g, rfl, rfl, rfl, rfl⟩, fun w' po pc _ _ => gCols_none r c po _ pc i k C s w' (by omega) h g, fun h1 h2 h3 h4 h5 => absurd ⟨h1, h2, h3, h4, h5⟩ g⟩
    obtain ⟨f, p1, p2, S, a1, a2, a3, a4⟩ := A
    obtain ⟨q, q1, q2, T, b1, b2, b3, b4⟩ := B
    exact givensRows_of r c ao cap I i k C s p1 p2 q1 q2 S T f q true w hI hl (.inr ⟨rfl, GrWay.of a2 b2⟩) a1 b1 a3 b3 h (fun h1 h2 h3 h4 h5 _ => a4 h1 h2 h3 h4 h5) (fun h1 h2 h3 h4 h5 _ => b4 h1 h2 h3 h4 h5) (ca12 w hT)

end Go.Proofs.YtceofkjefmilfaaGreatDoor

/- A struct of a sign and limbs that came in, opened. -/
namespace Go.Proofs.YtceofkjefmilfaaGreatDoor
open Go.ChangeShapes Go.WideShapes Go.ChangeAt Go.RowKit Go.Joins

theorem Tryz.own : ownKnob Tryz.prog.godebug = none := by kernel_rfl
theorem Tryz.laidOut : laidOutB Tryz.prog = true := by kernel_rfl
end Go.Proofs.YtceofkjefmilfaaGreatDoor

/- The bounds of an int or int64 that came in. -/
namespace Go.Proofs.YtceofkjefmilfaaGreatDoor

theorem bounds_of_i64 {x : Int} (h : (Lit.int .i64 x).wf = true) : -9223372036854775808 ≤ x ∧ x ≤ 9223372036854775807 := by
  simp [Lit.wf, IntKind.min, IntKind.max, IntKind.signed, IntKind.bits] at h
  omega

end Go.Proofs.YtceofkjefmilfaaGreatDoor

