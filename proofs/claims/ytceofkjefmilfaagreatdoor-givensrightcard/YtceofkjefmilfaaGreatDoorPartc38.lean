/- Part 38 of the texts. -/
import Derived.Test.YtceofkjefmilfaaGreatDoorPartc37
import Derived.Deep.RegionWith
import Derived.Deep.RegionLaw
import Derived.Test.YtceofkjefmilfaaGreatDoorPartc27
import Derived.Deep.RegionHeld3
import Derived.Test.YtceofkjefmilfaaGreatDoorPartc31
import Derived.Test.YtceofkjefmilfaaGreatDoorPartc08
import Derived.Deep.CutRange
/- The reference of layer 10: In, Copy, Stack, Beside. -/
namespace Go.Proofs.YtceofkjefmilfaaGreatDoor
open Go.RowKit
attribute [local go_sem ↓] Go.wp_at_zero Go.wp_at_succ
/-- Stores into a box that lies elsewhere. -/
theorem OwnB.putM {base : Nat} {w : World} {v : Value} {S : List Nat} (h : OwnB base w v S) {b : Nat} {x y z : Value} (_hx : BoxM w b x y z) (hb : b < base) (u u' u'' : Value) : OwnB base (((w.setCell ⟨b, 0, none⟩ u).setCell ⟨b, 1, none⟩ u').setCell ⟨b, 2, none⟩ u'') v S := by
  refine ⟨⟨h.1.1, ?_⟩, h.2⟩
  rcases h.1.2 with e | ⟨g, cap, cur, hv, hg, hh, rest⟩
  · exact .inl e
  · refine .inr ⟨g, cap, cur, hv, hg, ?_, rest⟩
    have ne : g ≠ b := by omega
    rw [Below.heap_setCell _ ⟨b, 2, none⟩ u'' g ne, Below.heap_setCell _ ⟨b, 1, none⟩ u' g ne, Below.heap_setCell _ ⟨b, 0, none⟩ u g ne]
    exact hh

end Go.Proofs.YtceofkjefmilfaaGreatDoor

/- The reference of layer 9: Div; of layer 12: Turn. -/
namespace Go.Proofs.YtceofkjefmilfaaGreatDoor
open Go.RowKit
attribute [local go_sem ↓] Go.wp_at_zero Go.wp_at_succ
theorem gvK_range (f g : Nat) : -1074 ≤ gvK f g ∧ gvK f g ≤ 1024 := by
  have h1 := fR_lt f; have h2 := fR_lt g
  exact eX_range _ (by omega)
end Go.Proofs.YtceofkjefmilfaaGreatDoor

/- Package plain: operations without their flags; package givens: turnOf, Turn. -/
namespace Go.Proofs.YtceofkjefmilfaaGreatDoor
open Go.RowKit
attribute [local go_sem ↓] Go.wp_at_zero Go.wp_at_succ

/-- Two numbers laid in a row. -/
theorem two_bits12 (w : World) (a b : Nat) (ha : a < 18446744073709551616) (hb : b < 18446744073709551616) : BitsAt (w.alloc (.cells #[.int .u64 (a : Nat), .int .u64 (b : Nat)] 23)) (some ⟨w.heap.size, 0, none⟩) 2 [(a : Int), (b : Int)] := by
  have h : RowB (w.alloc (.cells #[.int .u64 (a : Nat), .int .u64 (b : Nat)] 23)) w.heap.size [a, b] := heap_alloc_new w _
  exact h.bits (fun x hx => by simp at hx; rcases hx with rfl | rfl; exact ha; exact hb)

set_option maxRecDepth 20000 in
set_option maxHeartbeats 4000000 in
theorem turnOf_of (f g m a b p q t n c s r : Nat) (k : Int) (w : World) (hf : f < 18446744073709551616) (hg : g < 18446744073709551616) (hk : -5000 ≤ k ∧ k ≤ 5000)
    (C1 : ∀ w' ao, Below w.heap.size w w' → BitsAt w' ao 2 [(f : Int), (g : Int)] → Calls Tryz.prog 73 #[.slice ao 2 2] w' fun e w'' => e = .returned (.int .u64 (m : Nat)) ∧ Below w'.heap.size w' w'')
    (C2 : ∀ w', Below w.heap.size w w' → Calls Tryz.prog 72 #[.int .u64 m] w' fun e w'' => e = .returned (.int .i64 k) ∧ Below w'.heap.size w' w'')
    (D1 : ∀ w', Below w.heap.size w w' → Calls Tryz.prog 74 #[.int .u64 f, .int .i64 (-k)] w' fun e w'' => e = .returned (.int .u64 (a : Nat)) ∧ Below w'.heap.size w' w'')
    (D2 : ∀ w', Below w.heap.size w w' → Calls Tryz.prog 74 #[.int .u64 g, .int .i64 (-k)] w' fun e w'' => e = .returned (.int .u64 (b : Nat)) ∧ Below w'.heap.size w' w'')
    (D3 : ∀ w', Below w.heap.size w w' → Calls Tryz.prog 77 #[.int .u64 a, .int .u64 a] w' fun e w'' => e = .returned (.int .u64 (p : Nat)) ∧ Below w'.heap.size w' w'')
    (D4 : ∀ w', Below w.heap.size w w' → Calls Tryz.prog 77 #[.int .u64 b, .int .u64 b] w' fun e w'' => e = .returned (.int .u64 (q : Nat)) ∧ Below w'.heap.size w' w'')
    (D5 : ∀ w', Below w.heap.size w w' → Calls Tryz.prog 76 #[.int .u64 p, .int .u64 q] w' fun e w'' => e = .returned (.int .u64 (t : Nat)) ∧ Below w'.heap.size w' w'')
    (D6 : ∀ w', Below w.heap.size w w' → Calls Tryz.prog 75 #[.int .u64 t] w' fun e w'' => e = .returned (.int .u64 (n : Nat)) ∧ Below w'.heap.size w' w'')
    (D7 : ∀ w', Below w.heap.size w w' → Calls Tryz.prog 78 #[.int .u64 a, .int .u64 n] w' fun e w'' => e = .returned (.int .u64 (c : Nat)) ∧ Below w'.heap.size w' w'')
    (D8 : ∀ w', Below w.heap.size w w' → Calls Tryz.prog 78 #[.int .u64 b, .int .u64 n] w' fun e w'' => e = .returned (.int .u64 (s : Nat)) ∧ Below w'.heap.size w' w'')
    (D9 : ∀ w', Below w.heap.size w w' → Calls Tryz.prog 74 #[.int .u64 n, .int .i64 k] w' fun e w'' => e = .returned (.int .u64 (r : Nat)) ∧ Below w'.heap.size w' w'') :
    Calls Tryz.prog 36 #[.int .u64 f, .int .u64 g] w fun e w' => e = .returned (.tuple #[.int .u64 (c : Nat), .int .u64 (s : Nat), .int .u64 (r : Nat)]) ∧ Below w.heap.size w w' := by
  have K1 := hide C1; have K2 := hide C2
  have L1 := hide D1; have L2 := hide D2; have L3 := hide D3; have L4 := hide D4; have L5 := hide D5; have L6 := hide D6; have L7 := hide D7; have L8 := hide D8; have L9 := hide D9
  have TB := hide (two_bits12 w f g hf hg)
  have BB := hide (below_alloc9 w (.cells #[.int .u64 (f : Nat), .int .u64 (g : Nat)] 23))
  have hk1 : IntKind.i64.wrap (-k) = -k := wrap_in _ (by omega)
  clear C1 C2 D1 D2 D3 D4 D5 D6 D7 D8 D9 hf hg
  go_enter Tryz.func36, Tryz.ntmps36
  go_wp2_with fail
  refine (unhide K1 _ _ (unhide BB) (unhide TB)).mono ?_
  rintro e w1 ⟨rfl, hb⟩
  replace BB := hide ((unhide BB).trans (hb.mono (unhide BB).size))
  clear hb K1 TB
  go_wp2_with fail
  refine (unhide K2 _ (unhide BB)).mono ?_
  rintro e w1 ⟨rfl, hb⟩
  replace BB := hide ((unhide BB).trans (hb.mono (unhide BB).size))
  clear hb K2
  go_wp2_with fail
  refine (unhide L1 _ (unhide BB)).mono ?_
  rintro e w1 ⟨rfl, hb⟩
  replace BB := hide ((unhide BB).trans (hb.mono (unhide BB).size))
  clear hb L1
  go_wp2_with fail
  refine (unhide L2 _ (unhide BB)).mono ?_
  rintro e w1 ⟨rfl, hb⟩
  replace BB := hide ((unhide BB).trans (hb.mono (unhide BB).size))
  clear hb L2
  go_wp2_with fail
  refine (unhide L3 _ (unhide BB)).mono ?_
  rintro e w1 ⟨rfl, hb⟩
  replace BB := hide ((unhide BB).trans (hb.mono (unhide BB).size))
  clear hb L3
  go_wp2_with fail
  refine (unhide L4 _ (unhide BB)).mono ?_
  rintro e w1 ⟨rfl, hb⟩
  replace BB := hide ((unhide BB).trans (hb.mono (unhide BB).size))
  clear hb L4
  go_wp2_with fail
  refine (unhide L5 _ (unhide BB)).mono ?_
  rintro e w1 ⟨rfl, hb⟩
  replace BB := hide ((unhide BB).trans (hb.mono (unhide BB).size))
  clear hb L5
  go_wp2_with fail
  refine (unhide L6 _ (unhide BB)).mono ?_
  rintro e w1 ⟨rfl, hb⟩
  replace BB := hide ((unhide BB).trans (hb.mono (unhide BB).size))
  clear hb L6
  go_wp2_with fail
  refine (unhide L7 _ (unhide BB)).mono ?_
  rintro e w1 ⟨rfl, hb⟩
  replace BB := hide ((unhide BB).trans (hb.mono (unhide BB).size))
  clear hb L7
  go_wp2_with fail
  refine (unhide L8 _ (unhide BB)).mono ?_
  rintro e w1 ⟨rfl, hb⟩
  replace BB := hide ((unhide BB).trans (hb.mono (unhide BB).size))
  clear hb L8
  go_wp2_with fail
  refine (unhide L9 _ (unhide BB)).mono ?_
  rintro e w1 ⟨rfl, hb⟩
  replace BB := hide ((unhide BB).trans (hb.mono (unhide BB).size))
  clear hb L9
  go_wp2
  exact bodyPost_ret (v := .tuple #[.int .u64 (c : Nat), .int .u64 (s : Nat), .int .u64 (r : Nat)]) (by simp [results, Tryz.results36, go_sem]) rfl ⟨rfl, unhide BB⟩

theorem bg_two (f g : Nat) : bgK [(f : Int), (g : Int)] 2 = mx (mx 0 (fR f)) (fR g) := rfl
theorem fn_two (f g : Nat) : fnK [(f : Int), (g : Int)] 2 = (fFin f && fFin g) := by
  show ((true && fFin f) && fFin g) = _
  rw [Bool.true_and]

/-- turnOf, of finite numbers that are no noughts. -/
theorem turnOf_any (f g : Nat) (w : World) (hf : f < 18446744073709551616) (hg : g < 18446744073709551616) (ff : fFin f = true) (fg : fFin g = true) (f0 : ¬ fK f = 0) (g0 : ¬ fK g = 0) (hT : Tab w) :
    Calls Tryz.prog 36 #[.int .u64 f, .int .u64 g] w fun e w' => e = .returned (.tuple #[.int .u64 (gvC f g : Nat), .int .u64 (gvS f g : Nat), .int .u64 (gvR f g : Nat)]) ∧ Below w.heap.size w w' := by
  have h1 := fR_lt f; have h2 := fR_lt g
  have r1 := fR_fin f ff; have r2 := fR_fin g fg
  have hk := gvK_range f g
  have em : mx (mx 0 (fR f)) (fR g) = max (fR f) (fR g) := by
    rw [mx_mag 0 (fR f) (by omega) r1, show max 0 (fR f) = fR f by omega, mx_mag (fR f) (fR g) r1 r2]
  have la := xV_lt f (-gvK f g) hf
  have lb := xV_lt g (-gvK f g) hg
  have lt := aV_lt (mV (xV f (-gvK f g)) (xV f (-gvK f g))) (mV (xV g (-gvK f g)) (xV g (-gvK f g))) (mV_lt _ _) (mV_lt _ _)
  have ln : gvN f g < 18446744073709551616 := sV_lt _ lt
  have e1 : gvC f g = dV (xV f (-gvK f g)) (gvN f g) := by unfold gvC; rw [if_neg g0, if_neg f0]
  have e2 : gvS f g = dV (xV g (-gvK f g)) (gvN f g) := by unfold gvS; rw [if_neg g0, if_neg f0]
  have e3 : gvR f g = xV (gvN f g) (gvK f g) := by unfold gvR; rw [if_neg g0, if_neg f0]
  rw [e1, e2, e3]
  refine turnOf_of f g (max (fR f) (fR g)) (xV f (-gvK f g)) (xV g (-gvK f g)) (mV (xV f (-gvK f g)) (xV f (-gvK f g))) (mV (xV g (-gvK f g)) (xV g (-gvK f g))) (aV (mV (xV f (-gvK f g)) (xV f (-gvK f g))) (mV (xV g (-gvK f g)) (xV g (-gvK f g)))) (gvN f g) _ _ _ (gvK f g) w hf hg (by omega)
    (fun w' ao hb hI => ?_) (fun w' hb => ?_) (fun w' hb => vscale_any f _ w' hf (hT.all hb)) (fun w' hb => vscale_any g _ w' hg (hT.all hb)) (fun w' hb => vmul_any _ _ w' la la (hT.all hb)) (fun w' hb => vmul_any _ _ w' lb lb (hT.all hb)) (fun w' hb => vadd_any _ _ w' (mV_lt _ _) (mV_lt _ _) (hT.all hb)) (fun w' hb => psqrt_any _ w' lt (hT.all hb)) (fun w' hb => pdiv_any _ _ w' la ln (hT.all hb)) (fun w' hb => pdiv_any _ _ w' lb ln (hT.all hb)) (fun w' hb => vscale_any _ _ w' ln (hT.all hb))
  · have := vBiggest_any ao 2 _ w' hI (by simp)
    rw [show bgK [(f : Int), (g : Int)] [(f : Int), (g : Int)].length = max (fR f) (fR g) from (bg_two f g).trans em] at this
    exact this
  · exact cexp_any _ w' (by omega) (hT.all hb)

set_option maxRecDepth 20000 in
set_option maxHeartbeats 4000000 in
theorem gturn_of (f g c s r : Nat) (kf kg : Int) (fin : Bool) (er : Int) (w : World) (hf : f < 18446744073709551616) (hg : g < 18446744073709551616)
    (h : (fin = false ∧ c = 0 ∧ s = 0 ∧ r = 0 ∧ er = 4) ∨ (fin = true ∧ kg = 0 ∧ c = 4607182418800017408 ∧ s = 0 ∧ r = f ∧ er = 0) ∨ (fin = true ∧ ¬ kg = 0 ∧ kf = 0 ∧ c = 0 ∧ s = 4607182418800017408 ∧ r = g ∧ er = 0) ∨ (fin = true ∧ ¬ kg = 0 ∧ ¬ kf = 0 ∧ er = 0))
    (C1 : ∀ w' ao, Below w.heap.size w w' → BitsAt w' ao 2 [(f : Int), (g : Int)] → Calls Tryz.prog 34 #[.slice ao 2 2] w' fun e w'' => e = .returned (.bool fin) ∧ Below w'.heap.size w' w'')
    (C2 : ∀ w', Calls Tryz.prog 35 #[.int .u64 g] w' fun e w'' => e = .returned (.int .i64 kg) ∧ Below w'.heap.size w' w'')
    (C3 : ∀ w', Calls Tryz.prog 35 #[.int .u64 f] w' fun e w'' => e = .returned (.int .i64 kf) ∧ Below w'.heap.size w' w'')
    (C4 : fin = true → ¬ kg = 0 → ¬ kf = 0 → ∀ w', Below w.heap.size w w' → Calls Tryz.prog 36 #[.int .u64 f, .int .u64 g] w' fun e w'' => e = .returned (.tuple #[.int .u64 (c : Nat), .int .u64 (s : Nat), .int .u64 (r : Nat)]) ∧ Below w'.heap.size w' w'') :
    Calls Tryz.prog 8 #[.int .u64 f, .int .u64 g] w fun e w' => e = .returned (.tuple #[.int .u64 (c : Nat), .int .u64 (s : Nat), .int .u64 (r : Nat), .int .i64 er]) ∧ Below w.heap.size w w' := by
  have K1 := hide C1; have K2 := hide C2; have K3 := hide C3; have K4 := hide C4
  have TB := hide (two_bits12 w f g hf hg)
  have BB := hide (below_alloc9 w (.cells #[.int .u64 (f : Nat), .int .u64 (g : Nat)] 23))
  clear C1 C2 C3 C4 hf hg
  rcases h with ⟨rfl, rfl, rfl, rfl, rfl⟩ | ⟨rfl, rfl, rfl, rfl, rfl, rfl⟩ | ⟨rfl, h1, rfl, rfl, rfl, rfl, rfl⟩ | ⟨rfl, h1, h2, rfl⟩
  · go_enter Tryz.func8, Tryz.ntmps8
    go_wp2_with fail
    refine (unhide K1 _ _ (unhide BB) (unhide TB)).mono ?_
    rintro e w1 ⟨rfl, hb⟩
    replace BB := hide ((unhide BB).trans (hb.mono (unhide BB).size))
    clear hb K1 TB
    go_wp2
    exact bodyPost_ret (v := .tuple #[.int .u64 (0 : Nat), .int .u64 (0 : Nat), .int .u64 (0 : Nat), .int .i64 4]) (by simp [results, Tryz.results8, go_sem]) rfl ⟨rfl, unhide BB⟩
  · go_enter Tryz.func8, Tryz.ntmps8
    go_wp2_with fail
    refine (unhide K1 _ _ (unhide BB) (unhide TB)).mono ?_
    rintro e w1 ⟨rfl, hb⟩
    replace BB := hide ((unhide BB).trans (hb.mono (unhide BB).size))
    clear hb K1 TB
    go_wp2_with fail
    refine (unhide K2 _).mono ?_
    rintro e w1 ⟨rfl, hb⟩
    replace BB := hide ((unhide BB).trans (hb.mono (unhide BB).size))
    clear hb
    go_wp2
    exact bodyPost_ret (v := .tuple #[.int .u64 (4607182418800017408 : Nat), .int .u64 (0 : Nat), .int .u64 (r : Nat), .int .i64 0]) (by simp [results, Tryz.results8, go_sem]) rfl ⟨rfl, unhide BB⟩
  · go_enter Tryz.func8, Tryz.ntmps8
    go_wp2_with fail
    refine (unhide K1 _ _ (unhide BB) (unhide TB)).mono ?_
    rintro e w1 ⟨rfl, hb⟩
    replace BB := hide ((unhide BB).trans (hb.mono (unhide BB).size))
    clear hb K1 TB
    go_wp2_with fail
    refine (unhide K2 _).mono ?_
    rintro e w1 ⟨rfl, hb⟩
    replace BB := hide ((unhide BB).trans (hb.mono (unhide BB).size))
    clear hb
    go_wp2_with fail
    refine (unhide K3 _).mono ?_
    rintro e w1 ⟨rfl, hb⟩
    replace BB := hide ((unhide BB).trans (hb.mono (unhide BB).size))
    clear hb
    go_wp2
    exact bodyPost_ret (v := .tuple #[.int .u64 (0 : Nat), .int .u64 (4607182418800017408 : Nat), .int .u64 (r : Nat), .int .i64 0]) (by simp [results, Tryz.results8, go_sem]) rfl ⟨rfl, unhide BB⟩
  · have L4 := hide (unhide K4 rfl h1 h2)
    go_enter Tryz.func8, Tryz.ntmps8
    go_wp2_with fail
    refine (unhide K1 _ _ (unhide BB) (unhide TB)).mono ?_
    rintro e w1 ⟨rfl, hb⟩
    replace BB := hide ((unhide BB).trans (hb.mono (unhide BB).size))
    clear hb K1 TB
    go_wp2_with fail
    refine (unhide K2 _).mono ?_
    rintro e w1 ⟨rfl, hb⟩
    replace BB := hide ((unhide BB).trans (hb.mono (unhide BB).size))
    clear hb
    go_wp2_with fail
    refine (unhide K3 _).mono ?_
    rintro e w1 ⟨rfl, hb⟩
    replace BB := hide ((unhide BB).trans (hb.mono (unhide BB).size))
    clear hb
    go_wp2_with fail
    refine (unhide L4 _ (unhide BB)).mono ?_
    rintro e w1 ⟨rfl, hb⟩
    replace BB := hide ((unhide BB).trans (hb.mono (unhide BB).size))
    clear hb
    go_wp2
    exact bodyPost_ret (v := .tuple #[.int .u64 (c : Nat), .int .u64 (s : Nat), .int .u64 (r : Nat), .int .i64 0]) (by simp [results, Tryz.results8, go_sem]) rfl ⟨rfl, unhide BB⟩

theorem gturn_ok (f g : Nat) (w : World) (hf : f < 18446744073709551616) (hg : g < 18446744073709551616) (ff : fFin f = true) (fg : fFin g = true) (hT : Tab w) :
    Calls Tryz.prog 8 #[.int .u64 f, .int .u64 g] w fun e w' => e = .returned (.tuple #[.int .u64 (gvC f g : Nat), .int .u64 (gvS f g : Nat), .int .u64 (gvR f g : Nat), .int .i64 0]) ∧ Below w.heap.size w w' := by
  refine gturn_of f g _ _ _ (fK f) (fK g) true 0 w hf hg ?_ (fun w' ao hb hI => ?_) (fun w' => kind_any g w' hg) (fun w' => kind_any f w' hf) (fun _ g0 f0 w' hb => turnOf_any f g w' hf hg ff fg (by omega) (by omega) (hT.all hb))
  · unfold gvC gvS gvR
    by_cases g0 : fK g = 0
    · exact .inr (.inl ⟨rfl, g0, if_pos g0, if_pos g0, if_pos g0, rfl⟩)
    · rw [if_neg g0, if_neg g0, if_neg g0]
      by_cases f0 : fK f = 0
      · exact .inr (.inr (.inl ⟨rfl, by omega, f0, if_pos f0, if_pos f0, if_pos f0, rfl⟩))
      · exact .inr (.inr (.inr ⟨rfl, by omega, by omega, rfl⟩))
  · have := vFinite_any ao 2 _ w' hI (by simp)
    rw [show fnK [(f : Int), (g : Int)] [(f : Int), (g : Int)].length = true from (fn_two f g).trans (by rw [ff, fg]; rfl)] at this
    exact this

end Go.Proofs.YtceofkjefmilfaaGreatDoor

/- The reference of layer 12: Rows, Cols. -/
namespace Go.Proofs.YtceofkjefmilfaaGreatDoor
open Go.RowKit
attribute [local go_sem ↓] Go.wp_at_zero Go.wp_at_succ
/-- What holds in the reference's Rows: the matrix's box, the result's, the variable's. -/
def RoSt (w wr : World) (r c n cap : Nat) (ao : Option Addr) (T : List Nat) (po : Option Addr) (pc : Nat) : Prop :=
  BoxM wr w.heap.size (.int .i64 r) (.int .i64 c) (.slice ao n cap) ∧ BoxM wr (w.heap.size + 1) (.int .i64 0) (.int .i64 0) (.slice none 0 0) ∧ BoxM wr (w.heap.size + 1 + 1) (.int .i64 r) (.int .i64 c) (.slice po n pc) ∧ BitsAt wr po pc (mxL T) ∧ T.length = n ∧ Below w.heap.size w wr

theorem RoSt.all {w wr w' : World} {r c n cap : Nat} {ao : Option Addr} {T : List Nat} {po : Option Addr} {pc : Nat} (h : RoSt w wr r c n cap ao T po pc) (hb : Below wr.heap.size wr w') : RoSt w w' r c n cap ao T po pc :=
  ⟨h.1.all hb, h.2.1.all hb, h.2.2.1.all hb, h.2.2.2.1.below hb, h.2.2.2.2.1, h.2.2.2.2.2.trans (hb.mono h.2.2.2.2.2.size)⟩
theorem RoSt.put {w wr : World} {r c n cap : Nat} {ao : Option Addr} {T : List Nat} {po : Option Addr} {pc : Nat} (h : RoSt w wr r c n cap ao T po pc) {U : List Nat} {qo : Option Addr} {qc : Nat} (hU : BitsAt wr qo qc (mxL U)) (hl : U.length = n) :
    RoSt w (((wr.setCell ⟨w.heap.size + 1 + 1, 0, none⟩ (.int .i64 r)).setCell ⟨w.heap.size + 1 + 1, 1, none⟩ (.int .i64 c)).setCell ⟨w.heap.size + 1 + 1, 2, none⟩ (.slice qo n qc)) r c n cap ao U qo qc := by
  obtain ⟨h1, h2, h3, h4, h5, h6⟩ := h
  have n0 : w.heap.size ≠ w.heap.size + 1 + 1 := by omega
  have n1 : w.heap.size + 1 ≠ w.heap.size + 1 + 1 := by omega
  exact ⟨((h1.other (p := ⟨w.heap.size + 1 + 1, 0, none⟩) n0 _).other (p := ⟨w.heap.size + 1 + 1, 1, none⟩) n0 _).other (p := ⟨w.heap.size + 1 + 1, 2, none⟩) n0 _, ((h2.other (p := ⟨w.heap.size + 1 + 1, 0, none⟩) n1 _).other (p := ⟨w.heap.size + 1 + 1, 1, none⟩) n1 _).other (p := ⟨w.heap.size + 1 + 1, 2, none⟩) n1 _, h3.put _ _ _, hU.putM h3 _ _ _, hl, below_putM h6 (by omega) _ _ _⟩
theorem RoSt.start (w : World) (r c n cap : Nat) (ao : Option Addr) (T : List Nat) (hT : BitsAt w ao cap (mxL T)) (hl : T.length = n) : RoSt w (((w.alloc (.cells #[.int .i64 r, .int .i64 c, .slice ao n cap] 35)).alloc (.cells #[.int .i64 0, .int .i64 0, .slice none 0 0] 35)).alloc (.cells #[.int .i64 r, .int .i64 c, .slice ao n cap] 35)) r c n cap ao T ao cap := by
  have b0 := below_alloc9 w (.cells #[.int .i64 r, .int .i64 c, .slice ao n cap] 35)
  have s0 := size_alloc9 w (.cells #[.int .i64 r, .int .i64 c, .slice ao n cap] 35)
  have x0 := BoxM.new w (.int .i64 r) (.int .i64 c) (.slice ao n cap)
  have t0 := hT.below b0
  generalize w.alloc (.cells #[.int .i64 r, .int .i64 c, .slice ao n cap] 35) = w0 at *
  have b1 := below_alloc9 w0 (.cells #[.int .i64 0, .int .i64 0, .slice none 0 0] 35)
  have s1 := size_alloc9 w0 (.cells #[.int .i64 0, .int .i64 0, .slice none 0 0] 35)
  have x1 := BoxM.new w0 (.int .i64 0) (.int .i64 0) (.slice none 0 0)
  generalize w0.alloc (.cells #[.int .i64 0, .int .i64 0, .slice none 0 0] 35) = w1 at *
  have b2 := below_alloc9 w1 (.cells #[.int .i64 r, .int .i64 c, .slice ao n cap] 35)
  have x2 := BoxM.new w1 (.int .i64 r) (.int .i64 c) (.slice ao n cap)
  rw [s0] at x1 s1
  rw [s1] at x2
  have b01 := b0.trans (b1.mono b0.size)
  exact ⟨(x0.all b1).all b2, x1.all b2, x2, (t0.below b1).below b2, hl, b01.trans (b2.mono b01.size)⟩

end Go.Proofs.YtceofkjefmilfaaGreatDoor

/- Package certify: is a number at most another one times a power of two, and 2^-4000 more? -/
namespace Go.Proofs.YtceofkjefmilfaaGreatDoor
open Go.RowKit
attribute [local go_sem ↓] Go.wp_at_zero Go.wp_at_succ
/-- What holds in atMost: the numbers' boxes. -/
def AmSt (w wr : World) (na nb : Bool) (ao bo : Option Addr) (ka kb ca cb : Nat) (x y : Int) : Prop :=
  Box3 wr w.heap.size (.bool na) (.slice ao ka ca) (.int .i64 x) ∧ Box3 wr (w.heap.size + 1) (.bool nb) (.slice bo kb cb) (.int .i64 y) ∧ Below w.heap.size w wr
theorem AmSt.all {w wr w' : World} {na nb : Bool} {ao bo : Option Addr} {ka kb ca cb : Nat} {x y : Int} (h : AmSt w wr na nb ao bo ka kb ca cb x y) (hb : Below wr.heap.size wr w') : AmSt w w' na nb ao bo ka kb ca cb x y := ⟨h.1.all hb, h.2.1.all hb, h.2.2.trans (hb.mono h.2.2.size)⟩
theorem AmSt.start (w : World) (na nb : Bool) (ao bo : Option Addr) (ka kb ca cb : Nat) (x y : Int) : AmSt w ((w.alloc (.cells #[.bool na, .slice ao ka ca, .int .i64 x] 52)).alloc (.cells #[.bool nb, .slice bo kb cb, .int .i64 y] 52)) na nb ao bo ka kb ca cb x y := by
  have b0 := below_alloc9 w (.cells #[.bool na, .slice ao ka ca, .int .i64 x] 52)
  have s0 := size_alloc9 w (.cells #[.bool na, .slice ao ka ca, .int .i64 x] 52)
  have x0 := Box3.new w (.bool na) (.slice ao ka ca) (.int .i64 x)
  generalize w.alloc (.cells #[.bool na, .slice ao ka ca, .int .i64 x] 52) = w0 at *
  have b1 := below_alloc9 w0 (.cells #[.bool nb, .slice bo kb cb, .int .i64 y] 52)
  have k1 := Box3.new w0 (.bool nb) (.slice bo kb cb) (.int .i64 y)
  rw [s0] at k1
  exact ⟨x0.all b1, k1, b0.trans (b1.mono b0.size)⟩

/-- In the loop: the boxes, the number 1's. -/
def AlSt (w wr : World) (g : Nat) (na nb : Bool) (ao bo : Option Addr) (ka kb ca cb : Nat) (x y : Int) : Prop :=
  AmSt w wr na nb ao bo ka kb ca cb x y ∧ LimbsAt wr (some ⟨g, 0, none⟩) 1 [1] ∧ Box2 wr (g + 1) (.bool false) (.slice (some ⟨g, 0, none⟩) 1 1)
theorem AlSt.all {w wr w' : World} {g : Nat} {na nb : Bool} {ao bo : Option Addr} {ka kb ca cb : Nat} {x y : Int} (h : AlSt w wr g na nb ao bo ka kb ca cb x y) (hb : Below wr.heap.size wr w') : AlSt w w' g na nb ao bo ka kb ca cb x y := ⟨h.1.all hb, h.2.1.below hb, h.2.2.below hb h.2.2.lt⟩
theorem AlSt.start {w wc : World} {na nb : Bool} {ao bo : Option Addr} {ka kb ca cb : Nat} {x y : Int} (h : AmSt w wc na nb ao bo ka kb ca cb x y) :
    AlSt w ((wc.alloc (.cells #[.int .u32 1] 81)).alloc (.cells #[.bool false, .slice (some ⟨wc.heap.size, 0, none⟩) 1 1] 50)) wc.heap.size na nb ao bo ka kb ca cb x y := by
  have b0 := below_alloc9 wc (.cells #[.int .u32 1] 81)
  have s0 := size_alloc9 wc (.cells #[.int .u32 1] 81)
  have h0 := heap_alloc_new wc (.cells #[.int .u32 1] 81)
  generalize wc.alloc (.cells #[.int .u32 1] 81) = w0 at *
  have b1 := below_alloc9 w0 (.cells #[.bool false, .slice (some ⟨wc.heap.size, 0, none⟩) 1 1] 50)
  have k1 := Box2.new w0 (.bool false) (.slice (some ⟨wc.heap.size, 0, none⟩) 1 1)
  rw [s0] at k1
  have hl : LimbsAt w0 (some ⟨wc.heap.size, 0, none⟩) 1 [1] := ⟨by decide, by simp, .inr ⟨wc.heap.size, 0, rfl, by omega, fun i hi => by
    obtain rfl : i = 0 := by simpa using hi
    rw [cell_of_row w0 wc.heap.size _ _ _ _ h0]; rfl⟩⟩
  exact ⟨(h.all b0).all b1, hl.below b1, k1⟩

end Go.Proofs.YtceofkjefmilfaaGreatDoor

