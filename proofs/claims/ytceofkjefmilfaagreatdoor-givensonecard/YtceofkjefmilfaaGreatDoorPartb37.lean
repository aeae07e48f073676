/- Part 37 of the texts. -/
import Derived.Test.YtceofkjefmilfaaGreatDoorPartb31
import Derived.Test.YtceofkjefmilfaaGreatDoorPartb36
import Derived.Test.YtceofkjefmilfaaGreatDoorPartb27
import Derived.Deep.RegionWith
import Derived.Test.YtceofkjefmilfaaGreatDoorPartb08
import Derived.Test.YtceofkjefmilfaaGreatDoorPartb35
import Derived.Test.YtceofkjefmilfaaGreatDoorPartb29
import Derived.Deep.CutRange
/- Package plain: operations without their flags; package givens: turnOf, Turn. -/
namespace Go.Proofs.YtceofkjefmilfaaGreatDoor
open Go.RowKit
attribute [local go_sem ↓] Go.wp_at_zero Go.wp_at_succ

/-- Two numbers laid in a row. -/
theorem two_bits12 (w : World) (a b : Nat) (ha : a < 18446744073709551616) (hb : b < 18446744073709551616) : BitsAt (w.alloc (.cells #[.int .u64 (a : Nat), .int .u64 (b : Nat)] 23)) (some ⟨w.heap.size, 0, none⟩) 2 [(a : Int), (b : Int)] := by
  have h : RowB (w.alloc (.cells #[.int .u64 (a : Nat), .int .u64 (b : Nat)] 23)) w.heap.size [a, b] := heap_alloc_new w _
  exact h.bits (fun x hx => by simp at hx; rcases hx with rfl | rfl; exact ha; exact hb)

set_option maxRecDepth 20000 in
set_option maxHeartbeats 4000000 in
theorem turnOf_of (f g m a b p q t n c s r : Nat) (k : Int) (w : World) (hf : f < 18446744073709551616) (hg : g < 18446744073709551616) (hk : -5000 ≤ k ∧ k ≤ 5000)
    (C1 : ∀ w' ao, Below w.heap.size w w' → BitsAt w' ao 2 [(f : Int), (g : Int)] → Calls Tryz.prog 73 #[.slice ao 2 2] w' fun e w'' => e = .returned (.int .u64 (m : Nat)) ∧ Below w'.heap.size w' w'')
    (C2 : ∀ w', Below w.heap.size w w' → Calls Tryz.prog 72 #[.int .u64 m] w' fun e w'' => e = .returned (.int .i64 k) ∧ Below w'.heap.size w' w'')
    (D1 : ∀ w', Below w.heap.size w w' → Calls Tryz.prog 74 #[.int .u64 f, .int .i64 (-k)] w' fun e w'' => e = .returned (.int .u64 (a : Nat)) ∧ Below w'.heap.size w' w'')
    (D2 : ∀ w', Below w.heap.size w w' → Calls Tryz.prog 74 #[.int .u64 g, .int .i64 (-k)] w' fun e w'' => e = .returned (.int .u64 (b : Nat)) ∧ Below w'.heap.size w' w'')
    (D3 : ∀ w', Below w.heap.size w w' → Calls Tryz.prog 77 #[.int .u64 a, .int .u64 a] w' fun e w'' => e = .returned (.int .u64 (p : Nat)) ∧ Below w'.heap.size w' w'')
    (D4 : ∀ w', Below w.heap.size w w' → Calls Tryz.prog 77 #[.int .u64 b, .int .u64 b] w' fun e w'' => e = .returned (.int .u64 (q : Nat)) ∧ Below w'.heap.size w' w'')
    (D5 : ∀ w', Below w.heap.size w w' → Calls Tryz.prog 76 #[.int .u64 p, .int .u64 q] w' fun e w'' => e = .returned (.int .u64 (t : Nat)) ∧ Below w'.heap.size w' w'')
    (D6 : ∀ w', Below w.heap.size w w' → Calls Tryz.prog 75 #[.int .u64 t] w' fun e w'' => e = .returned (.int .u64 (n : Nat)) ∧ Below w'.heap.size w' w'')
    (D7 : ∀ w', Below w.heap.size w w' → Calls Tryz.prog 78 #[.int .u64 a, .int .u64 n] w' fun e w'' => e = .returned (.int .u64 (c : Nat)) ∧ Below w'.heap.size w' w'')
    (D8 : ∀ w', Below w.heap.size w w' → Calls Tryz.prog 78 #[.int .u64 b, .int .u64 n] w' fun e w'' => e = .returned (.int .u64 (s : Nat)) ∧ Below w'.heap.size w' w'')
    (D9 : ∀ w', Below w.heap.size w w' → Calls Tryz.prog 74 #[.int .u64 n, .int .i64 k] w' fun e w'' => e = .returned (.int .u64 (r : Nat)) ∧ Below w'.heap.size w' w'') :
    Calls Tryz.prog 36 #[.int .u64 f, .int .u64 g] w fun e w' => e = .returned (.tuple #[.int .u64 (c : Nat), .int .u64 (s : Nat), .int .u64 (r : Nat)]) ∧ Below w.heap.size w w' := by
  have K1 := hide C1; have K2 := hide C2
  have L1 := hide D1; have L2 := hide D2; have L3 := hide D3; have L4 := hide D4; have L5 := hide D5; have L6 := hide D6; have L7 := hide D7; have L8 := hide D8; have L9 := hide D9
  have TB := hide (two_bits12 w f g hf hg)
  have BB := hide (below_alloc9 w (.cells #[.int .u64 (f : Nat), .int .u64 (g : Nat)] 23))
  have hk1 : IntKind.i64.wrap (-k) = -k := wrap_in _ (by omega)
  clear C1 C2 D1 D2 D3 D4 D5 D6 D7 D8 D9 hf hg
  go_enter Tryz.func36, Tryz.ntmps36
  go_wp2_with fail
  refine (unhide K1 _ _ (unhide BB) (unhide TB)).mono ?_
  rintro e w1 ⟨rfl, hb⟩
  replace BB := hide ((unhide BB).trans (hb.mono (unhide BB).size))
  clear hb K1 TB
  go_wp2_with fail
  refine (unhide K2 _ (unhide BB)).mono ?_
  rintro e w1 ⟨rfl, hb⟩
  replace BB := hide ((unhide BB).trans (hb.mono (unhide BB).size))
  clear hb K2
  go_wp2_with fail
  refine (unhide L1 _ (unhide BB)).mono ?_
  rintro e w1 ⟨rfl, hb⟩
  replace BB := hide ((unhide BB).trans (hb.mono (unhide BB).size))
  clear hb L1
  go_wp2_with fail
  refine (unhide L2 _ (unhide BB)).mono ?_
  rintro e w1 ⟨rfl, hb⟩
  replace BB := hide ((unhide BB).trans (hb.mono (unhide BB).size))
  clear hb L2
  go_wp2_with fail
  refine (unhide L3 _ (unhide BB)).mono ?_
  rintro e w1 ⟨rfl, hb⟩
  replace BB := hide ((unhide BB).trans (hb.mono (unhide BB).size))
  clear hb L3
  go_wp2_with fail
  refine (unhide L4 _ (unhide BB)).mono ?_
  rintro e w1 ⟨rfl, hb⟩
  replace BB := hide ((unhide BB).trans (hb.mono (unhide BB).size))
  clear hb L4
  go_wp2_with fail
  refine (unhide L5 _ (unhide BB)).mono ?_
  rintro e w1 ⟨rfl, hb⟩
  replace BB := hide ((unhide BB).trans (hb.mono (unhide BB).size))
  clear hb L5
  go_wp2_with fail
  refine (unhide L6 _ (unhide BB)).mono ?_
  rintro e w1 ⟨rfl, hb⟩
  replace BB := hide ((unhide BB).trans (hb.mono (unhide BB).size))
  clear hb L6
  go_wp2_with fail
  refine (unhide L7 _ (unhide BB)).mono ?_
  rintro e w1 ⟨rfl, hb⟩
  replace BB := hide ((unhide BB).trans (hb.mono (unhide BB).size))
  clear hb L7
  go_wp2_with fail
  refine (unhide L8 _ (unhide BB)).mono ?_
  rintro e w1 ⟨rfl, hb⟩
  replace BB := hide ((unhide BB).trans (hb.mono (unhide BB).size))
  clear hb L8
  go_wp2_with fail
  refine (unhide L9 _ (unhide BB)).mono ?_
  rintro e w1 ⟨rfl, hb⟩
  replace BB := hide ((unhide BB).trans (hb.mono (unhide BB).size))
  clear hb L9
  go_wp2
  exact bodyPost_ret (v := .tuple #[.int .u64 (c : Nat), .int .u64 (s : Nat), .int .u64 (r : Nat)]) (by simp [results, Tryz.results36, go_sem]) rfl ⟨rfl, unhide BB⟩

theorem bg_two (f g : Nat) : bgK [(f : Int), (g : Int)] 2 = mx (mx 0 (fR f)) (fR g) := rfl
theorem fn_two (f g : Nat) : fnK [(f : Int), (g : Int)] 2 = (fFin f && fFin g) := by
  show ((true && fFin f) && fFin g) = _
  rw [Bool.true_and]

/-- turnOf, of finite numbers that are no noughts. -/
theorem turnOf_any (f g : Nat) (w : World) (hf : f < 18446744073709551616) (hg : g < 18446744073709551616) (ff : fFin f = true) (fg : fFin g = true) (f0 : ¬ fK f = 0) (g0 : ¬ fK g = 0) (hT : Tab w) :
    Calls Tryz.prog 36 #[.int .u64 f, .int .u64 g] w fun e w' => e = .returned (.tuple #[.int .u64 (gvC f g : Nat), .int .u64 (gvS f g : Nat), .int .u64 (gvR f g : Nat)]) ∧ Below w.heap.size w w' := by
  have h1 := fR_lt f; have h2 := fR_lt g
  have r1 := fR_fin f ff; have r2 := fR_fin g fg
  have hk := gvK_range f g
  have em : mx (mx 0 (fR f)) (fR g) = max (fR f) (fR g) := by
    rw [mx_mag 0 (fR f) (by omega) r1, show max 0 (fR f) = fR f by omega, mx_mag (fR f) (fR g) r1 r2]
  have la := xV_lt f (-gvK f g) hf
  have lb := xV_lt g (-gvK f g) hg
  have lt := aV_lt (mV (xV f (-gvK f g)) (xV f (-gvK f g))) (mV (xV g (-gvK f g)) (xV g (-gvK f g))) (mV_lt _ _) (mV_lt _ _)
  have ln : gvN f g < 18446744073709551616 := sV_lt _ lt
  have e1 : gvC f g = dV (xV f (-gvK f g)) (gvN f g) := by unfold gvC; rw [if_neg g0, if_neg f0]
  have e2 : gvS f g = dV (xV g (-gvK f g)) (gvN f g) := by unfold gvS; rw [if_neg g0, if_neg f0]
  have e3 : gvR f g = xV (gvN f g) (gvK f g) := by unfold gvR; rw [if_neg g0, if_neg f0]
  rw [e1, e2, e3]
  refine turnOf_of f g (max (fR f) (fR g)) (xV f (-gvK f g)) (xV g (-gvK f g)) (mV (xV f (-gvK f g)) (xV f (-gvK f g))) (mV (xV g (-gvK f g)) (xV g (-gvK f g))) (aV (mV (xV f (-gvK f g)) (xV f (-gvK f g))) (mV (xV g (-gvK f g)) (xV g (-gvK f g)))) (gvN f g) _ _ _ (gvK f g) w hf hg (by omega)
    (fun w' ao hb hI => ?_) (fun w' hb => ?_) (fun w' hb => vscale_any f _ w' hf (hT.all hb)) (fun w' hb => vscale_any g _ w' hg (hT.all hb)) (fun w' hb => vmul_any _ _ w' la la (hT.all hb)) (fun w' hb => vmul_any _ _ w' lb lb (hT.all hb)) (fun w' hb => vadd_any _ _ w' (mV_lt _ _) (mV_lt _ _) (hT.all hb)) (fun w' hb => psqrt_any _ w' lt (hT.all hb)) (fun w' hb => pdiv_any _ _ w' la ln (hT.all hb)) (fun w' hb => pdiv_any _ _ w' lb ln (hT.all hb)) (fun w' hb => vscale_any _ _ w' ln (hT.all hb))
  · have := vBiggest_any ao 2 _ w' hI (by simp)
    rw [show bgK [(f : Int), (g : Int)] [(f : Int), (g : Int)].length = max (fR f) (fR g) from (bg_two f g).trans em] at this
    exact this
  · exact cexp_any _ w' (by omega) (hT.all hb)

set_option maxRecDepth 20000 in
set_option maxHeartbeats 4000000 in
theorem gturn_of (f g c s r : Nat) (kf kg : Int) (fin : Bool) (er : Int) (w : World) (hf : f < 18446744073709551616) (hg : g < 18446744073709551616)
    (h : (fin = false ∧ c = 0 ∧ s = 0 ∧ r = 0 ∧ er = 4) ∨ (fin = true ∧ kg = 0 ∧ c = 4607182418800017408 ∧ s = 0 ∧ r = f ∧ er = 0) ∨ (fin = true ∧ ¬ kg = 0 ∧ kf = 0 ∧ c = 0 ∧ s = 4607182418800017408 ∧ r = g ∧ er = 0) ∨ (fin = true ∧ ¬ kg = 0 ∧ ¬ kf = 0 ∧ er = 0))
    (C1 : ∀ w' ao, Below w.heap.size w w' → BitsAt w' ao 2 [(f : Int), (g : Int)] → Calls Tryz.prog 34 #[.slice ao 2 2] w' fun e w'' => e = .returned (.bool fin) ∧ Below w'.heap.size w' w'')
    (C2 : ∀ w', Calls Tryz.prog 35 #[.int .u64 g] w' fun e w'' => e = .returned (.int .i64 kg) ∧ Below w'.heap.size w' w'')
    (C3 : ∀ w', Calls Tryz.prog 35 #[.int .u64 f] w' fun e w'' => e = .returned (.int .i64 kf) ∧ Below w'.heap.size w' w'')
    (C4 : fin = true → ¬ kg = 0 → ¬ kf = 0 → ∀ w', Below w.heap.size w w' → Calls Tryz.prog 36 #[.int .u64 f, .int .u64 g] w' fun e w'' => e = .returned (.tuple #[.int .u64 (c : Nat), .int .u64 (s : Nat), .int .u64 (r : Nat)]) ∧ Below w'.heap.size w' w'') :
    Calls Tryz.prog 8 #[.int .u64 f, .int .u64 g] w fun e w' => e = .returned (.tuple #[.int .u64 (c : Nat), .int .u64 (s : Nat), .int .u64 (r : Nat), .int .i64 er]) ∧ Below w.heap.size w w' := by
  have K1 := hide C1; have K2 := hide C2; have K3 := hide C3; have K4 := hide C4
  have TB := hide (two_bits12 w f g hf hg)
  have BB := hide (below_alloc9 w (.cells #[.int .u64 (f : Nat), .int .u64 (g : Nat)] 23))
  clear C1 C2 C3 C4 hf hg
  rcases h with ⟨rfl, rfl, rfl, rfl, rfl⟩ | ⟨rfl, rfl, rfl, rfl, rfl, rfl⟩ | ⟨rfl, h1, rfl, rfl, rfl, rfl, rfl⟩ | ⟨rfl, h1, h2, rfl⟩
  · go_enter Tryz.func8, Tryz.ntmps8
    go_wp2_with fail
    refine (unhide K1 _ _ (unhide BB) (unhide TB)).mono ?_
    rintro e w1 ⟨rfl, hb⟩
    replace BB := hide ((unhide BB).trans (hb.mono (unhide BB).size))
    clear hb K1 TB
    go_wp2
    exact bodyPost_ret (v := .tuple #[.int .u64 (0 : Nat), .int .u64 (0 : Nat), .int .u64 (0 : Nat), .int .i64 4]) (by simp [results, Tryz.results8, go_sem]) rfl ⟨rfl, unhide BB⟩
  · go_enter Tryz.func8, Tryz.ntmps8
    go_wp2_with fail
    refine (unhide K1 _ _ (unhide BB) (unhide TB)).mono ?_
    rintro e w1 ⟨rfl, hb⟩
    replace BB := hide ((unhide BB).trans (hb.mono (unhide BB).size))
    clear hb K1 TB
    go_wp2_with fail
    refine (unhide K2 _).mono ?_
    rintro e w1 ⟨rfl, hb⟩
    replace BB := hide ((unhide BB).trans (hb.mono (unhide BB).size))
    clear hb
    go_wp2
    exact bodyPost_ret (v := .tuple #[.int .u64 (4607182418800017408 : Nat), .int .u64 (0 : Nat), .int .u64 (r : Nat), .int .i64 0]) (by simp [results, Tryz.results8, go_sem]) rfl ⟨rfl, unhide BB⟩
  · go_enter Tryz.func8, Tryz.ntmps8
    go_wp2_with fail
    refine (unhide K1 _ _ (unhide BB) (unhide TB)).mono ?_
    rintro e w1 ⟨rfl, hb⟩
    replace BB := hide ((unhide BB).trans (hb.mono (unhide BB).size))
    clear hb K1 TB
    go_wp2_with fail
    refine (unhide K2 _).mono ?_
    rintro e w1 ⟨rfl, hb⟩
    replace BB := hide ((unhide BB).trans (hb.mono (unhide BB).size))
    clear hb
    go_wp2_with fail
    refine (unhide K3 _).mono ?_
    rintro e w1 ⟨rfl, hb⟩
    replace BB := hide ((unhide BB).trans (hb.mono (unhide BB).size))
    clear hb
    go_wp2
    exact bodyPost_ret (v := .tuple #[.int .u64 (0 : Nat), .int .u64 (4607182418800017408 : Nat), .int .u64 (r : Nat), .int .i64 0]) (by simp [results, Tryz.results8, go_sem]) rfl ⟨rfl, unhide BB⟩
  · have L4 := hide (unhide K4 rfl h1 h2)
    go_enter Tryz.func8, Tryz.ntmps8
    go_wp2_with fail
    refine (unhide K1 _ _ (unhide BB) (unhide TB)).mono ?_
    rintro e w1 ⟨rfl, hb⟩
    replace BB := hide ((unhide BB).trans (hb.mono (unhide BB).size))
    clear hb K1 TB
    go_wp2_with fail
    refine (unhide K2 _).mono ?_
    rintro e w1 ⟨rfl, hb⟩
    replace BB := hide ((unhide BB).trans (hb.mono (unhide BB).size))
    clear hb
    go_wp2_with fail
    refine (unhide K3 _).mono ?_
    rintro e w1 ⟨rfl, hb⟩
    replace BB := hide ((unhide BB).trans (hb.mono (unhide BB).size))
    clear hb
    go_wp2_with fail
    refine (unhide L4 _ (unhide BB)).mono ?_
    rintro e w1 ⟨rfl, hb⟩
    replace BB := hide ((unhide BB).trans (hb.mono (unhide BB).size))
    clear hb
    go_wp2
    exact bodyPost_ret (v := .tuple #[.int .u64 (c : Nat), .int .u64 (s : Nat), .int .u64 (r : Nat), .int .i64 0]) (by simp [results, Tryz.results8, go_sem]) rfl ⟨rfl, unhide BB⟩

theorem gturn_ok (f g : Nat) (w : World) (hf : f < 18446744073709551616) (hg : g < 18446744073709551616) (ff : fFin f = true) (fg : fFin g = true) (hT : Tab w) :
    Calls Tryz.prog 8 #[.int .u64 f, .int .u64 g] w fun e w' => e = .returned (.tuple #[.int .u64 (gvC f g : Nat), .int .u64 (gvS f g : Nat), .int .u64 (gvR f g : Nat), .int .i64 0]) ∧ Below w.heap.size w w' := by
  refine gturn_of f g _ _ _ (fK f) (fK g) true 0 w hf hg ?_ (fun w' ao hb hI => ?_) (fun w' => kind_any g w' hg) (fun w' => kind_any f w' hf) (fun _ g0 f0 w' hb => turnOf_any f g w' hf hg ff fg (by omega) (by omega) (hT.all hb))
  · unfold gvC gvS gvR
    by_cases g0 : fK g = 0
    · exact .inr (.inl ⟨rfl, g0, if_pos g0, if_pos g0, if_pos g0, rfl⟩)
    · rw [if_neg g0, if_neg g0, if_neg g0]
      by_cases f0 : fK f = 0
      · exact .inr (.inr (.inl ⟨rfl, by omega, f0, if_pos f0, if_pos f0, if_pos f0, rfl⟩))
      · exact .inr (.inr (.inr ⟨rfl, by omega, by omega, rfl⟩))
  · have := vFinite_any ao 2 _ w' hI (by simp)
    rw [show fnK [(f : Int), (g : Int)] [(f : Int), (g : Int)].length = true from (fn_two f g).trans (by rw [ff, fg]; rfl)] at this
    exact this

end Go.Proofs.YtceofkjefmilfaaGreatDoor

/- The reference of layer 12: Rows, Cols. -/
namespace Go.Proofs.YtceofkjefmilfaaGreatDoor
open Go.RowKit
attribute [local go_sem ↓] Go.wp_at_zero Go.wp_at_succ
/-- What holds in the reference's Rows: the matrix's box, the result's, the variable's. -/
def RoSt (w wr : World) (r c n cap : Nat) (ao : Option Addr) (T : List Nat) (po : Option Addr) (pc : Nat) : Prop :=
  BoxM wr w.heap.size (.int .i64 r) (.int .i64 c) (.slice ao n cap) ∧ BoxM wr (w.heap.size + 1) (.int .i64 0) (.int .i64 0) (.slice none 0 0) ∧ BoxM wr (w.heap.size + 1 + 1) (.int .i64 r) (.int .i64 c) (.slice po n pc) ∧ BitsAt wr po pc (mxL T) ∧ T.length = n ∧ Below w.heap.size w wr

theorem RoSt.all {w wr w' : World} {r c n cap : Nat} {ao : Option Addr} {T : List Nat} {po : Option Addr} {pc : Nat} (h : RoSt w wr r c n cap ao T po pc) (hb : Below wr.heap.size wr w') : RoSt w w' r c n cap ao T po pc :=
  ⟨h.1.all hb, h.2.1.all hb, h.2.2.1.all hb, h.2.2.2.1.below hb, h.2.2.2.2.1, h.2.2.2.2.2.trans (hb.mono h.2.2.2.2.2.size)⟩
end Go.Proofs.YtceofkjefmilfaaGreatDoor

/- Package certify: is a number at most another one times a power of two, and 2^-4000 more? -/
namespace Go.Proofs.YtceofkjefmilfaaGreatDoor
open Go.RowKit
attribute [local go_sem ↓] Go.wp_at_zero Go.wp_at_succ
/-- What holds in atMost: the numbers' boxes. -/
def AmSt (w wr : World) (na nb : Bool) (ao bo : Option Addr) (ka kb ca cb : Nat) (x y : Int) : Prop :=
  Box3 wr w.heap.size (.bool na) (.slice ao ka ca) (.int .i64 x) ∧ Box3 wr (w.heap.size + 1) (.bool nb) (.slice bo kb cb) (.int .i64 y) ∧ Below w.heap.size w wr
theorem AmSt.all {w wr w' : World} {na nb : Bool} {ao bo : Option Addr} {ka kb ca cb : Nat} {x y : Int} (h : AmSt w wr na nb ao bo ka kb ca cb x y) (hb : Below wr.heap.size wr w') : AmSt w w' na nb ao bo ka kb ca cb x y := ⟨h.1.all hb, h.2.1.all hb, h.2.2.trans (hb.mono h.2.2.size)⟩
/-- In the loop: the boxes, the number 1's. -/
def AlSt (w wr : World) (g : Nat) (na nb : Bool) (ao bo : Option Addr) (ka kb ca cb : Nat) (x y : Int) : Prop :=
  AmSt w wr na nb ao bo ka kb ca cb x y ∧ LimbsAt wr (some ⟨g, 0, none⟩) 1 [1] ∧ Box2 wr (g + 1) (.bool false) (.slice (some ⟨g, 0, none⟩) 1 1)
theorem AlSt.all {w wr w' : World} {g : Nat} {na nb : Bool} {ao bo : Option Addr} {ka kb ca cb : Nat} {x y : Int} (h : AlSt w wr g na nb ao bo ka kb ca cb x y) (hb : Below wr.heap.size wr w') : AlSt w w' g na nb ao bo ka kb ca cb x y := ⟨h.1.all hb, h.2.1.below hb, h.2.2.below hb h.2.2.lt⟩
end Go.Proofs.YtceofkjefmilfaaGreatDoor

/- The reference of layer 11: Dot. -/
namespace Go.Proofs.YtceofkjefmilfaaGreatDoor
open Go.RowKit
attribute [local go_sem ↓] Go.wp_at_zero Go.wp_at_succ

/-- What holds in a sum's loop: the answer's box, the sum. -/
def DtSt (w wr : World) (lo s : Int) : Prop := Box3 wr w.heap.size (.bool false) (.slice none 0 0) (.int .i64 0) ∧ Kept wr (w.heap.size + 1) lo s ∧ Below w.heap.size w wr
theorem DtSt.all {w wr w' : World} {lo s : Int} (h : DtSt w wr lo s) (hb : Below wr.heap.size wr w') : DtSt w w' lo s := ⟨h.1.all hb, h.2.1.all hb, h.2.2.trans (hb.mono h.2.2.size)⟩
end Go.Proofs.YtceofkjefmilfaaGreatDoor

/- The reference of layer 11: Orthogonal by letters. -/
namespace Go.Proofs.YtceofkjefmilfaaGreatDoor
open Go.RowKit
attribute [local go_sem ↓] Go.wp_at_zero Go.wp_at_succ
/-- One. -/
theorem rof11 (w : World) : Calls Tryz.prog 23 #[.int .i64 1] w fun e w' => ∃ v, e = .returned v ∧ IsNum w.heap.size w' v 1 ∧ Below w.heap.size w w' :=
  (refOf_any 1 w (by decide) (by decide)).mono fun e w' ⟨r, h1, h2, h3⟩ => ⟨r, h1, h2.num (by omega), h3⟩

/-- What holds in the reference's Orthogonal: the matrix's box, the answer's, the sum's. -/
def OrSt (w wr : World) (r c n cap : Nat) (ao : Option Addr) (lo s : Int) : Prop :=
  BoxM wr w.heap.size (.int .i64 r) (.int .i64 c) (.slice ao n cap) ∧ Box3 wr (w.heap.size + 1) (.bool false) (.slice none 0 0) (.int .i64 0) ∧ Kept wr (w.heap.size + 1 + 1) lo s ∧ Below w.heap.size w wr
theorem OrSt.all {w wr w' : World} {r c n cap : Nat} {ao : Option Addr} {lo s : Int} (h : OrSt w wr r c n cap ao lo s) (hb : Below wr.heap.size wr w') : OrSt w w' r c n cap ao lo s :=
  ⟨h.1.all hb, h.2.1.all hb, h.2.2.1.all hb, h.2.2.2.trans (hb.mono h.2.2.2.size)⟩
end Go.Proofs.YtceofkjefmilfaaGreatDoor

