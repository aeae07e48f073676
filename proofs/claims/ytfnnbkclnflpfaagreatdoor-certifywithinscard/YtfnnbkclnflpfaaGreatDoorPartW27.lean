/- Part 27 of the texts. -/
import Derived.Test.YtfnnbkclnflpfaaGreatDoorPartW26
import Derived.Deep.CutRange
/- Package certify: is a number at most another one times a power of two, and 2^-4000 more? -/
namespace Go.Proofs.YtfnnbkclnflpfaaGreatDoor
open Go.RowKit
attribute [local go_sem ↓] Go.wp_at_zero Go.wp_at_succ

theorem amax_run (P : Program) (w : World) (ts : Array TypeId) (t : TypeId) (x y z m : Int) (h : m = max (max x y) z) : (Builtin.max_ ts t #[.int .i64 x, .int .i64 y, .int .i64 z]).run P w = .ok (.int .i64 m) w := by
  rw [run_max_int3]
  congr 2
  split <;> split <;> omega
theorem amin_run (P : Program) (w : World) (ts : Array TypeId) (t : TypeId) (x y z m : Int) (h : m = min (min x y) z) : (Builtin.min_ ts t #[.int .i64 x, .int .i64 y, .int .i64 z]).run P w = .ok (.int .i64 m) w := by
  rw [run_min_int3]
  congr 2
  split <;> split <;> omega

/-- What holds in atMost: the numbers' boxes. -/
def AmSt (w wr : World) (na nb : Bool) (ao bo : Option Addr) (ka kb ca cb : Nat) (x y : Int) : Prop :=
  Box3 wr w.heap.size (.bool na) (.slice ao ka ca) (.int .i64 x) ∧ Box3 wr (w.heap.size + 1) (.bool nb) (.slice bo kb cb) (.int .i64 y) ∧ Below w.heap.size w wr
theorem AmSt.all {w wr w' : World} {na nb : Bool} {ao bo : Option Addr} {ka kb ca cb : Nat} {x y : Int} (h : AmSt w wr na nb ao bo ka kb ca cb x y) (hb : Below wr.heap.size wr w') : AmSt w w' na nb ao bo ka kb ca cb x y := ⟨h.1.all hb, h.2.1.all hb, h.2.2.trans (hb.mono h.2.2.size)⟩
theorem AmSt.start (w : World) (na nb : Bool) (ao bo : Option Addr) (ka kb ca cb : Nat) (x y : Int) : AmSt w ((w.alloc (.cells #[.bool na, .slice ao ka ca, .int .i64 x] 29)).alloc (.cells #[.bool nb, .slice bo kb cb, .int .i64 y] 29)) na nb ao bo ka kb ca cb x y := by
  have b0 := below_alloc9 w (.cells #[.bool na, .slice ao ka ca, .int .i64 x] 29)
  have s0 := size_alloc9 w (.cells #[.bool na, .slice ao ka ca, .int .i64 x] 29)
  have x0 := Box3.new w (.bool na) (.slice ao ka ca) (.int .i64 x)
  generalize w.alloc (.cells #[.bool na, .slice ao ka ca, .int .i64 x] 29) = w0 at *
  have b1 := below_alloc9 w0 (.cells #[.bool nb, .slice bo kb cb, .int .i64 y] 29)
  have k1 := Box3.new w0 (.bool nb) (.slice bo kb cb) (.int .i64 y)
  rw [s0] at k1
  exact ⟨x0.all b1, k1, b0.trans (b1.mono b0.size)⟩

/-- In the loop: the boxes, the number 1's. -/
def AlSt (w wr : World) (g : Nat) (na nb : Bool) (ao bo : Option Addr) (ka kb ca cb : Nat) (x y : Int) : Prop :=
  AmSt w wr na nb ao bo ka kb ca cb x y ∧ LimbsAt wr (some ⟨g, 0, none⟩) 1 [1] ∧ Box2 wr (g + 1) (.bool false) (.slice (some ⟨g, 0, none⟩) 1 1)
theorem AlSt.all {w wr w' : World} {g : Nat} {na nb : Bool} {ao bo : Option Addr} {ka kb ca cb : Nat} {x y : Int} (h : AlSt w wr g na nb ao bo ka kb ca cb x y) (hb : Below wr.heap.size wr w') : AlSt w w' g na nb ao bo ka kb ca cb x y := ⟨h.1.all hb, h.2.1.below hb, h.2.2.below hb h.2.2.lt⟩
theorem AlSt.start {w wc : World} {na nb : Bool} {ao bo : Option Addr} {ka kb ca cb : Nat} {x y : Int} (h : AmSt w wc na nb ao bo ka kb ca cb x y) :
    AlSt w ((wc.alloc (.cells #[.int .u32 1] 70)).alloc (.cells #[.bool false, .slice (some ⟨wc.heap.size, 0, none⟩) 1 1] 27)) wc.heap.size na nb ao bo ka kb ca cb x y := by
  have b0 := below_alloc9 wc (.cells #[.int .u32 1] 70)
  have s0 := size_alloc9 wc (.cells #[.int .u32 1] 70)
  have h0 := heap_alloc_new wc (.cells #[.int .u32 1] 70)
  generalize wc.alloc (.cells #[.int .u32 1] 70) = w0 at *
  have b1 := below_alloc9 w0 (.cells #[.bool false, .slice (some ⟨wc.heap.size, 0, none⟩) 1 1] 27)
  have k1 := Box2.new w0 (.bool false) (.slice (some ⟨wc.heap.size, 0, none⟩) 1 1)
  rw [s0] at k1
  have hl : LimbsAt w0 (some ⟨wc.heap.size, 0, none⟩) 1 [1] := ⟨by decide, by simp, .inr ⟨wc.heap.size, 0, rfl, by omega, fun i hi => by
    obtain rfl : i = 0 := by simpa using hi
    rw [cell_of_row w0 wc.heap.size _ _ _ _ h0]; rfl⟩⟩
  exact ⟨(h.all b0).all b1, hl.below b1, k1⟩

set_option maxRecDepth 20000 in
set_option maxHeartbeats 8000000 in
theorem atMost_of (na nb : Bool) (ao bo : Option Addr) (ka kb ca cb N : Nat) (x y n yn lo tx ty tp : Int) (fa fb fs : Nat → Nat) (lf : Nat → Int) (w : World)
    (hyn : IntKind.i64.wrap (y - n) = yn) (hq : Int.tdiv (tp - lo) 32 + 1 = (N : Int)) (hN : N ≤ 4000) (blo : -20000 ≤ lo ∧ lo ≤ 0) (btp : -20000 ≤ tp ∧ tp ≤ 40000) (bx : -16384 ≤ x ∧ x ≤ 16384) (bY : -16384 ≤ y ∧ y ≤ 16384) (bn : 0 ≤ n ∧ n ≤ 400)
    (hM : ∀ W ts t, (Builtin.min_ ts t #[.int .i64 x, .int .i64 yn, .int .i64 (-4000)]).run Tryz.prog W = .ok (.int .i64 lo) W)
    (hX : ∀ W ts t, (Builtin.max_ ts t #[.int .i64 tx, .int .i64 ty, .int .i64 (-3999)]).run Tryz.prog W = .ok (.int .i64 tp) W)
    (CX : ∀ w', Below w.heap.size w w' → Calls Tryz.prog 100 #[.agg #[.bool na, .slice ao ka ca, .int .i64 x]] w' fun e w'' => e = .returned (.int .i64 tx) ∧ Below w'.heap.size w' w'')
    (CY : ∀ w', Below w.heap.size w w' → Calls Tryz.prog 100 #[.agg #[.bool nb, .slice bo kb cb, .int .i64 y]] w' fun e w'' => e = .returned (.int .i64 ty) ∧ Below w'.heap.size w' w'')
    (CA : ∀ w' (i : Nat), i < N → Below w.heap.size w w' → Calls Tryz.prog 101 #[.agg #[.bool na, .slice ao ka ca], .int .i64 (lo + 32 * (i : Int) - x)] w' fun e w'' => e = .returned (.int .i64 (fa i : Nat)) ∧ Below w'.heap.size w' w'')
    (CB : ∀ w' (i : Nat), i < N → Below w.heap.size w w' → Calls Tryz.prog 101 #[.agg #[.bool nb, .slice bo kb cb], .int .i64 (lo + 32 * (i : Int) - y + n)] w' fun e w'' => e = .returned (.int .i64 (fb i : Nat)) ∧ Below w'.heap.size w' w'')
    (CS : ∀ w' (i g : Nat), i < N → LimbsAt w' (some ⟨g, 0, none⟩) 1 [1] → Calls Tryz.prog 101 #[.agg #[.bool false, .slice (some ⟨g, 0, none⟩) 1 1], .int .i64 (lo + 32 * (i : Int) + 4000)] w' fun e w'' => e = .returned (.int .i64 (fs i : Nat)) ∧ Below w'.heap.size w' w'')
    (ba : ∀ i, fa i < 4294967296) (bb : ∀ i, fb i < 4294967296) (bs : ∀ i, fs i < 4294967296) (l0 : lf 0 = 0) (hl : ∀ i, -1 ≤ lf i ∧ lf i ≤ 1) (ls : ∀ i, lf (i + 1) = (lf i + ((fb i : Int) + (fs i : Int) - (fa i : Int))) / 4294967296) :
    Calls Tryz.prog 58 #[.agg #[.bool na, .slice ao ka ca, .int .i64 x], .agg #[.bool nb, .slice bo kb cb, .int .i64 y], .int .i64 n] w fun e w' => e = .returned (.bool (decide (0 ≤ lf N))) ∧ Below w.heap.size w w' := by
  have ST := hide (AmSt.start w na nb ao bo ka kb ca cb x y)
  have K1 := hide CX; have K2 := hide CY; have KA := hide CA; have KB := hide CB; have KS := hide CS
  have LA := hide ba; have LB := hide bb; have LS := hide bs; have L0 := hide l0; have HL := hide hl; have LT := hide ls
  clear CX CY CA CB CS ba bb bs l0 hl ls
  have x2 := (unhide ST).1.c2; have y2 := (unhide ST).2.1.c2
  go_enter Tryz.func58, Tryz.ntmps58
  go_wp2_with fail
  refine at_world (fun W => AmSt w W na nb ao bo ka kb ca cb x y) (unhide ST) ?_
  clear ST x2 y2
  rintro W0 hS
  go_cut [8] from 20 to 24 (fun p wx => p = .int .i64 tp ∧ Hid (AmSt w wx na nb ao bo ka kb ca cb x y))
  case first =>
    have SS := hide (hS.all ((Below.refl W0.heap.size W0).drew))
    have x0 := (unhide SS).1.c0; have x1 := (unhide SS).1.c1; have x2 := (unhide SS).1.c2; have y0 := (unhide SS).2.1.c0; have y1 := (unhide SS).2.1.c1; have y2 := (unhide SS).2.1.c2
    clear hS
    go_region_with (first
      | (go_at_call_of 100 (Value.agg #[.bool na, .slice ao ka ca, .int .i64 x]); refine (unhide K1 _ (unhide SS).2.2).mono ?_; rintro e wn ⟨rfl, hb1⟩; clear x0 x1 x2 y0 y1 y2; replace SS := hide ((unhide SS).all hb1); have x0 := (unhide SS).1.c0; have x1 := (unhide SS).1.c1; have x2 := (unhide SS).1.c2; have y0 := (unhide SS).2.1.c0; have y1 := (unhide SS).2.1.c1; have y2 := (unhide SS).2.1.c2; clear hb1)
      | (go_at_call_of 100 (Value.agg #[.bool nb, .slice bo kb cb, .int .i64 y]); refine (unhide K2 _ (unhide SS).2.2).mono ?_; rintro e wn ⟨rfl, hb1⟩; clear x0 x1 x2 y0 y1 y2; replace SS := hide ((unhide SS).all hb1); have x0 := (unhide SS).1.c0; have x1 := (unhide SS).1.c1; have x2 := (unhide SS).1.c2; have y0 := (unhide SS).2.1.c0; have y1 := (unhide SS).2.1.c1; have y2 := (unhide SS).2.1.c2; clear hb1)
      | fail "NO ARM")
    all_goals
      go_wp2_with fail
      go_meet
      case rel => exact ⟨rfl, SS⟩
  case rest =>
    obtain ⟨rfl, hc⟩ := hcut
    clear hS W0
    have ST := hide (AlSt.start (unhide hc))
    clear hc K1 K2 hX hM
    go_wp2_with fail
    generalize wc.heap.size = g at *
    go_loopw [10, 32] (fun l i wr => ∃ k : Nat, k ≤ N ∧ i = .int .i64 k ∧ l = .int .i64 (lf k) ∧ Hid (AlSt w wr g na nb ao bo ka kb ca cb x y)) (fun _ i _ => N - (intOf i).toNat)
    case atStart => exact ⟨0, Nat.zero_le _, rfl, by rw [unhide L0], ST⟩
    case round =>
      clear ST
      obtain ⟨k, hk, rfl, rfl, hS⟩ := hrel
      by_cases hlt : k < N
      · have hkI : (k : Int) < (N : Int) := by omega
        obtain ⟨pl, hpl⟩ : ∃ pl : Int, lo + (k : Int) * 32 = pl := ⟨_, rfl⟩
        have W1 := hide (fun w' => unhide KA w' k hlt)
        have W2 := hide (fun w' => unhide KB w' k hlt)
        have W3 := hide (fun w' => unhide KS w' k g hlt)
        have hpl2 : lo + 32 * (k : Int) = pl := by omega
        rw [hpl2] at W1 W2 W3
        obtain ⟨pa, hpa⟩ : ∃ pa : Int, pl - x = pa := ⟨_, rfl⟩
        obtain ⟨pb, hpb⟩ : ∃ pb : Int, pl - y + n = pb := ⟨_, rfl⟩
        obtain ⟨ps, hps⟩ : ∃ ps : Int, pl + 4000 = ps := ⟨_, rfl⟩
        obtain ⟨p1, hp1⟩ : ∃ p1 : Int, pl - y = p1 := ⟨_, rfl⟩
        rw [hpa] at W1; rw [hpb] at W2; rw [hps] at W3
        have e1 : IntKind.i64.wrap (pl - y) = p1 := by rw [← hp1]; exact wrap_in _ (by omega)
        have e2 : IntKind.i64.wrap (p1 + n) = pb := by rw [← hpb, ← hp1]; exact wrap_in _ (by omega)
        have e3 : IntKind.i64.wrap (pl + 4000) = ps := by rw [← hps]; exact wrap_in _ (by omega)
        have e4 : IntKind.i64.wrap (pl - x) = pa := by rw [← hpa]; exact wrap_in _ (by omega)
        clear hpa hpb hps hp1 hpl2
        go_wp2_with fail
        refine at_world (fun W => AlSt w W g na nb ao bo ka kb ca cb x y) (unhide hS) ?_
        clear hS
        rintro W0 hS
        have HK := hide (show ∀ w', Below W0.heap.size W0 w' → Below W0.heap.size W0 w' ∧ w'.cell? ⟨w.heap.size, 0, none⟩ = some (.bool na) ∧ w'.cell? ⟨w.heap.size, 1, none⟩ = some (.slice ao ka ca) ∧ w'.cell? ⟨w.heap.size, 2, none⟩ = some (.int .i64 x) ∧ w'.cell? ⟨w.heap.size + 1, 0, none⟩ = some (.bool nb) ∧ w'.cell? ⟨w.heap.size + 1, 1, none⟩ = some (.slice bo kb cb) ∧ w'.cell? ⟨w.heap.size + 1, 2, none⟩ = some (.int .i64 y) ∧ w'.cell? ⟨g + 1, 0, none⟩ = some (.bool false) ∧ w'.cell? ⟨g + 1, 1, none⟩ = some (.slice (some ⟨g, 0, none⟩) 1 1) from fun w' h => ⟨h, (hS.all h).1.1.c0, (hS.all h).1.1.c1, (hS.all h).1.1.c2, (hS.all h).1.2.1.c0, (hS.all h).1.2.1.c1, (hS.all h).1.2.1.c2, (hS.all h).2.2.c0, (hS.all h).2.2.c1⟩)
        have HS := hide (fun w' (h : Below W0.heap.size W0 w') => hS.all h)
        clear hS
        have va := unhide LA k; have vb := unhide LB k; have vs := unhide LS k; have vl := unhide HL k; have vt := unhide LT k
        generalize fa k = da at *
        generalize fb k = db at *
        generalize fs k = ds at *
        generalize lf k = le at *
        obtain ⟨s1, hs1⟩ : ∃ s1 : Int, (db : Int) + (ds : Int) = s1 := ⟨_, rfl⟩
        obtain ⟨s2, hs2⟩ : ∃ s2 : Int, s1 - (da : Int) = s2 := ⟨_, rfl⟩
        obtain ⟨s3, hs3⟩ : ∃ s3 : Int, le + s2 = s3 := ⟨_, rfl⟩
        have VT := hide (show lf (k + 1) = s3 / 4294967296 by rw [vt, ← hs3, ← hs2, ← hs1])
        have e5 : IntKind.i64.wrap ((db : Int) + (ds : Int)) = s1 := by rw [hs1]; exact wrap_in _ (by omega)
        have e6 : IntKind.i64.wrap (s1 - (da : Int)) = s2 := by rw [hs2]; exact wrap_in _ (by omega)
        have e7 : IntKind.i64.wrap (le + s2) = s3 := by rw [hs3]; exact wrap_in _ (by omega)
        have b3 : -10000000000 ≤ s3 ∧ s3 ≤ 10000000000 := by omega
        clear hs1 hs2 hs3 va vb vs vl vt
        go_region_held3 (fun w' => Below W0.heap.size W0 w' ∧ w'.cell? ⟨w.heap.size, 0, none⟩ = some (.bool na) ∧ w'.cell? ⟨w.heap.size, 1, none⟩ = some (.slice ao ka ca) ∧ w'.cell? ⟨w.heap.size, 2, none⟩ = some (.int .i64 x) ∧ w'.cell? ⟨w.heap.size + 1, 0, none⟩ = some (.bool nb) ∧ w'.cell? ⟨w.heap.size + 1, 1, none⟩ = some (.slice bo kb cb) ∧ w'.cell? ⟨w.heap.size + 1, 2, none⟩ = some (.int .i64 y) ∧ w'.cell? ⟨g + 1, 0, none⟩ = some (.bool false) ∧ w'.cell? ⟨g + 1, 1, none⟩ = some (.slice (some ⟨g, 0, none⟩) 1 1))
          (first | exact unhide HK _ (Below.refl _ _).drew | exact unhide HK _ (by assumption))
          (first
            | (go_at_call_of 101 pa; refine (unhide W1 _ (unhide HS _ (And.left (by assumption))).1.2.2).mono ?_; rintro e wn ⟨rfl, hb1⟩; have hB : Below W0.heap.size W0 wn := Below.trans (And.left (by assumption)) (hb1.mono (Below.size (And.left (by assumption)))); clear hb1)
            | (go_at_call_of 101 pb; refine (unhide W2 _ (unhide HS _ (And.left (by assumption))).1.2.2).mono ?_; rintro e wn ⟨rfl, hb1⟩; have hB : Below W0.heap.size W0 wn := Below.trans (And.left (by assumption)) (hb1.mono (Below.size (And.left (by assumption)))); clear hb1)
            | (go_at_call_of 101 ps; refine (unhide W3 _ (unhide HS _ (And.left (by assumption))).2.1).mono ?_; rintro e wn ⟨rfl, hb1⟩; have hB : Below W0.heap.size W0 wn := Below.trans (And.left (by assumption)) (hb1.mono (Below.size (And.left (by assumption)))); clear hb1)
            | fail "NO ARM")
        have hn : Below W0.heap.size W0 wn := And.left (by assumption)
        go_wp2_with fail
        go_roundw
        case rel => exact ⟨k + 1, by omega, by go_num, by rw [unhide VT], hide (unhide HS _ hn)⟩
        case measure => simp [intOf]; omega
      · have hkk : k = N := by omega
        subst hkk
        have HB := hide (unhide hS).1.2.2
        clear hS
        go_wp2_with fail
        go_ret
        exact ⟨rfl, unhide HB⟩

end Go.Proofs.YtfnnbkclnflpfaaGreatDoor

/- Package certify: Within. -/
namespace Go.Proofs.YtfnnbkclnflpfaaGreatDoor
open Go.RowKit
attribute [local go_sem ↓] Go.wp_at_zero Go.wp_at_succ

/-- The lowest place of the three numbers. -/
def wnL (x y n : Int) : Int := min (min x (y - n)) (-4000)
/-- Is A times 2^x at most B times 2^(y - n), and 2^-4000 more? -/
def wnB (A B : Nat) (x y n : Int) : Bool := decide (A * 2 ^ (x - wnL x y n).toNat ≤ B * 2 ^ (y - n - wnL x y n).toNat + 2 ^ (-4000 - wnL x y n).toNat)

/-- A number below its top. -/
theorem top_above {neg : Bool} {L : List Nat} {e lo t : Int} (hf : Fits L) (hr : drB neg L e = true) (hl : lo ≤ e) (ht : topR L e ≤ t) (m : Nat) (hm : t - lo ≤ (m : Int)) : val L * 2 ^ (e - lo).toNat < 2 ^ m := by
  by_cases h0 : L = []
  · subst h0
    rw [show val [] = 0 from rfl, Nat.zero_mul]
    exact Nat.two_pow_pos m
  · obtain ⟨h1, _⟩ := drB_bounds hr
    have hlen : L.length ≠ 0 := fun e => h0 (List.length_eq_zero_iff.1 e)
    obtain ⟨s1, s2, s3⟩ := bits_spec L hf (right_canon h1).2.1 h0
    unfold topR at ht
    rw [if_neg hlen, lenL_bits] at ht
    have : val L * 2 ^ (e - lo).toNat < 2 ^ bits1 L * 2 ^ (e - lo).toNat := Nat.mul_lt_mul_of_pos_right s3 (Nat.two_pow_pos _)
    rw [← Nat.pow_add] at this
    exact Nat.lt_of_lt_of_le this (Nat.pow_le_pow_right (by decide) (by omega))
theorem topR_le {neg : Bool} {L : List Nat} {e : Int} (hr : drB neg L e = true) : topR L e ≤ 32800 ∧ -16384 ≤ topR L e := by
  obtain ⟨_, h1, h2, h3, _⟩ := drB_bounds hr
  unfold topR
  by_cases h0 : L.length = 0
  · rw [if_pos h0]; omega
  · rw [if_neg h0]
    unfold lenL
    rw [if_neg h0]
    have := bitLen_le (L[L.length - 1]?.getD 0)
    omega

theorem atMost_any (na nb : Bool) (ao bo : Option Addr) (ca cb : Nat) (A B : List Nat) (x y n : Int) (w : World) (hA : LimbsAt w ao ca A) (hB : LimbsAt w bo cb B) (hra : drB na A x = true) (hrb : drB nb B y = true) (hn : 0 ≤ n ∧ n ≤ 400) :
    Calls Tryz.prog 58 #[.agg #[.bool na, .slice ao A.length ca, .int .i64 x], .agg #[.bool nb, .slice bo B.length cb, .int .i64 y], .int .i64 n] w fun e w' => e = .returned (.bool (wnB (val A) (val B) x y n)) ∧ Below w.heap.size w w' := by
  obtain ⟨_, la, bx1, bx2, _⟩ := drB_bounds hra
  obtain ⟨_, lb, by1, by2, _⟩ := drB_bounds hrb
  have ta := topR_le hra
  have tb := topR_le hrb
  have ea := top_same hra
  have eb := top_same hrb
  obtain ⟨lo, hlo⟩ : ∃ lo, lo = wnL x y n := ⟨_, rfl⟩
  obtain ⟨tp, htp⟩ : ∃ tp, tp = max (max (topR A x) (topR B y)) (-3999) := ⟨_, rfl⟩
  have hlo' : lo = min (min x (y - n)) (-4000) := hlo
  obtain ⟨N, hN⟩ : ∃ N : Nat, (tp - lo) / 32 + 1 = (N : Int) := Int.eq_ofNat_of_zero_le (by omega)
  have hq : Int.tdiv (tp - lo) 32 + 1 = (N : Int) := by rw [Int.tdiv_eq_ediv_of_nonneg (by omega)]; exact hN
  have pA : (A.length ≤ 1000) := by omega
  have pB : (B.length ≤ 1000) := by omega
  have C := atMost_of na nb ao bo A.length B.length ca cb N x y n (y - n) lo (topR A x) (topR B y) tp
    (fun i => dg (val A) (lo + 32 * (i : Int) - x)) (fun i => dg (val B) (lo + 32 * (i : Int) - y + n)) (fun i => dg 1 (lo + 32 * (i : Int) + 4000))
    (lfI (val B * 2 ^ (y - n - lo).toNat) (2 ^ (-4000 - lo).toNat) (val A * 2 ^ (x - lo).toNat)) w
    (wrap_in _ (by omega)) hq (by omega) (by omega) (by omega) (by omega) (by omega) hn
    (fun W ts t => amin_run Tryz.prog W ts t x (y - n) (-4000) lo hlo') (fun W ts t => amax_run Tryz.prog W ts t (topR A x) (topR B y) (-3999) tp htp)
    (fun w' hb => by have := dtop_any na ao ca A x w' (hA.below hb) (by omega); rwa [ea] at this)
    (fun w' hb => by have := dtop_any nb bo cb B y w' (hB.below hb) (by omega); rwa [eb] at this)
    (fun w' i hi hb => limbFrom_any na ao ca A _ w' (hA.below hb) pA (by omega))
    (fun w' i hi hb => limbFrom_any nb bo cb B _ w' (hB.below hb) pB (by omega))
    (fun w' i g hi hl => limbFrom_any false (some ⟨g, 0, none⟩) 1 [1] _ w' hl (by decide) (by omega))
    (fun i => dg_lt _ _) (fun i => dg_lt _ _) (fun i => dg_lt _ _) (lfI_0 _ _ _) (fun i => lfI_bound _ _ _ i)
    (fun i => by
      rw [lfI_step]
      have e1 := dg_at (val A) (x - lo).toNat i
      have e2 := dg_at (val B) (y - n - lo).toNat i
      have e3 := dg_at 1 (-4000 - lo).toNat i
      rw [show 32 * (i : Int) - ((x - lo).toNat : Int) = lo + 32 * (i : Int) - x by omega] at e1
      rw [show 32 * (i : Int) - ((y - n - lo).toNat : Int) = lo + 32 * (i : Int) - y + n by omega] at e2
      rw [show 32 * (i : Int) - ((-4000 - lo).toNat : Int) = lo + 32 * (i : Int) + 4000 by omega, Nat.one_mul] at e3
      show _ = (_ + (((dg (val B) (lo + 32 * (i : Int) - y + n) : Nat) : Int) + ((dg 1 (lo + 32 * (i : Int) + 4000) : Nat) : Int) - ((dg (val A) (lo + 32 * (i : Int) - x) : Nat) : Int))) / 4294967296
      rw [e1, e2, e3])
  have h32 : tp - lo ≤ ((32 * N : Nat) : Int) := by omega
  have bA : val A * 2 ^ (x - lo).toNat < 2 ^ (32 * N) := top_above hA.2.1 hra (by omega) (by omega) _ h32
  have bB : val B * 2 ^ (y - n - lo).toNat < 2 ^ (32 * N) := by
    rw [show y - n - lo = y - (lo + n) by omega]
    exact top_above hB.2.1 hrb (by omega) (by omega) _ (show tp - (lo + n) ≤ _ by omega)
  have bS : 2 ^ (-4000 - lo).toNat < 2 ^ (32 * N) := Nat.pow_lt_pow_right (by decide) (by omega)
  have e : decide (0 ≤ lfI (val B * 2 ^ (y - n - lo).toNat) (2 ^ (-4000 - lo).toNat) (val A * 2 ^ (x - lo).toNat) N) = wnB (val A) (val B) x y n := by
    unfold wnB
    rw [← hlo]
    exact decide_eq_decide.2 (lfI_end _ _ _ N bB bS bA)
  rwa [e] at C

set_option maxRecDepth 20000 in
set_option maxHeartbeats 4000000 in
theorem fromZeroOn_any (neg : Bool) (ao : Option Addr) (cap : Nat) (L : List Nat) (e : Int) (w : World) (h : LimbsAt w ao cap L) (hl : L.length ≤ 35184372088830) (hT : Tab w) :
    Calls Tryz.prog 57 #[.agg #[.bool neg, .slice ao L.length cap, .int .i64 e]] w fun r w' => r = .returned (.bool (drB neg L e && !neg)) ∧ Below w.heap.size w w' := by
  have BB := hide (below_alloc9 w (.cells #[.bool neg, .slice ao L.length cap, .int .i64 e] 29))
  have X0 := hide (Box3.new w (.bool neg) (.slice ao L.length cap) (.int .i64 e))
  have K := hide (fun w' h' t => dcheck_any neg ao cap L e w' h' hl t)
  have hE : (drB neg L e = true ∧ drE neg L e = 0) ∨ (drB neg L e = false ∧ drE neg L e = 1) := by unfold drE; cases drB neg L e <;> simp
  generalize drE neg L e = f at *
  generalize drB neg L e = b at *
  rcases hE with ⟨rfl, rfl⟩ | ⟨rfl, rfl⟩
  all_goals
    go_enter Tryz.func57, Tryz.ntmps57
    go_wp2_with fail
    refine (unhide K _ (h.below (unhide BB)) (hT.all (unhide BB))).mono ?_
    rintro r w1 ⟨rfl, hb1⟩
    have x0 := (unhide X0).all hb1
    have y0 := x0.c0
    have B1 := hide ((unhide BB).trans (hb1.mono (unhide BB).size))
    clear hb1 x0 X0 BB K
    go_wp2
    go_ret
    exact ⟨rfl, unhide B1⟩

set_option maxRecDepth 20000 in
set_option maxHeartbeats 8000000 in
theorem cWithin_of (na nb : Bool) (ao bo : Option Addr) (ka kb ca cb : Nat) (x y k : Int) (fx fy b : Bool) (w : World) (hk : -9223372036854775808 ≤ k ∧ k ≤ 9223372036854775807)
    (C1 : ∀ w', Below w.heap.size w w' → Calls Tryz.prog 57 #[.agg #[.bool na, .slice ao ka ca, .int .i64 x]] w' fun r w'' => r = .returned (.bool fx) ∧ Below w'.heap.size w' w'')
    (C2 : ∀ w', Below w.heap.size w w' → Calls Tryz.prog 57 #[.agg #[.bool nb, .slice bo kb cb, .int .i64 y]] w' fun r w'' => r = .returned (.bool fy) ∧ Below w'.heap.size w' w'')
    (C3 : ∀ w', Below w.heap.size w w' → fx = true → fy = true → 0 ≤ k → k ≤ 200 → Calls Tryz.prog 58 #[.agg #[.bool na, .slice ao ka ca, .int .i64 x], .agg #[.bool nb, .slice bo kb cb, .int .i64 y], .int .i64 (2 * k)] w' fun e w'' => e = .returned (.bool b) ∧ Below w'.heap.size w' w'') :
    Calls Tryz.prog 21 #[.agg #[.bool na, .slice ao ka ca, .int .i64 x], .agg #[.bool nb, .slice bo kb cb, .int .i64 y], .int .i64 k] w fun e w' => (((fx = true ∧ fy = true ∧ 0 ≤ k ∧ k ≤ 200) ∧ e = .returned (.tuple #[.bool b, .int .i64 0])) ∨ (¬ (fx = true ∧ fy = true ∧ 0 ≤ k ∧ k ≤ 200) ∧ e = .returned (.tuple #[.bool false, .int .i64 1]))) ∧ Below w.heap.size w w' := by
  have ST := hide (AmSt.start w na nb ao bo ka kb ca cb x y)
  have K1 := hide C1; have K2 := hide C2; have K3 := hide C3
  clear C1 C2 C3
  cases fx
  · have K4 := hide (show ¬ (false = true ∧ fy = true ∧ 0 ≤ k ∧ k ≤ 200) by simp)
    clear K2 K3
    go_enter Tryz.func21, Tryz.ntmps21
    have x0 := (unhide ST).1.c0; have x1 := (unhide ST).1.c1; have x2 := (unhide ST).1.c2
    go_wp2_with fail
    refine (unhide K1 _ (unhide ST).2.2).mono ?_
    rintro r w1 ⟨rfl, hb1⟩
    clear x0 x1 x2
    replace ST := hide ((unhide ST).all hb1)
    clear hb1 K1
    go_wp2_with fail
    exact bodyPost_ret (v := .tuple #[.bool false, .int .i64 1]) (by simp [results, Tryz.results21, go_sem]) rfl ⟨.inr ⟨unhide K4, rfl⟩, (unhide ST).2.2⟩
  cases fy
  · have K4 := hide (show ¬ (true = true ∧ false = true ∧ 0 ≤ k ∧ k ≤ 200) by simp)
    clear K3
    go_enter Tryz.func21, Tryz.ntmps21
    have x0 := (unhide ST).1.c0; have x1 := (unhide ST).1.c1; have x2 := (unhide ST).1.c2
    go_wp2_with fail
    refine (unhide K1 _ (unhide ST).2.2).mono ?_
    rintro r w1 ⟨rfl, hb1⟩
    clear x0 x1 x2
    replace ST := hide ((unhide ST).all hb1)
    clear hb1 K1
    have x0 := (unhide ST).2.1.c0; have x1 := (unhide ST).2.1.c1; have x2 := (unhide ST).2.1.c2
    go_wp2_with fail
    refine (unhide K2 _ (unhide ST).2.2).mono ?_
    rintro r w2 ⟨rfl, hb1⟩
    clear x0 x1 x2
    replace ST := hide ((unhide ST).all hb1)
    clear hb1 K2
    go_wp2_with fail
    exact bodyPost_ret (v := .tuple #[.bool false, .int .i64 1]) (by simp [results, Tryz.results21, go_sem]) rfl ⟨.inr ⟨unhide K4, rfl⟩, (unhide ST).2.2⟩
  rcases (show k < 0 ∨ 200 < k ∨ (0 ≤ k ∧ k ≤ 200) by omega) with h | h | h
  · have K4 := hide (show ¬ (true = true ∧ true = true ∧ 0 ≤ k ∧ k ≤ 200) by omega)
    clear K3
    go_enter Tryz.func21, Tryz.ntmps21
    have x0 := (unhide ST).1.c0; have x1 := (unhide ST).1.c1; have x2 := (unhide ST).1.c2
    go_wp2_with fail
    refine (unhide K1 _ (unhide ST).2.2).mono ?_
    rintro r w1 ⟨rfl, hb1⟩
    clear x0 x1 x2
    replace ST := hide ((unhide ST).all hb1)
    clear hb1 K1
    have x0 := (unhide ST).2.1.c0; have x1 := (unhide ST).2.1.c1; have x2 := (unhide ST).2.1.c2
    go_wp2_with fail
    refine (unhide K2 _ (unhide ST).2.2).mono ?_
    rintro r w2 ⟨rfl, hb1⟩
    clear x0 x1 x2
    replace ST := hide ((unhide ST).all hb1)
    clear hb1 K2
    go_wp2_with fail
    exact bodyPost_ret (v := .tuple #[.bool false, .int .i64 1]) (by simp [results, Tryz.results21, go_sem]) rfl ⟨.inr ⟨unhide K4, rfl⟩, (unhide ST).2.2⟩
  · have K4 := hide (show ¬ (true = true ∧ true = true ∧ 0 ≤ k ∧ k ≤ 200) by omega)
    have h0 : ¬ k < 0 := by omega
    clear K3
    go_enter Tryz.func21, Tryz.ntmps21
    have x0 := (unhide ST).1.c0; have x1 := (unhide ST).1.c1; have x2 := (unhide ST).1.c2
    go_wp2_with fail
    refine (unhide K1 _ (unhide ST).2.2).mono ?_
    rintro r w1 ⟨rfl, hb1⟩
    clear x0 x1 x2
    replace ST := hide ((unhide ST).all hb1)
    clear hb1 K1
    have x0 := (unhide ST).2.1.c0; have x1 := (unhide ST).2.1.c1; have x2 := (unhide ST).2.1.c2
    go_wp2_with fail
    refine (unhide K2 _ (unhide ST).2.2).mono ?_
    rintro r w2 ⟨rfl, hb1⟩
    clear x0 x1 x2
    replace ST := hide ((unhide ST).all hb1)
    clear hb1 K2
    go_wp2_with fail
    exact bodyPost_ret (v := .tuple #[.bool false, .int .i64 1]) (by simp [results, Tryz.results21, go_sem]) rfl ⟨.inr ⟨unhide K4, rfl⟩, (unhide ST).2.2⟩
  · have K4 := hide (show (true = true ∧ true = true ∧ 0 ≤ k ∧ k ≤ 200) from ⟨rfl, rfl, h⟩)
    replace K3 := hide (fun w' hb => unhide K3 w' hb rfl rfl h.1 h.2)
    have h0 : ¬ k < 0 := by omega
    have h2 : ¬ 200 < k := by omega
    clear h
    go_enter Tryz.func21, Tryz.ntmps21
    have x0 := (unhide ST).1.c0; have x1 := (unhide ST).1.c1; have x2 := (unhide ST).1.c2
    go_wp2_with fail
    refine (unhide K1 _ (unhide ST).2.2).mono ?_
    rintro r w1 ⟨rfl, hb1⟩
    clear x0 x1 x2
    replace ST := hide ((unhide ST).all hb1)
    clear hb1 K1
    have x0 := (unhide ST).2.1.c0; have x1 := (unhide ST).2.1.c1; have x2 := (unhide ST).2.1.c2
    go_wp2_with fail
    refine (unhide K2 _ (unhide ST).2.2).mono ?_
    rintro r w2 ⟨rfl, hb1⟩
    clear x0 x1 x2
    replace ST := hide ((unhide ST).all hb1)
    clear hb1 K2
    have x0 := (unhide ST).1.c0; have x1 := (unhide ST).1.c1; have x2 := (unhide ST).1.c2
    have y0 := (unhide ST).2.1.c0; have y1 := (unhide ST).2.1.c1; have y2 := (unhide ST).2.1.c2
    go_wp2_with fail
    refine (unhide K3 _ (unhide ST).2.2).mono ?_
    rintro r w3 ⟨rfl, hb1⟩
    clear x0 x1 x2 y0 y1 y2
    replace ST := hide ((unhide ST).all hb1)
    clear hb1 K3
    go_wp2_with fail
    exact bodyPost_ret (v := .tuple #[.bool b, .int .i64 0]) (by simp [results, Tryz.results21, go_sem]) rfl ⟨.inl ⟨unhide K4, rfl⟩, (unhide ST).2.2⟩

/-- What may be asked. -/
def wnK (na nb : Bool) (A B : List Nat) (x y k : Int) : Prop := (drB na A x = true ∧ na = false) ∧ (drB nb B y = true ∧ nb = false) ∧ 0 ≤ k ∧ k ≤ 200
theorem cWithin_any (na nb : Bool) (ao bo : Option Addr) (ca cb : Nat) (A B : List Nat) (x y k : Int) (w : World) (hA : LimbsAt w ao ca A) (hB : LimbsAt w bo cb B) (la : A.length ≤ 35184372088830) (lb : B.length ≤ 35184372088830) (hk : -9223372036854775808 ≤ k ∧ k ≤ 9223372036854775807) (hT : Tab w) :
    Calls Tryz.prog 21 #[.agg #[.bool na, .slice ao A.length ca, .int .i64 x], .agg #[.bool nb, .slice bo B.length cb, .int .i64 y], .int .i64 k] w fun e w' => ((wnK na nb A B x y k ∧ e = .returned (.tuple #[.bool (wnB (val A) (val B) x y (2 * k)), .int .i64 0])) ∨ (¬ wnK na nb A B x y k ∧ e = .returned (.tuple #[.bool false, .int .i64 1]))) ∧ Below w.heap.size w w' := by
  have C := cWithin_of na nb ao bo A.length B.length ca cb x y k (drB na A x && !na) (drB nb B y && !nb) (wnB (val A) (val B) x y (2 * k)) w hk
    (fun w' hb => fromZeroOn_any na ao ca A x w' (hA.below hb) la (hT.all hb)) (fun w' hb => fromZeroOn_any nb bo cb B y w' (hB.below hb) lb (hT.all hb))
    (fun w' hb h1 h2 h3 h4 => by
      rw [Bool.and_eq_true] at h1 h2
      exact atMost_any na nb ao bo ca cb A B x y (2 * k) w' (hA.below hb) (hB.below hb) h1.1 h2.1 (by omega))
  have e : ((drB na A x && !na) = true ∧ (drB nb B y && !nb) = true ∧ 0 ≤ k ∧ k ≤ 200) ↔ wnK na nb A B x y k := by
    unfold wnK
    rw [Bool.and_eq_true, Bool.and_eq_true, Bool.not_eq_true', Bool.not_eq_true']
  rw [e] at C
  exact C

end Go.Proofs.YtfnnbkclnflpfaaGreatDoor

/- The reference of layer 11: Dot. -/
namespace Go.Proofs.YtfnnbkclnflpfaaGreatDoor
open Go.RowKit
attribute [local go_sem ↓] Go.wp_at_zero Go.wp_at_succ

/-- What holds in a sum's loop: the answer's box, the sum. -/
def DtSt (w wr : World) (lo s : Int) : Prop := Box3 wr w.heap.size (.bool false) (.slice none 0 0) (.int .i64 0) ∧ Kept wr (w.heap.size + 1) lo s ∧ Below w.heap.size w wr
theorem DtSt.all {w wr w' : World} {lo s : Int} (h : DtSt w wr lo s) (hb : Below wr.heap.size wr w') : DtSt w w' lo s := ⟨h.1.all hb, h.2.1.all hb, h.2.2.trans (hb.mono h.2.2.size)⟩
theorem DtSt.start (w : World) (lo : Int) : DtSt w ((w.alloc (.cells #[.bool false, .slice none 0 0, .int .i64 0] 29)).alloc (.cells #[.bool false, .slice none 0 0, .int .i64 0] 29)) lo 0 := by
  have b0 := below_alloc9 w (.cells #[.bool false, .slice none 0 0, .int .i64 0] 29)
  have s0 := size_alloc9 w (.cells #[.bool false, .slice none 0 0, .int .i64 0] 29)
  have x0 := Box3.new w (.bool false) (.slice none 0 0) (.int .i64 0)
  generalize w.alloc (.cells #[.bool false, .slice none 0 0, .int .i64 0] 29) = w0 at *
  have b1 := below_alloc9 w0 (.cells #[.bool false, .slice none 0 0, .int .i64 0] 29)
  have k1 := Kept.new w0 lo
  rw [s0] at k1
  exact ⟨x0.all b1, k1, b0.trans (b1.mono b0.size)⟩
/-- The sum's box is written. -/
theorem DtSt.put {w wr : World} {lo s t : Int} (h : DtSt w wr lo s) {n : Bool} {a : Option Addr} {l c : Nat} {X : Int} (hv : IsLv wr (.agg #[.bool n, .slice a l c, .int .i64 X]) lo t) :
    DtSt w (((wr.setCell ⟨w.heap.size + 1, 0, none⟩ (.bool n)).setCell ⟨w.heap.size + 1, 1, none⟩ (.slice a l c)).setCell ⟨w.heap.size + 1, 2, none⟩ (.int .i64 X)) lo t := by
  obtain ⟨h1, ⟨n', a', l', c', X', h2, _⟩, h3⟩ := h
  have ne : w.heap.size ≠ w.heap.size + 1 := by omega
  exact ⟨((h1.other (p := ⟨w.heap.size + 1, 0, none⟩) ne _).other (p := ⟨w.heap.size + 1, 1, none⟩) ne _).other (p := ⟨w.heap.size + 1, 2, none⟩) ne _, ⟨n, a, l, c, X, h2.put _ _ _, IsDy.put3 hv h2 _ _ _⟩, below_put3 h3 (by omega) _ _ _⟩

end Go.Proofs.YtfnnbkclnflpfaaGreatDoor

/- The reference of layer 11: Orthogonal by letters. -/
namespace Go.Proofs.YtfnnbkclnflpfaaGreatDoor
open Go.RowKit
attribute [local go_sem ↓] Go.wp_at_zero Go.wp_at_succ

theorem Box3.oth3 {w : World} {b : Nat} {x y z : Value} (h : Box3 w b x y z) {g : Nat} (hg : b ≠ g) (u u' u'' : Value) : Box3 (((w.setCell ⟨g, 0, none⟩ u).setCell ⟨g, 1, none⟩ u').setCell ⟨g, 2, none⟩ u'') b x y z :=
  ((h.other (p := ⟨g, 0, none⟩) hg u).other (p := ⟨g, 1, none⟩) hg u').other (p := ⟨g, 2, none⟩) hg u''
theorem Box3.ex {w : World} {b : Nat} {x y z : Value} (h : Box3 w b x y z) : ∃ g, g = b ∧ Box3 w g x y z := ⟨b, rfl, h⟩
/-- Another box of a number is written. -/
theorem Kept.oth3 {w : World} {b g : Nat} {lo s : Int} (h : Kept w b lo s) {x : Bool} {a : Option Addr} {l c : Nat} {y : Int} (hg : Box3 w g (.bool x) (.slice a l c) (.int .i64 y)) (hne : b ≠ g) (u u' u'' : Value) : Kept (((w.setCell ⟨g, 0, none⟩ u).setCell ⟨g, 1, none⟩ u').setCell ⟨g, 2, none⟩ u'') b lo s := by
  obtain ⟨n, a, l, c, X, h1, h2⟩ := h
  exact ⟨n, a, l, c, X, h1.oth3 hne _ _ _, IsDy.put3 h2 hg _ _ _⟩
/-- It is written itself. -/
theorem Kept.put {w : World} {g : Nat} {lo s t : Int} {lo' : Int} (h : Kept w g lo s) {n : Bool} {a : Option Addr} {l c : Nat} {X : Int} (hv : IsLv w (.agg #[.bool n, .slice a l c, .int .i64 X]) lo' t) : Kept (((w.setCell ⟨g, 0, none⟩ (.bool n)).setCell ⟨g, 1, none⟩ (.slice a l c)).setCell ⟨g, 2, none⟩ (.int .i64 X)) g lo' t := by
  obtain ⟨n', a', l', c', X', h1, _⟩ := h
  exact ⟨n, a, l, c, X, h1.put _ _ _, IsDy.put3 hv h1 _ _ _⟩

/-- One. -/
theorem rof11 (w : World) : Calls Tryz.prog 49 #[.int .i64 1] w fun e w' => ∃ v, e = .returned v ∧ IsNum w.heap.size w' v 1 ∧ Below w.heap.size w w' :=
  (refOf_any 1 w (by decide) (by decide)).mono fun e w' ⟨r, h1, h2, h3⟩ => ⟨r, h1, h2.num (by omega), h3⟩

/-- What holds in the reference's Orthogonal: the matrix's box, the answer's, the sum's. -/
def OrSt (w wr : World) (r c n cap : Nat) (ao : Option Addr) (lo s : Int) : Prop :=
  BoxM wr w.heap.size (.int .i64 r) (.int .i64 c) (.slice ao n cap) ∧ Box3 wr (w.heap.size + 1) (.bool false) (.slice none 0 0) (.int .i64 0) ∧ Kept wr (w.heap.size + 1 + 1) lo s ∧ Below w.heap.size w wr
theorem OrSt.all {w wr w' : World} {r c n cap : Nat} {ao : Option Addr} {lo s : Int} (h : OrSt w wr r c n cap ao lo s) (hb : Below wr.heap.size wr w') : OrSt w w' r c n cap ao lo s :=
  ⟨h.1.all hb, h.2.1.all hb, h.2.2.1.all hb, h.2.2.2.trans (hb.mono h.2.2.2.size)⟩
theorem OrSt.start (w : World) (r c n cap : Nat) (ao : Option Addr) (lo : Int) : OrSt w (((w.alloc (.cells #[.int .i64 r, .int .i64 c, .slice ao n cap] 24)).alloc (.cells #[.bool false, .slice none 0 0, .int .i64 0] 29)).alloc (.cells #[.bool false, .slice none 0 0, .int .i64 0] 29)) r c n cap ao lo 0 := by
  obtain ⟨x0, x1, bb⟩ := boxes1D w r c ao n cap
  have s1 : ((w.alloc (.cells #[.int .i64 r, .int .i64 c, .slice ao n cap] 24)).alloc (.cells #[.bool false, .slice none 0 0, .int .i64 0] 29)).heap.size = w.heap.size + 1 + 1 := by simp
  generalize (w.alloc (.cells #[.int .i64 r, .int .i64 c, .slice ao n cap] 24)).alloc (.cells #[.bool false, .slice none 0 0, .int .i64 0] 29) = w1 at *
  have b2 := below_alloc9 w1 (.cells #[.bool false, .slice none 0 0, .int .i64 0] 29)
  have k2 := Kept.new w1 lo
  rw [s1] at k2
  exact ⟨x0.all b2, x1.all b2, k2, bb.trans (b2.mono bb.size)⟩
/-- The sum is written. -/
theorem OrSt.put {w wr : World} {r c n cap : Nat} {ao : Option Addr} {lo s t : Int} (h : OrSt w wr r c n cap ao lo s) {ng : Bool} {a : Option Addr} {l cp : Nat} {X : Int} (hv : IsLv wr (.agg #[.bool ng, .slice a l cp, .int .i64 X]) lo t) :
    OrSt w (((wr.setCell ⟨w.heap.size + 1 + 1, 0, none⟩ (.bool ng)).setCell ⟨w.heap.size + 1 + 1, 1, none⟩ (.slice a l cp)).setCell ⟨w.heap.size + 1 + 1, 2, none⟩ (.int .i64 X)) r c n cap ao lo t :=
  ⟨h.1.oth3 (by omega) _ _ _, h.2.1.oth3 (by omega) _ _ _, h.2.2.1.put hv, below_put3 h.2.2.2 (by omega) _ _ _⟩
end Go.Proofs.YtfnnbkclnflpfaaGreatDoor

/- The reference of layer 11: Residual by letters. -/
namespace Go.Proofs.YtfnnbkclnflpfaaGreatDoor
open Go.RowKit
attribute [local go_sem ↓] Go.wp_at_zero Go.wp_at_succ

/-- Three matrices' boxes, the answer's, the sum's. -/
def RsSt (w wr : World) (r c p q s d : Int) (ao bo co : Option Addr) (na nb nc ca cb cc : Nat) (lo z : Int) : Prop :=
  Bx3D w wr r c p q s d ao bo co na nb nc ca cb cc ∧ Kept wr (w.heap.size + 1 + 1 + 1 + 1) lo z
theorem RsSt.all {w wr w' : World} {r c p q s d : Int} {ao bo co : Option Addr} {na nb nc ca cb cc : Nat} {lo z : Int} (h : RsSt w wr r c p q s d ao bo co na nb nc ca cb cc lo z) (hb : Below wr.heap.size wr w') : RsSt w w' r c p q s d ao bo co na nb nc ca cb cc lo z := ⟨h.1.all hb, h.2.all hb⟩
theorem RsSt.start (w : World) (r c p q s d : Int) (ao bo co : Option Addr) (na nb nc ca cb cc : Nat) (lo : Int) : RsSt w (((((w.alloc (.cells #[.int .i64 r, .int .i64 c, .slice ao na ca] 24)).alloc (.cells #[.int .i64 p, .int .i64 q, .slice bo nb cb] 24)).alloc (.cells #[.int .i64 s, .int .i64 d, .slice co nc cc] 24)).alloc (.cells #[.bool false, .slice none 0 0, .int .i64 0] 29)).alloc (.cells #[.bool false, .slice none 0 0, .int .i64 0] 29)) r c p q s d ao bo co na nb nc ca cb cc lo 0 := by
  have h := Bx3D.start w r c p q s d ao bo co na nb nc ca cb cc
  have e : ((((w.alloc (.cells #[.int .i64 r, .int .i64 c, .slice ao na ca] 24)).alloc (.cells #[.int .i64 p, .int .i64 q, .slice bo nb cb] 24)).alloc (.cells #[.int .i64 s, .int .i64 d, .slice co nc cc] 24)).alloc (.cells #[.bool false, .slice none 0 0, .int .i64 0] 29)).heap.size = w.heap.size + 1 + 1 + 1 + 1 := by simp
  generalize (((w.alloc (.cells #[.int .i64 r, .int .i64 c, .slice ao na ca] 24)).alloc (.cells #[.int .i64 p, .int .i64 q, .slice bo nb cb] 24)).alloc (.cells #[.int .i64 s, .int .i64 d, .slice co nc cc] 24)).alloc (.cells #[.bool false, .slice none 0 0, .int .i64 0] 29) = w1 at *
  have b2 := below_alloc9 w1 (.cells #[.bool false, .slice none 0 0, .int .i64 0] 29)
  have k2 := Kept.new w1 lo
  rw [e] at k2
  exact ⟨h.all b2, k2⟩
theorem Bx3D.oth {w wr : World} {r c p q s d : Int} {ao bo co : Option Addr} {na nb nc ca cb cc : Nat} (h : Bx3D w wr r c p q s d ao bo co na nb nc ca cb cc) {g : Nat} (hg : w.heap.size + 1 + 1 + 1 < g) (u u' u'' : Value) : Bx3D w (((wr.setCell ⟨g, 0, none⟩ u).setCell ⟨g, 1, none⟩ u').setCell ⟨g, 2, none⟩ u'') r c p q s d ao bo co na nb nc ca cb cc :=
  ⟨h.1.oth3 (by omega) _ _ _, h.2.1.oth3 (by omega) _ _ _, h.2.2.1.oth3 (by omega) _ _ _, h.2.2.2.1.oth3 (by omega) _ _ _, below_put3 h.2.2.2.2 (by omega) _ _ _⟩
theorem RsSt.put {w wr : World} {r c p q s d : Int} {ao bo co : Option Addr} {na nb nc ca cb cc : Nat} {lo z t : Int} (h : RsSt w wr r c p q s d ao bo co na nb nc ca cb cc lo z) {ng : Bool} {a : Option Addr} {l cp : Nat} {X : Int} (hv : IsLv wr (.agg #[.bool ng, .slice a l cp, .int .i64 X]) lo t) :
    RsSt w (((wr.setCell ⟨(w.heap.size + 1 + 1 + 1 + 1), 0, none⟩ (.bool ng)).setCell ⟨(w.heap.size + 1 + 1 + 1 + 1), 1, none⟩ (.slice a l cp)).setCell ⟨(w.heap.size + 1 + 1 + 1 + 1), 2, none⟩ (.int .i64 X)) r c p q s d ao bo co na nb nc ca cb cc lo t := ⟨h.1.oth (by omega) _ _ _, h.2.put hv⟩
end Go.Proofs.YtfnnbkclnflpfaaGreatDoor

