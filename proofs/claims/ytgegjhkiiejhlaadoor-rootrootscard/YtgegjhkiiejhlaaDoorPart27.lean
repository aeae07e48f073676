/- Part 27 of the texts. -/
import Derived.Test.YtgegjhkiiejhlaaDoorPart26
import Derived.Test.YtgegjhkiiejhlaaDoorPart13
import Derived.Test.YtgegjhkiiejhlaaDoorPart22
import Derived.Test.YtgegjhkiiejhlaaDoorPart23
import Derived.Deep.RegionHeld3
import Derived.Test.YtgegjhkiiejhlaaDoorPart24
import Derived.Test.YtgegjhkiiejhlaaDoorPart18
/- Contracts of package root: reckon, Whole, rootBehind. -/
namespace Go.Proofs.YtgegjhkiiejhlaaDoor
open Go.RowKit

set_option maxRecDepth 20000 in
set_option maxHeartbeats 4000000 in
theorem reckon_ways (n : Nat) (P R S : Nat → Nat) (w : World) (h0 : R 0 = 0 ∧ S 0 = 0)
    (C : ∀ i, i < 32 → ∀ w', Calls Tryd.prog 51 #[.agg #[.int .u64 (R i : Nat), .int .u64 (S i : Nat)], .int .u64 (P i : Nat)] w' fun e w'' => e = .returned (.agg #[.int .u64 (R (i + 1) : Nat), .int .u64 (S (i + 1) : Nat)]) ∧ Below w'.heap.size w' w'')
    (hP : ∀ i, i < 32 → bits .and .u64 ((n : Int) / 2 ^ (2 * (31 - i))) 3 = (P i : Int)) :
    Calls Tryd.prog 28 #[.int .u64 n] w fun e w' => e = .returned (.agg #[.int .u64 (R 32 : Nat), .int .u64 (S 32 : Nat)]) ∧ Below w.heap.size w w' := by
  have H0 := hide h0; have HC := hide C; have HP := hide hP
  clear h0 C hP
  go_enter Tryd.func28, Tryd.ntmps28
  go_wp2
  go_loopw [6] (fun i wr => ∃ k : Nat, k ≤ 32 ∧ i = .int .i64 k ∧ Hid (BoxP wr w.heap.size (.int .u64 0) (.int .u64 0)) ∧ Hid (BoxP wr (w.heap.size + 1) (.int .u64 (R k : Nat)) (.int .u64 (S k : Nat))) ∧ Hid (Below w.heap.size w wr)) (fun i _ => 32 - (intOf i).toNat)
  case atStart =>
    have h := unhide H0
    refine ⟨0, by omega, rfl, hide ?_, hide ?_, hide (((Below.refl _ _).alloc (Nat.le_refl _) _).alloc (by simp) _)⟩
    · exact (BoxP.new w (.int .u64 0) (.int .u64 0)).all ((Below.refl _ _).alloc (Nat.le_refl _) _)
    · rw [h.1, h.2]
      have := BoxP.new (w.alloc (.cells #[.int .u64 0, .int .u64 0] 52)) (.int .u64 0) (.int .u64 0)
      simpa using this
  case round =>
    obtain ⟨k, hk, rfl, hx, hy, hb⟩ := hrel
    by_cases hlt : k < 32
    · have K1 := hide (unhide HC k hlt)
      have hp := unhide HP k hlt
      have y0 := (unhide hy).c0; have y1 := (unhide hy).c1; have f0 := (unhide hy).free 0; have f1 := (unhide hy).free 1
      have b0 : (0 : Int) ≤ (k : Int) := by omega
      have b1 : (k : Int) < 32 := by omega
      obtain ⟨d, hd⟩ : ∃ d : Nat, d = 2 * (31 - k) := ⟨_, rfl⟩
      have e1 : IntKind.i64.wrap (31 - (k : Int)) = ((31 - k : Nat) : Int) := by rw [wrap_small _ (by omega)]; omega
      have e2 : IntKind.i64.wrap (2 * ((31 - k : Nat) : Int)) = (d : Int) := by rw [wrap_small _ (by omega)]; omega
      have d0 : d ≤ 63 := by omega
      rw [← hd] at hp
      have HD := hide hd
      clear HC HP H0 hd
      generalize 31 - k = c at *
      generalize R k = r at *
      generalize S k = s at *
      generalize P k = p at *
      obtain ⟨r1, hr1⟩ : ∃ x, x = R (k + 1) := ⟨_, rfl⟩
      obtain ⟨s1, hs1⟩ : ∃ x, x = S (k + 1) := ⟨_, rfl⟩
      rw [← hr1, ← hs1] at K1
      have NR := hide hr1.symm; have NS := hide hs1.symm
      clear hr1 hs1
      go_wp2_with fail
      have xd : BoxP wr.drew w.heap.size (.int .u64 0) (.int .u64 0) := unhide hx
      have yd : BoxP wr.drew (w.heap.size + 1) (.int .u64 (r : Nat)) (.int .u64 (s : Nat)) := unhide hy
      have hbd : Below w.heap.size w wr.drew := (unhide hb).drew
      have XD := hide xd; have YD := hide yd; have BD := hide hbd
      clear xd yd hbd
      go_region_with (go_at_call 51; refine (unhide K1 _).mono ?_; rintro e w1 ⟨rfl, hb1⟩; have x1 := (unhide YD).all hb1; have B1 := hide ((unhide BD).trans (hb1.mono (unhide BD).size)); have X1 := hide ((unhide XD).all hb1); clear hb1 y0 y1 f0 f1; have y0 := x1.c0; have y1 := x1.c1; have f0 := x1.free 0; have f1 := x1.free 1; have YB := hide x1; clear x1)
      go_wp2
      go_roundw
      case rel =>
        refine ⟨k + 1, by omega, by go_num, hide ?_, hide ?_, hide ?_⟩
        · exact (unhide X1).oth (by omega) _ _
        · rw [unhide NR, unhide NS]
          exact (unhide YB).put _ _
        · exact below_putP (unhide B1) (by omega) _ _
      case measure => simp [intOf]; omega
    · have hk2 : k = 32 := by omega
      subst hk2
      have y0 := (unhide hy).c0; have y1 := (unhide hy).c1
      have x0 := (unhide hx).c0; have x1 := (unhide hx).c1; have f0 := (unhide hx).free 0; have f1 := (unhide hx).free 1
      clear HC HP H0
      obtain ⟨r, hr⟩ : ∃ x, x = R 32 := ⟨_, rfl⟩
      obtain ⟨s, hs⟩ : ∃ x, x = S 32 := ⟨_, rfl⟩
      rw [← hr] at y0
      rw [← hs] at y1
      have HR := hide hr; have HS := hide hs
      clear hr hs
      go_wp2
      refine bodyPost_ret (v := .agg #[.int .u64 (r : Nat), .int .u64 (s : Nat)]) ?_ rfl ⟨by rw [unhide HR, unhide HS], below_putP (unhide hb) (Nat.le_refl _) _ _⟩
      have z := (unhide hx).put (.int .u64 (r : Nat)) (.int .u64 (s : Nat))
      have z0 := z.c0; have z1 := z.c1
      simp [results, Tryd.results28, go_sem, z0, z1]

set_option maxRecDepth 20000 in
set_option maxHeartbeats 2000000 in
theorem rwhole_ways (n r s : Nat) (b : Bool) (w : World) (hb : ((s : Int) == 0) = b)
    (C : ∀ w', Calls Tryd.prog 28 #[.int .u64 n] w' fun e w'' => e = .returned (.agg #[.int .u64 (r : Nat), .int .u64 (s : Nat)]) ∧ Below w'.heap.size w' w'') :
    Calls Tryd.prog 9 #[.int .u64 n] w fun e w' => e = .returned (.tuple #[.int .u64 (r : Nat), .bool b]) ∧ Below w.heap.size w w' := by
  have HC := hide C
  clear C
  go_enter Tryd.func9, Tryd.ntmps9
  go_wp2_with fail
  refine (unhide HC _).mono ?_
  rintro e w1 ⟨rfl, hb1⟩
  have x := BoxP.new w1 (.int .u64 (r : Nat)) (.int .u64 (s : Nat))
  have y0 := x.c0; have y1 := x.c1
  have B1 := hide (hb1.trans (((Below.refl _ _).alloc (Nat.le_refl _) (.cells #[.int .u64 (r : Nat), .int .u64 (s : Nat)] 52)).mono hb1.size))
  clear HC hb1 x
  go_wp2
  go_quiet (fail)
  go_wp2
  exact bodyPost_ret (v := .tuple #[.int .u64 (r : Nat), .bool b]) (by simp [results, Tryd.results9, go_sem]) rfl ⟨rfl, below_drewN (unhide B1) _⟩

set_option maxRecDepth 20000 in
set_option maxHeartbeats 4000000 in
theorem rootBehind_ways (n X : Nat) (R S : Nat → Nat) (w : World)
    (C1 : ∀ w', Calls Tryd.prog 28 #[.int .u64 n] w' fun e w'' => e = .returned (.agg #[.int .u64 (R 0 : Nat), .int .u64 (S 0 : Nat)]) ∧ Below w'.heap.size w' w'')
    (C2 : ∀ i, i < 22 → ∀ w', Calls Tryd.prog 51 #[.agg #[.int .u64 (R i : Nat), .int .u64 (S i : Nat)], .int .u64 0] w' fun e w'' => e = .returned (.agg #[.int .u64 (R (i + 1) : Nat), .int .u64 (S (i + 1) : Nat)]) ∧ Below w'.heap.size w' w'')
    (hR : R 22 < 18014398509481984) (hX : X = 2 * R 22 + (if S 22 = 0 then 0 else 1)) :
    Calls Tryd.prog 56 #[.int .u64 n] w fun e w' => e = .returned (.int .i64 (X : Nat)) ∧ Below w.heap.size w w' := by
  have K1 := hide C1; have K2 := hide C2; have HX := hide hX; have HR := hide hR
  clear C1 C2 hX hR
  go_enter Tryd.func56, Tryd.ntmps56
  go_wp2_with fail
  refine (unhide K1 _).mono ?_
  rintro e w1 ⟨rfl, hb1⟩
  have x := hide (BoxP.new w1 (.int .u64 (R 0 : Nat)) (.int .u64 (S 0 : Nat)))
  have B1 := hide (hb1.trans (((Below.refl _ _).alloc (Nat.le_refl _) (.cells #[.int .u64 (R 0 : Nat), .int .u64 (S 0 : Nat)] 52)).mono hb1.size))
  have hg := hb1.size
  clear K1 hb1
  go_wp2
  go_loopw [7] (fun i wr => ∃ k : Nat, k ≤ 22 ∧ i = .int .i64 k ∧ Hid (BoxP wr w1.heap.size (.int .u64 (R k : Nat)) (.int .u64 (S k : Nat))) ∧ Hid (Below w.heap.size w wr)) (fun i _ => 22 - (intOf i).toNat)
  case atStart => exact ⟨0, by omega, rfl, x, B1⟩
  case round =>
    obtain ⟨k, hk, rfl, hy, hb⟩ := hrel
    clear x B1
    by_cases hlt : k < 22
    · have C := hide (unhide K2 k hlt)
      have y0 := (unhide hy).c0; have y1 := (unhide hy).c1
      have b0 : (0 : Int) ≤ (k : Int) := by omega
      have b1 : (k : Int) < 22 := by omega
      obtain ⟨r1, hr1⟩ : ∃ x, x = R (k + 1) := ⟨_, rfl⟩
      obtain ⟨s1, hs1⟩ : ∃ x, x = S (k + 1) := ⟨_, rfl⟩
      rw [← hr1, ← hs1] at C
      have NR := hide hr1.symm; have NS := hide hs1.symm
      clear K2 HX HR hr1 hs1
      generalize R k = r at *
      generalize S k = s at *
      go_wp2_with fail
      refine (unhide C _).mono ?_
      rintro e w2 ⟨rfl, hb2⟩
      have x1 := (unhide hy).all hb2
      have B2 := hide ((unhide hb).trans (hb2.mono (unhide hb).size))
      clear hb2 y0 y1 hy hb C
      have y0 := x1.c0; have y1 := x1.c1; have f0 := x1.free 0; have f1 := x1.free 1
      have YB := hide x1
      clear x1
      go_wp2
      go_roundw
      case rel =>
        refine ⟨k + 1, by omega, by go_num, hide ?_, hide (below_putP (unhide B2) (by omega) _ _)⟩
        rw [unhide NR, unhide NS]
        exact (unhide YB).put _ _
      case measure => simp [intOf]; omega
    · have hk2 : k = 22 := by omega
      subst hk2
      have y0 := (unhide hy).c0; have y1 := (unhide hy).c1
      have r0 := unhide HR
      clear K2 HR
      generalize R 22 = r at *
      generalize S 22 = s at *
      by_cases c : 0 < s
      · have M := hide (show X = 2 * r + 1 by rw [unhide HX, if_neg (by omega)])
        have c' : (s : Int) > 0 := by omega
        clear HX
        go_wp2
        go_ret
        exact ⟨ret_int (by rw [unhide M]; omega), unhide hb⟩
      · have M := hide (show X = 2 * r by rw [unhide HX, if_pos (by omega)]; rfl)
        have c' : ¬ (s : Int) > 0 := by omega
        clear HX
        go_wp2
        go_ret
        exact ⟨ret_int (by rw [unhide M]; omega), unhide hb⟩

end Go.Proofs.YtgegjhkiiejhlaaDoor

/- Package root: next, reckon, Whole, rootBehind of any number. -/
namespace Go.Proofs.YtgegjhkiiejhlaaDoor
open Go.RowKit

theorem pnext_any (N p : Nat) (w : World) (hp : p < 4) (hN : isq N < 18014398509481984) :
    Calls Tryd.prog 51 #[.agg #[.int .u64 (isq N : Nat), .int .u64 (rest7 N : Nat)], .int .u64 (p : Nat)] w fun e w' => e = .returned (.agg #[.int .u64 (isq (4 * N + p) : Nat), .int .u64 (rest7 (4 * N + p) : Nat)]) ∧ Below w.heap.size w w' := by
  obtain ⟨h1, h2⟩ := next7 N p hp
  have hs := rest7_le N
  have o1 := or_pair (rest7 N) p (by omega) hp
  have o2 := or_one (2 * isq N) (by omega)
  have o3 := or_one (isq N) (by omega)
  rw [show ((2 * isq N : Nat) : Int) = (isq N : Int) * 2 by omega] at o2
  by_cases hc : 4 * rest7 N + p < 4 * isq N + 1
  · rw [(h1 hc).1, (h1 hc).2]
    exact pnext_n (isq N) (rest7 N) p (4 * rest7 N + p) (2 * (2 * isq N) + 1) (2 * isq N) w hN hs (by omega) o1 o2 (by omega)
  · rw [(h2 hc).1, (h2 hc).2]
    exact pnext_m (isq N) (rest7 N) p (4 * rest7 N + p) (2 * (2 * isq N) + 1) (2 * isq N + 1) (4 * rest7 N + p - (4 * isq N + 1)) w hN hs (by omega) (by omega) o1 o2 o3 (by omega)

theorem and_three (x : Nat) (h : x < 18446744073709551616) : bits .and .u64 (x : Int) 3 = ((x % 4 : Nat) : Int) := by
  have h1 := bits_and_u64_nat x 3 h (by decide)
  refine h1.trans ?_
  have : x &&& 3 = x % 4 := by
    have := Nat.and_two_pow_sub_one_eq_mod x 2
    simpa using this
  rw [this]

theorem reckon_any (n : Nat) (w : World) (hn : n < 18446744073709551616) :
    Calls Tryd.prog 28 #[.int .u64 n] w fun e w' => e = .returned (.agg #[.int .u64 (isq n : Nat), .int .u64 (rest7 n : Nat)]) ∧ Below w.heap.size w w' := by
  have h := reckon_ways n (fun i => n / 2 ^ (2 * (31 - i)) % 4) (fun i => isq (top7 n i)) (fun i => rest7 (top7 n i)) w ?_ ?_ ?_
  · rw [top7_end] at h
    exact h
  · rw [top7_zero n hn]
    exact ⟨rfl, rfl⟩
  · intro i hi w'
    have := pnext_any (top7 n i) (n / 2 ^ (2 * (31 - i)) % 4) w' (by omega) (by have := isq_top7 n i hn; omega)
    rw [← top7_succ n i hi] at this
    exact this
  · intro i hi
    have e : (n : Int) / 2 ^ (2 * (31 - i)) = ((n / 2 ^ (2 * (31 - i)) : Nat) : Int) := by simp
    rw [e]
    exact and_three _ (Nat.lt_of_le_of_lt (Nat.div_le_self _ _) hn)

theorem rwhole_any (n : Nat) (w : World) (hn : n < 18446744073709551616) :
    Calls Tryd.prog 9 #[.int .u64 n] w fun e w' => e = .returned (.tuple #[.int .u64 (isq n : Nat), .bool (decide (isq n * isq n = n))]) ∧ Below w.heap.size w w' := by
  refine rwhole_ways n (isq n) (rest7 n) _ w ?_ (fun w' => reckon_any n w' hn)
  have := rest7_zero n
  by_cases h : isq n * isq n = n
  · rw [decide_eq_true h, this.2 h]; rfl
  · rw [decide_eq_false h]
    have : rest7 n ≠ 0 := fun e => h (this.1 e)
    simp; omega

theorem rootBehind_any (n : Nat) (w : World) (hn : n < 18446744073709551616) :
    Calls Tryd.prog 56 #[.int .u64 n] w fun e w' => e = .returned (.int .i64 (rS (n * 4 ^ 22) : Nat)) ∧ Below w.heap.size w w' := by
  refine rootBehind_ways n _ (fun i => isq (n * 4 ^ i)) (fun i => rest7 (n * 4 ^ i)) w ?_ ?_ (isq_low7 n 22 hn (by decide)) ?_
  · intro w'
    have := reckon_any n w' hn
    show Calls Tryd.prog 28 #[.int .u64 n] w' fun e w'' => e = .returned (.agg #[.int .u64 (isq (n * 4 ^ 0) : Nat), .int .u64 (rest7 (n * 4 ^ 0) : Nat)]) ∧ Below w'.heap.size w' w''
    rw [Nat.pow_zero, Nat.mul_one]
    exact this
  · intro i hi w'
    have := pnext_any (n * 4 ^ i) 0 w' (by decide) (isq_low7 n i hn (by omega))
    rw [← low7_succ] at this
    exact this
  · unfold rS
    have := rest7_zero (n * 4 ^ 22)
    by_cases h : isq (n * 4 ^ 22) * isq (n * 4 ^ 22) = n * 4 ^ 22
    · rw [if_pos h, if_pos (this.2 h)]
    · rw [if_neg h, if_neg (fun e => h (this.1 e))]

end Go.Proofs.YtgegjhkiiejhlaaDoor

/- Contracts of package times: quotient. -/
namespace Go.Proofs.YtgegjhkiiejhlaaDoor
open Go.RowKit

theorem lQ_54 (x y i : Nat) (h2 : x < 2 * y) (hi : i < 55) : lQ x y i < 18014398509481984 := by
  have q1 := lQ_lt x y i h2
  have q2 : (2 : Nat) ^ i ≤ 2 ^ 54 := Nat.pow_le_pow_right (by decide) (by omega)
  rw [show (2 : Nat) ^ 54 = 18014398509481984 by decide] at q2
  exact Nat.lt_of_lt_of_le q1 q2
theorem lQ_55 (x y : Nat) (h2 : x < 2 * y) : lQ x y 55 < 36028797018963968 := by
  have q1 := lQ_lt x y 55 h2
  rwa [show (2 : Nat) ^ 55 = 36028797018963968 by decide] at q1

end Go.Proofs.YtgegjhkiiejhlaaDoor

/- Contract of times.sizeOf. -/
namespace Go.Proofs.YtgegjhkiiejhlaaDoor
open Go.RowKit

end Go.Proofs.YtgegjhkiiejhlaaDoor

/- Contracts of times.sizeOf of any number, divFinite. -/
namespace Go.Proofs.YtgegjhkiiejhlaaDoor
open Go.RowKit

/-- The limbs of a dyadic number at hand. -/
theorem IsDy.limbs {w : World} {n : Bool} {a : Option Addr} {l c : Nat} {X m Y : Int} (h : IsDy w (.agg #[.bool n, .slice a l c, .int .i64 X]) m Y) (hm : m.natAbs < TOP) :
    ∃ L, l = L.length ∧ LimbsAt w a c L ∧ rightB false L = true ∧ val L = m.natAbs ∧ L.length ≤ 512 := by
  obtain ⟨n', a', c', L, e1, h1, h2, h3, h4, h5⟩ := h.right hm
  simp only [Value.agg.injEq, Array.mk.injEq, List.cons.injEq, Value.bool.injEq, Value.slice.injEq, and_true] at e1
  obtain ⟨rfl, ⟨rfl, e2, rfl⟩, _⟩ := e1
  have hr : rightB false L = true := by
    simp only [rightB, Bool.and_eq_true, decide_eq_true_eq, Bool.not_eq_true', Bool.and_eq_false_iff, decide_eq_false_iff_not, Bool.or_eq_true] at h2 ⊢
    exact ⟨⟨h2.1.1, Or.inr trivial⟩, h2.2⟩
  exact ⟨L, e2, h1, hr, by rw [← h3, natAbs_sval], h4⟩

theorem small6 {B : Nat} {w : World} {v : Value} {x : Int} (hv : IsNum B w v x) (h0 : -9223372036854775808 ≤ x) (h1 : x ≤ 9223372036854775807) :
    Calls Tryd.prog 76 #[v] w fun e w' => e = .returned (.tuple #[.int .i64 x, .int .i64 0]) ∧ Below w.heap.size w w' := by
  obtain ⟨na, ao, ca, A, rfl, a1, a2, a3, a4⟩ := hv.right (small_TOP _ (by omega))
  have := small_any na ao ca A w a1 (by omega)
  have hf : fits64 x = true := by unfold fits64; rw [decide_eq_true (by omega)]
  rwa [show smV na A = x by unfold smV; rw [a2, a3, hf]; rfl, show smE na A = 0 by unfold smE; rw [a2, a3, hf]; rfl] at this

theorem lt57 {S : Nat} (h : S < 144115188075855872) : S < 2 ^ 57 := by
  have : (2 : Nat) ^ 57 = 144115188075855872 := by decide
  omega

theorem pS_def (a b : Nat) : stk (dS a * 2 ^ 54) (dS b) = pS a b := by unfold pS; rfl
theorem dT_in (b : Nat) (hb : b < 18446744073709551616) (hf : fFin b = true) (h0 : fK b ≠ 0) : -1100 ≤ dT b ∧ dT b ≤ 1100 := by
  obtain ⟨x1, x2, x3, x4, x5, x6, x7, x8⟩ := dS_facts b hb hf h0
  unfold dT
  omega

end Go.Proofs.YtgegjhkiiejhlaaDoor

