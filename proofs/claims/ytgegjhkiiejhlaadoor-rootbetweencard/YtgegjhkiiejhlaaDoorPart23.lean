/- Part 23 of the texts. -/
import Derived.Test.YtgegjhkiiejhlaaDoorPart04
import Derived.Test.YtgegjhkiiejhlaaDoorPart11
import Derived.Test.YtgegjhkiiejhlaaDoorPart12
import Derived.BigQuiet
import Derived.Test.YtgegjhkiiejhlaaDoorPart13
import Derived.Test.YtgegjhkiiejhlaaDoorPart22
import Derived.Test.YtgegjhkiiejhlaaDoorPart20
import Derived.Test.YtgegjhkiiejhlaaDoorPart19
/- Contracts of package root: next, reckon, Whole. -/
namespace Go.Proofs.YtgegjhkiiejhlaaDoor
open Go.RowKit

/-- Block b is a root as far as it is reckoned. -/
def BoxP (w : World) (b : Nat) (x y : Value) : Prop := w.heap[b]? = some (.cells #[x, y] 52 (0, 0))
theorem BoxP.c0 {w : World} {b : Nat} {x y : Value} (h : BoxP w b x y) : w.cell? ⟨b, 0, none⟩ = some x := by rw [cell_of_row w b 0 _ _ _ h]; rfl
theorem BoxP.c1 {w : World} {b : Nat} {x y : Value} (h : BoxP w b x y) : w.cell? ⟨b, 1, none⟩ = some y := by rw [cell_of_row w b 1 _ _ _ h]; rfl
theorem BoxP.free {w : World} {b : Nat} {x y : Value} (h : BoxP w b x y) (j : Nat) : w.frozen? ⟨b, j, none⟩ = false := frozen_of_row w b j _ _ h
theorem BoxP.lt {w : World} {b : Nat} {x y : Value} (h : BoxP w b x y) : b < w.heap.size := (Array.getElem?_eq_some_iff.1 h).1
theorem BoxP.all {w w' : World} {b : Nat} {x y : Value} (h : BoxP w b x y) (hb : Below w.heap.size w w') : BoxP w' b x y := (hb.block b h.lt).trans h
theorem BoxP.new (w : World) (x y : Value) : BoxP (w.alloc (.cells #[x, y] 52)) w.heap.size x y := heap_alloc_new w _

theorem or_pair (s p : Nat) (hs : s < 144115188075855872) (hp : p < 4) : bits BinOp.or IntKind.u64 ((s : Int) * 4) (p : Int) = ((4 * s + p : Nat) : Int) := by
  have e : (s : Int) * 4 = ((s * 2 ^ 2 : Nat) : Int) := by omega
  rw [e, u64_or_nat (s * 2 ^ 2) p (by omega) (by omega), Nat.or_comm, or_above p s 2 (by omega)]
  congr 1
  omega
theorem or_one (x : Nat) (h : x < 144115188075855872) : bits BinOp.or IntKind.u64 ((x : Int) * 2) 1 = ((2 * x + 1 : Nat) : Int) := by
  have e : (x : Int) * 2 = ((x * 2 ^ 1 : Nat) : Int) := by omega
  rw [e]
  refine (u64_or_nat (x * 2 ^ 1) 1 (by omega) (by omega)).trans ?_
  rw [Nat.or_comm, or_above 1 x 1 (by omega)]
  congr 1
  omega

theorem BoxP.put {w : World} {b : Nat} {x y : Value} (h : BoxP w b x y) (u u' : Value) : BoxP ((w.setCell ⟨b, 0, none⟩ u).setCell ⟨b, 1, none⟩ u') b u u' := by
  have h1 := heap_setCell_same w b 0 _ _ u h
  have h2 := heap_setCell_same (w.setCell ⟨b, 0, none⟩ u) b 1 _ _ u' h1
  unfold BoxP
  rw [h2]
  simp
theorem BoxP.oth {w : World} {b g : Nat} {x y : Value} (h : BoxP w b x y) (hne : b ≠ g) (u u' : Value) : BoxP ((w.setCell ⟨g, 0, none⟩ u).setCell ⟨g, 1, none⟩ u') b x y :=
  (Below.heap_setCell _ ⟨g, 1, none⟩ u' b hne).trans ((Below.heap_setCell w ⟨g, 0, none⟩ u b hne).trans h)
theorem below_putP {B g : Nat} {a w : World} (h : Below B a w) (hg : B ≤ g) (u u' : Value) : Below B a ((w.setCell ⟨g, 0, none⟩ u).setCell ⟨g, 1, none⟩ u') := (h.setCell hg u).setCell hg u'

set_option maxRecDepth 20000 in
set_option maxHeartbeats 4000000 in
theorem pnext_n (r s p x y z : Nat) (w : World) (hr : r < 18014398509481984) (hs : s ≤ 2 * r) (hc : (x : Int) < (y : Int))
    (o1 : bits BinOp.or IntKind.u64 ((s : Int) * 4) (p : Int) = (x : Int)) (o2 : bits BinOp.or IntKind.u64 ((r : Int) * 2 * 2) 1 = (y : Int)) (hz : (r : Int) * 2 = (z : Int)) :
    Calls Tryd.prog 51 #[.agg #[.int .u64 r, .int .u64 s], .int .u64 p] w fun e w' => e = .returned (.agg #[.int .u64 (z : Nat), .int .u64 (x : Nat)]) ∧ Below w.heap.size w w' := by
  have hc' := decide_eq_true hc
  have HZ := hide hz
  clear hz
  go_enter Tryd.func51, Tryd.ntmps51
  go_wp2
  go_quiet (fail)
  go_wp2
  rw [unhide HZ]
  refine bodyPost_ret (v := .agg #[.int .u64 (z : Nat), .int .u64 (x : Nat)]) (by simp [results, Tryd.results51, go_sem]) rfl ⟨rfl, ?_⟩
  exact (((below_drewN (((Below.refl _ _).alloc (Nat.le_refl _) _).alloc (by simp) _) _).setCell (by simp) _).setCell (by simp) _)

set_option maxRecDepth 20000 in
set_option maxHeartbeats 4000000 in
theorem pnext_m (r s p x y z d : Nat) (w : World) (hr : r < 18014398509481984) (hs : s ≤ 2 * r) (hc : ¬ (x : Int) < (y : Int)) (hd : (x : Int) - (y : Int) = (d : Int))
    (o1 : bits BinOp.or IntKind.u64 ((s : Int) * 4) (p : Int) = (x : Int)) (o2 : bits BinOp.or IntKind.u64 ((r : Int) * 2 * 2) 1 = (y : Int)) (o3 : bits BinOp.or IntKind.u64 ((r : Int) * 2) 1 = (z : Int)) (hx : x < 18446744073709551616) :
    Calls Tryd.prog 51 #[.agg #[.int .u64 r, .int .u64 s], .int .u64 p] w fun e w' => e = .returned (.agg #[.int .u64 (z : Nat), .int .u64 (d : Nat)]) ∧ Below w.heap.size w w' := by
  have hc' := decide_eq_false hc
  have HD := hide hd
  clear hd
  go_enter Tryd.func51, Tryd.ntmps51
  go_wp2
  go_quiet (fail)
  go_wp2
  rw [unhide HD]
  refine bodyPost_ret (v := .agg #[.int .u64 (z : Nat), .int .u64 (d : Nat)]) (by simp [results, Tryd.results51, go_sem]) rfl ⟨rfl, ?_⟩
  exact (((below_drewN (((Below.refl _ _).alloc (Nat.le_refl _) _).alloc (by simp) _) _).setCell (by simp) _).setCell (by simp) _)

end Go.Proofs.YtgegjhkiiejhlaaDoor

/- Contracts of package root: reckon, Whole, rootBehind. -/
namespace Go.Proofs.YtgegjhkiiejhlaaDoor
open Go.RowKit

set_option maxRecDepth 20000 in
set_option maxHeartbeats 4000000 in
theorem reckon_ways (n : Nat) (P R S : Nat → Nat) (w : World) (h0 : R 0 = 0 ∧ S 0 = 0)
    (C : ∀ i, i < 32 → ∀ w', Calls Tryd.prog 51 #[.agg #[.int .u64 (R i : Nat), .int .u64 (S i : Nat)], .int .u64 (P i : Nat)] w' fun e w'' => e = .returned (.agg #[.int .u64 (R (i + 1) : Nat), .int .u64 (S (i + 1) : Nat)]) ∧ Below w'.heap.size w' w'')
    (hP : ∀ i, i < 32 → bits .and .u64 ((n : Int) / 2 ^ (2 * (31 - i))) 3 = (P i : Int)) :
    Calls Tryd.prog 28 #[.int .u64 n] w fun e w' => e = .returned (.agg #[.int .u64 (R 32 : Nat), .int .u64 (S 32 : Nat)]) ∧ Below w.heap.size w w' := by
  have H0 := hide h0; have HC := hide C; have HP := hide hP
  clear h0 C hP
  go_enter Tryd.func28, Tryd.ntmps28
  go_wp2
  go_loopw [6] (fun i wr => ∃ k : Nat, k ≤ 32 ∧ i = .int .i64 k ∧ Hid (BoxP wr w.heap.size (.int .u64 0) (.int .u64 0)) ∧ Hid (BoxP wr (w.heap.size + 1) (.int .u64 (R k : Nat)) (.int .u64 (S k : Nat))) ∧ Hid (Below w.heap.size w wr)) (fun i _ => 32 - (intOf i).toNat)
  case atStart =>
    have h := unhide H0
    refine ⟨0, by omega, rfl, hide ?_, hide ?_, hide (((Below.refl _ _).alloc (Nat.le_refl _) _).alloc (by simp) _)⟩
    · exact (BoxP.new w (.int .u64 0) (.int .u64 0)).all ((Below.refl _ _).alloc (Nat.le_refl _) _)
    · rw [h.1, h.2]
      have := BoxP.new (w.alloc (.cells #[.int .u64 0, .int .u64 0] 52)) (.int .u64 0) (.int .u64 0)
      simpa using this
  case round =>
    obtain ⟨k, hk, rfl, hx, hy, hb⟩ := hrel
    by_cases hlt : k < 32
    · have K1 := hide (unhide HC k hlt)
      have hp := unhide HP k hlt
      have y0 := (unhide hy).c0; have y1 := (unhide hy).c1; have f0 := (unhide hy).free 0; have f1 := (unhide hy).free 1
      have b0 : (0 : Int) ≤ (k : Int) := by omega
      have b1 : (k : Int) < 32 := by omega
      obtain ⟨d, hd⟩ : ∃ d : Nat, d = 2 * (31 - k) := ⟨_, rfl⟩
      have e1 : IntKind.i64.wrap (31 - (k : Int)) = ((31 - k : Nat) : Int) := by rw [wrap_small _ (by omega)]; omega
      have e2 : IntKind.i64.wrap (2 * ((31 - k : Nat) : Int)) = (d : Int) := by rw [wrap_small _ (by omega)]; omega
      have d0 : d ≤ 63 := by omega
      rw [← hd] at hp
      have HD := hide hd
      clear HC HP H0 hd
      generalize 31 - k = c at *
      generalize R k = r at *
      generalize S k = s at *
      generalize P k = p at *
      obtain ⟨r1, hr1⟩ : ∃ x, x = R (k + 1) := ⟨_, rfl⟩
      obtain ⟨s1, hs1⟩ : ∃ x, x = S (k + 1) := ⟨_, rfl⟩
      rw [← hr1, ← hs1] at K1
      have NR := hide hr1.symm; have NS := hide hs1.symm
      clear hr1 hs1
      go_wp2_with fail
      have xd : BoxP wr.drew w.heap.size (.int .u64 0) (.int .u64 0) := unhide hx
      have yd : BoxP wr.drew (w.heap.size + 1) (.int .u64 (r : Nat)) (.int .u64 (s : Nat)) := unhide hy
      have hbd : Below w.heap.size w wr.drew := (unhide hb).drew
      have XD := hide xd; have YD := hide yd; have BD := hide hbd
      clear xd yd hbd
      go_region_with (go_at_call 51; refine (unhide K1 _).mono ?_; rintro e w1 ⟨rfl, hb1⟩; have x1 := (unhide YD).all hb1; have B1 := hide ((unhide BD).trans (hb1.mono (unhide BD).size)); have X1 := hide ((unhide XD).all hb1); clear hb1 y0 y1 f0 f1; have y0 := x1.c0; have y1 := x1.c1; have f0 := x1.free 0; have f1 := x1.free 1; have YB := hide x1; clear x1)
      go_wp2
      go_roundw
      case rel =>
        refine ⟨k + 1, by omega, by go_num, hide ?_, hide ?_, hide ?_⟩
        · exact (unhide X1).oth (by omega) _ _
        · rw [unhide NR, unhide NS]
          exact (unhide YB).put _ _
        · exact below_putP (unhide B1) (by omega) _ _
      case measure => simp [intOf]; omega
    · have hk2 : k = 32 := by omega
      subst hk2
      have y0 := (unhide hy).c0; have y1 := (unhide hy).c1
      have x0 := (unhide hx).c0; have x1 := (unhide hx).c1; have f0 := (unhide hx).free 0; have f1 := (unhide hx).free 1
      clear HC HP H0
      obtain ⟨r, hr⟩ : ∃ x, x = R 32 := ⟨_, rfl⟩
      obtain ⟨s, hs⟩ : ∃ x, x = S 32 := ⟨_, rfl⟩
      rw [← hr] at y0
      rw [← hs] at y1
      have HR := hide hr; have HS := hide hs
      clear hr hs
      go_wp2
      refine bodyPost_ret (v := .agg #[.int .u64 (r : Nat), .int .u64 (s : Nat)]) ?_ rfl ⟨by rw [unhide HR, unhide HS], below_putP (unhide hb) (Nat.le_refl _) _ _⟩
      have z := (unhide hx).put (.int .u64 (r : Nat)) (.int .u64 (s : Nat))
      have z0 := z.c0; have z1 := z.c1
      simp [results, Tryd.results28, go_sem, z0, z1]

set_option maxRecDepth 20000 in
set_option maxHeartbeats 2000000 in
theorem rwhole_ways (n r s : Nat) (b : Bool) (w : World) (hb : ((s : Int) == 0) = b)
    (C : ∀ w', Calls Tryd.prog 28 #[.int .u64 n] w' fun e w'' => e = .returned (.agg #[.int .u64 (r : Nat), .int .u64 (s : Nat)]) ∧ Below w'.heap.size w' w'') :
    Calls Tryd.prog 9 #[.int .u64 n] w fun e w' => e = .returned (.tuple #[.int .u64 (r : Nat), .bool b]) ∧ Below w.heap.size w w' := by
  have HC := hide C
  clear C
  go_enter Tryd.func9, Tryd.ntmps9
  go_wp2_with fail
  refine (unhide HC _).mono ?_
  rintro e w1 ⟨rfl, hb1⟩
  have x := BoxP.new w1 (.int .u64 (r : Nat)) (.int .u64 (s : Nat))
  have y0 := x.c0; have y1 := x.c1
  have B1 := hide (hb1.trans (((Below.refl _ _).alloc (Nat.le_refl _) (.cells #[.int .u64 (r : Nat), .int .u64 (s : Nat)] 52)).mono hb1.size))
  clear HC hb1 x
  go_wp2
  go_quiet (fail)
  go_wp2
  exact bodyPost_ret (v := .tuple #[.int .u64 (r : Nat), .bool b]) (by simp [results, Tryd.results9, go_sem]) rfl ⟨rfl, below_drewN (unhide B1) _⟩

set_option maxRecDepth 20000 in
set_option maxHeartbeats 4000000 in
theorem rootBehind_ways (n X : Nat) (R S : Nat → Nat) (w : World)
    (C1 : ∀ w', Calls Tryd.prog 28 #[.int .u64 n] w' fun e w'' => e = .returned (.agg #[.int .u64 (R 0 : Nat), .int .u64 (S 0 : Nat)]) ∧ Below w'.heap.size w' w'')
    (C2 : ∀ i, i < 22 → ∀ w', Calls Tryd.prog 51 #[.agg #[.int .u64 (R i : Nat), .int .u64 (S i : Nat)], .int .u64 0] w' fun e w'' => e = .returned (.agg #[.int .u64 (R (i + 1) : Nat), .int .u64 (S (i + 1) : Nat)]) ∧ Below w'.heap.size w' w'')
    (hR : R 22 < 18014398509481984) (hX : X = 2 * R 22 + (if S 22 = 0 then 0 else 1)) :
    Calls Tryd.prog 56 #[.int .u64 n] w fun e w' => e = .returned (.int .i64 (X : Nat)) ∧ Below w.heap.size w w' := by
  have K1 := hide C1; have K2 := hide C2; have HX := hide hX; have HR := hide hR
  clear C1 C2 hX hR
  go_enter Tryd.func56, Tryd.ntmps56
  go_wp2_with fail
  refine (unhide K1 _).mono ?_
  rintro e w1 ⟨rfl, hb1⟩
  have x := hide (BoxP.new w1 (.int .u64 (R 0 : Nat)) (.int .u64 (S 0 : Nat)))
  have B1 := hide (hb1.trans (((Below.refl _ _).alloc (Nat.le_refl _) (.cells #[.int .u64 (R 0 : Nat), .int .u64 (S 0 : Nat)] 52)).mono hb1.size))
  have hg := hb1.size
  clear K1 hb1
  go_wp2
  go_loopw [7] (fun i wr => ∃ k : Nat, k ≤ 22 ∧ i = .int .i64 k ∧ Hid (BoxP wr w1.heap.size (.int .u64 (R k : Nat)) (.int .u64 (S k : Nat))) ∧ Hid (Below w.heap.size w wr)) (fun i _ => 22 - (intOf i).toNat)
  case atStart => exact ⟨0, by omega, rfl, x, B1⟩
  case round =>
    obtain ⟨k, hk, rfl, hy, hb⟩ := hrel
    clear x B1
    by_cases hlt : k < 22
    · have C := hide (unhide K2 k hlt)
      have y0 := (unhide hy).c0; have y1 := (unhide hy).c1
      have b0 : (0 : Int) ≤ (k : Int) := by omega
      have b1 : (k : Int) < 22 := by omega
      obtain ⟨r1, hr1⟩ : ∃ x, x = R (k + 1) := ⟨_, rfl⟩
      obtain ⟨s1, hs1⟩ : ∃ x, x = S (k + 1) := ⟨_, rfl⟩
      rw [← hr1, ← hs1] at C
      have NR := hide hr1.symm; have NS := hide hs1.symm
      clear K2 HX HR hr1 hs1
      generalize R k = r at *
      generalize S k = s at *
      go_wp2_with fail
      refine (unhide C _).mono ?_
      rintro e w2 ⟨rfl, hb2⟩
      have x1 := (unhide hy).all hb2
      have B2 := hide ((unhide hb).trans (hb2.mono (unhide hb).size))
      clear hb2 y0 y1 hy hb C
      have y0 := x1.c0; have y1 := x1.c1; have f0 := x1.free 0; have f1 := x1.free 1
      have YB := hide x1
      clear x1
      go_wp2
      go_roundw
      case rel =>
        refine ⟨k + 1, by omega, by go_num, hide ?_, hide (below_putP (unhide B2) (by omega) _ _)⟩
        rw [unhide NR, unhide NS]
        exact (unhide YB).put _ _
      case measure => simp [intOf]; omega
    · have hk2 : k = 22 := by omega
      subst hk2
      have y0 := (unhide hy).c0; have y1 := (unhide hy).c1
      have r0 := unhide HR
      clear K2 HR
      generalize R 22 = r at *
      generalize S 22 = s at *
      by_cases c : 0 < s
      · have M := hide (show X = 2 * r + 1 by rw [unhide HX, if_neg (by omega)])
        have c' : (s : Int) > 0 := by omega
        clear HX
        go_wp2
        go_ret
        exact ⟨ret_int (by rw [unhide M]; omega), unhide hb⟩
      · have M := hide (show X = 2 * r by rw [unhide HX, if_pos (by omega)]; rfl)
        have c' : ¬ (s : Int) > 0 := by omega
        clear HX
        go_wp2
        go_ret
        exact ⟨ret_int (by rw [unhide M]; omega), unhide hb⟩

end Go.Proofs.YtgegjhkiiejhlaaDoor

/- Package root: next, reckon, Whole, rootBehind of any number. -/
namespace Go.Proofs.YtgegjhkiiejhlaaDoor
open Go.RowKit

theorem pnext_any (N p : Nat) (w : World) (hp : p < 4) (hN : isq N < 18014398509481984) :
    Calls Tryd.prog 51 #[.agg #[.int .u64 (isq N : Nat), .int .u64 (rest7 N : Nat)], .int .u64 (p : Nat)] w fun e w' => e = .returned (.agg #[.int .u64 (isq (4 * N + p) : Nat), .int .u64 (rest7 (4 * N + p) : Nat)]) ∧ Below w.heap.size w w' := by
  obtain ⟨h1, h2⟩ := next7 N p hp
  have hs := rest7_le N
  have o1 := or_pair (rest7 N) p (by omega) hp
  have o2 := or_one (2 * isq N) (by omega)
  have o3 := or_one (isq N) (by omega)
  rw [show ((2 * isq N : Nat) : Int) = (isq N : Int) * 2 by omega] at o2
  by_cases hc : 4 * rest7 N + p < 4 * isq N + 1
  · rw [(h1 hc).1, (h1 hc).2]
    exact pnext_n (isq N) (rest7 N) p (4 * rest7 N + p) (2 * (2 * isq N) + 1) (2 * isq N) w hN hs (by omega) o1 o2 (by omega)
  · rw [(h2 hc).1, (h2 hc).2]
    exact pnext_m (isq N) (rest7 N) p (4 * rest7 N + p) (2 * (2 * isq N) + 1) (2 * isq N + 1) (4 * rest7 N + p - (4 * isq N + 1)) w hN hs (by omega) (by omega) o1 o2 o3 (by omega)

theorem and_three (x : Nat) (h : x < 18446744073709551616) : bits .and .u64 (x : Int) 3 = ((x % 4 : Nat) : Int) := by
  have h1 := bits_and_u64_nat x 3 h (by decide)
  refine h1.trans ?_
  have : x &&& 3 = x % 4 := by
    have := Nat.and_two_pow_sub_one_eq_mod x 2
    simpa using this
  rw [this]

theorem reckon_any (n : Nat) (w : World) (hn : n < 18446744073709551616) :
    Calls Tryd.prog 28 #[.int .u64 n] w fun e w' => e = .returned (.agg #[.int .u64 (isq n : Nat), .int .u64 (rest7 n : Nat)]) ∧ Below w.heap.size w w' := by
  have h := reckon_ways n (fun i => n / 2 ^ (2 * (31 - i)) % 4) (fun i => isq (top7 n i)) (fun i => rest7 (top7 n i)) w ?_ ?_ ?_
  · rw [top7_end] at h
    exact h
  · rw [top7_zero n hn]
    exact ⟨rfl, rfl⟩
  · intro i hi w'
    have := pnext_any (top7 n i) (n / 2 ^ (2 * (31 - i)) % 4) w' (by omega) (by have := isq_top7 n i hn; omega)
    rw [← top7_succ n i hi] at this
    exact this
  · intro i hi
    have e : (n : Int) / 2 ^ (2 * (31 - i)) = ((n / 2 ^ (2 * (31 - i)) : Nat) : Int) := by simp
    rw [e]
    exact and_three _ (Nat.lt_of_le_of_lt (Nat.div_le_self _ _) hn)

theorem rwhole_any (n : Nat) (w : World) (hn : n < 18446744073709551616) :
    Calls Tryd.prog 9 #[.int .u64 n] w fun e w' => e = .returned (.tuple #[.int .u64 (isq n : Nat), .bool (decide (isq n * isq n = n))]) ∧ Below w.heap.size w w' := by
  refine rwhole_ways n (isq n) (rest7 n) _ w ?_ (fun w' => reckon_any n w' hn)
  have := rest7_zero n
  by_cases h : isq n * isq n = n
  · rw [decide_eq_true h, this.2 h]; rfl
  · rw [decide_eq_false h]
    have : rest7 n ≠ 0 := fun e => h (this.1 e)
    simp; omega

theorem rootBehind_any (n : Nat) (w : World) (hn : n < 18446744073709551616) :
    Calls Tryd.prog 56 #[.int .u64 n] w fun e w' => e = .returned (.int .i64 (rS (n * 4 ^ 22) : Nat)) ∧ Below w.heap.size w w' := by
  refine rootBehind_ways n _ (fun i => isq (n * 4 ^ i)) (fun i => rest7 (n * 4 ^ i)) w ?_ ?_ (isq_low7 n 22 hn (by decide)) ?_
  · intro w'
    have := reckon_any n w' hn
    show Calls Tryd.prog 28 #[.int .u64 n] w' fun e w'' => e = .returned (.agg #[.int .u64 (isq (n * 4 ^ 0) : Nat), .int .u64 (rest7 (n * 4 ^ 0) : Nat)]) ∧ Below w'.heap.size w' w''
    rw [Nat.pow_zero, Nat.mul_one]
    exact this
  · intro i hi w'
    have := pnext_any (n * 4 ^ i) 0 w' (by decide) (isq_low7 n i hn (by omega))
    rw [← low7_succ] at this
    exact this
  · unfold rS
    have := rest7_zero (n * 4 ^ 22)
    by_cases h : isq (n * 4 ^ 22) * isq (n * 4 ^ 22) = n * 4 ^ 22
    · rw [if_pos h, if_pos (this.2 h)]
    · rw [if_neg h, if_neg (fun e => h (this.1 e))]

end Go.Proofs.YtgegjhkiiejhlaaDoor

/- Contracts of package times: quotient. -/
namespace Go.Proofs.YtgegjhkiiejhlaaDoor
open Go.RowKit

theorem lQ_54 (x y i : Nat) (h2 : x < 2 * y) (hi : i < 55) : lQ x y i < 18014398509481984 := by
  have q1 := lQ_lt x y i h2
  have q2 : (2 : Nat) ^ i ≤ 2 ^ 54 := Nat.pow_le_pow_right (by decide) (by omega)
  rw [show (2 : Nat) ^ 54 = 18014398509481984 by decide] at q2
  exact Nat.lt_of_lt_of_le q1 q2
theorem lQ_55 (x y : Nat) (h2 : x < 2 * y) : lQ x y 55 < 36028797018963968 := by
  have q1 := lQ_lt x y 55 h2
  rwa [show (2 : Nat) ^ 55 = 36028797018963968 by decide] at q1

end Go.Proofs.YtgegjhkiiejhlaaDoor

/- Contracts of package sum: nought, addFinite, Add, Sub. -/
namespace Go.Proofs.YtgegjhkiiejhlaaDoor
open Go.RowKit

def aO (s t : Bool) : Nat := if (s && t) = true then 9223372036854775808 else 0

theorem dy_len {w : World} {n : Bool} {a : Option Addr} {l c : Nat} {e m X : Int} (h : IsDy w (.agg #[.bool n, .slice a l c, .int .i64 e]) m X) : ((l : Int) == 0) = decide (m = 0) := by
  obtain ⟨n', a', c', L', e1, _, e3, _, e5, _⟩ := h.parts
  simp only [Value.agg.injEq, Array.mk.injEq, List.cons.injEq, Value.slice.injEq] at e1
  have e2 := e1.2.1.2.1
  by_cases h0 : m = 0
  · have : L' = [] := (val_zero_of_canon L' e3).1 (by rw [e5, h0]; rfl)
    rw [decide_eq_true h0, e2, this]; rfl
  · have : L'.length ≠ 0 := fun h1 => by
      have : L' = [] := List.length_eq_zero_iff.1 h1
      rw [this] at e5
      simp [val] at e5
      omega
    rw [decide_eq_false h0]; simp; omega

end Go.Proofs.YtgegjhkiiejhlaaDoor

