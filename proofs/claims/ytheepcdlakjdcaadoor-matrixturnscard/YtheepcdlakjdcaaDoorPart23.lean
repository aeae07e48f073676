/- Part 23 of the texts. -/
import Derived.Test.YtheepcdlakjdcaaDoorPart22
import Derived.Deep.RegionLaw
import Derived.Deep.RegionWith
/- The reference of layer 10: With, Copy, Stack, Same, Eye, Col; the law's told, form. -/
namespace Go.Proofs.YtheepcdlakjdcaaDoor
open Go.RowKit
attribute [local go_sem ↓] Go.wp_at_zero Go.wp_at_succ
theorem rwith_any (r c cap i k x : Nat) (ao : Option Addr) (S : List Nat) (w : World) (h : Mx w ao cap r c S) (hi : i < r) (hk : k < c) (hx : x < 18446744073709551616) :
    Calls Tryd.prog 38 #[.agg #[.int .i64 r, .int .i64 c, .slice ao S.length cap], .int .i64 i, .int .i64 k, .int .u64 x] w fun e w' => ∃ v, e = .returned v ∧ NewM w.heap.size w' r c (S.set (i * c + k) x) v ∧ Below w.heap.size w w' := by
  have hp : i * c + k < S.length := by rw [h.2.1]; exact place_lt hi hk
  have h36 := h.small
  have b0 := below_alloc9 w (.cells #[.int .i64 r, .int .i64 c, .slice ao S.length cap] 24)
  have s0 := size_alloc9 w (.cells #[.int .i64 r, .int .i64 c, .slice ao S.length cap] 24)
  have b1 := below_alloc9 (w.alloc (.cells #[.int .i64 r, .int .i64 c, .slice ao S.length cap] 24)) (.cells #[.int .i64 0, .int .i64 0, .slice none 0 0] 24)
  have s1 := size_alloc9 (w.alloc (.cells #[.int .i64 r, .int .i64 c, .slice ao S.length cap] 24)) (.cells #[.int .i64 0, .int .i64 0, .slice none 0 0] 24)
  have bb := b0.trans (b1.mono b0.size)
  have b2 := below_alloc9 ((w.alloc (.cells #[.int .i64 r, .int .i64 c, .slice ao S.length cap] 24)).alloc (.cells #[.int .i64 0, .int .i64 0, .slice none 0 0] 24)) (.cells #[] 26)
  have on := OwnB.nil ((w.alloc (.cells #[.int .i64 r, .int .i64 c, .slice ao S.length cap] 24)).alloc (.cells #[.int .i64 0, .int .i64 0, .slice none 0 0] 24)) (w.heap.size + 1 + 1) (by rw [s1, s0]; omega)
  have bits := (h.1.below bb).below b2
  obtain ⟨po, pc, w1, run, own, gr⟩ := copy_bits _ (w.heap.size + 1 + 1) 22 ao cap (mxL S) _ bits (by rw [mxL_len]; omega) on.1 (by simp)
  rw [natL_mxL, mxL_len] at *
  have bel := (b2.mono (Nat.le_of_eq (by rw [s1, s0]))).grown gr (by simp) (fun g hg => by cases hg; rw [s1, s0]; exact Nat.le_refl _)
  rw [s1, s0] at run
  obtain ⟨g, hg, _⟩ := own.at hp
  exact rwith_of r c S.length cap i k (i * c) x g ao po pc S w w1 rfl (cast_mul10 i c) hp h36 hx run own bel hg

set_option maxRecDepth 20000 in
set_option maxHeartbeats 2000000 in
theorem rsame_any (r c : Int) (ao bo : Option Addr) (cap d : Nat) (S : List Nat) (w : World) (h : BitsAt w ao cap (mxL S)) (h2 : BitsAt w bo d (mxL S)) (hl : S.length ≤ 1000000) :
    Calls Tryd.prog 30 #[.agg #[.int .i64 r, .int .i64 c, .slice ao S.length cap], .agg #[.int .i64 r, .int .i64 c, .slice bo S.length d]] w fun e w' => e = .returned (.bool true) ∧ Below w.heap.size w w' := by
  have b0 := below_alloc9 w (.cells #[.int .i64 r, .int .i64 c, .slice ao S.length cap] 24)
  have b1 := below_alloc9 (w.alloc (.cells #[.int .i64 r, .int .i64 c, .slice ao S.length cap] 24)) (.cells #[.int .i64 r, .int .i64 c, .slice bo S.length d] 24)
  have bb := b0.trans (b1.mono b0.size)
  have K := hide (same_any ao bo cap d (mxL S) _ (h.below bb) (h2.below bb) (by rw [mxL_len]; omega))
  rw [mxL_len] at K
  have HB := hide bb
  clear b0 b1 bb h h2
  generalize S.length = n at *
  go_enter Tryd.func30, Tryd.ntmps30
  go_wp2_with fail
  refine Calls.mono (unhide K) ?_
  rintro e w1 ⟨rfl, hb1⟩
  clear K
  go_wp2
  go_ret
  exact ⟨rfl, (unhide HB).trans (hb1.mono (unhide HB).size)⟩

set_option maxRecDepth 20000 in
set_option maxHeartbeats 2000000 in
theorem form10_any (r c : Int) (ao : Option Addr) (n cap : Nat) (p q : Int) (bo : Option Addr) (m d : Nat) (w : World) :
    Calls Tryd.prog 27 #[.agg #[.int .i64 r, .int .i64 c, .slice ao n cap], .agg #[.int .i64 p, .int .i64 q, .slice bo m d]] w fun e w' => e = .returned (.int .i64 (if (okB r c n && okB p q m) = true then 0 else 1)) ∧ Below w.heap.size w w' := by
  have b0 := below_alloc9 w (.cells #[.int .i64 r, .int .i64 c, .slice ao n cap] 24)
  have b1 := below_alloc9 (w.alloc (.cells #[.int .i64 r, .int .i64 c, .slice ao n cap] 24)) (.cells #[.int .i64 p, .int .i64 q, .slice bo m d] 24)
  have HB := hide (b0.trans (b1.mono b0.size))
  have KB := hide (boxes2 w (.int .i64 r) (.int .i64 c) (.slice ao n cap) (.int .i64 p) (.int .i64 q) (.slice bo m d))
  have K1 := hide (rright_any r c ao n cap ((w.alloc (.cells #[.int .i64 r, .int .i64 c, .slice ao n cap] 24)).alloc (.cells #[.int .i64 p, .int .i64 q, .slice bo m d] 24)))
  simp only [size_alloc9] at K1
  have K2 := hide (fun w' => rright_any p q bo m d w')
  clear b0 b1
  cases h1 : okB r c n
  · rw [h1] at K1
    simp only [Bool.false_and, Bool.false_eq_true, if_false]
    clear h1
    go_enter Tryd.func27, Tryd.ntmps27
    go_wp2_with fail
    refine Calls.mono (unhide K1) ?_
    rintro e w1 ⟨rfl, hb1⟩
    have B1 := hide (unhide KB w1 hb1).1
    clear K1 K2 hb1
    go_wp2
    go_ret
    exact ⟨rfl, unhide B1⟩
  · rw [h1] at K1
    simp only [Bool.true_and]
    clear h1
    cases h2 : okB p q m
    · rw [h2] at K2
      simp only [Bool.false_eq_true, if_false]
      clear h2
      go_enter Tryd.func27, Tryd.ntmps27
      go_wp2_with fail
      refine Calls.mono (unhide K1) ?_
      rintro e w1 ⟨rfl, hb1⟩
      obtain ⟨b1, x1, x2⟩ := unhide KB w1 hb1
      have B1 := hide b1
      have p0 := x2.c0; have p1 := x2.c1; have p2 := x2.c2
      clear K1 hb1 b1 x1 x2
      go_wp2_with fail
      refine (unhide K2 _).mono ?_
      rintro e w2 ⟨rfl, hb2⟩
      clear K2
      go_wp2
      go_ret
      exact ⟨rfl, (unhide B1).trans (hb2.mono (unhide B1).size)⟩
    · rw [h2] at K2
      simp only [if_true]
      clear h2
      go_enter Tryd.func27, Tryd.ntmps27
      go_wp2_with fail
      refine Calls.mono (unhide K1) ?_
      rintro e w1 ⟨rfl, hb1⟩
      obtain ⟨b1, x1, x2⟩ := unhide KB w1 hb1
      have B1 := hide b1
      have p0 := x2.c0; have p1 := x2.c1; have p2 := x2.c2
      clear K1 hb1 b1 x1 x2
      go_wp2_with fail
      refine (unhide K2 _).mono ?_
      rintro e w2 ⟨rfl, hb2⟩
      clear K2
      go_wp2
      go_ret
      exact ⟨rfl, (unhide B1).trans (hb2.mono (unhide B1).size)⟩

end Go.Proofs.YtheepcdlakjdcaaDoor

/- The reference of layer 10: Eye, In. -/
namespace Go.Proofs.YtheepcdlakjdcaaDoor
open Go.RowKit
attribute [local go_sem ↓] Go.wp_at_zero Go.wp_at_succ

/-- A matrix in a variable's box at g, the result's box at gr. -/
structure LpSt (w wr : World) (g gr p q : Nat) (mo : Option Addr) (mc : Nat) (S : List Nat) : Prop where
  bel : Below w.heap.size w wr
  box : BoxM wr g (.int .i64 p) (.int .i64 q) (.slice mo S.length mc)
  res : BoxM wr gr (.int .i64 0) (.int .i64 0) (.slice none 0 0)
  bits : BitsAt wr mo mc (mxL S)
  ne : gr ≠ g
  lo : w.heap.size ≤ g
theorem LpSt.all {w wr w' : World} {g gr p q : Nat} {mo : Option Addr} {mc : Nat} {S : List Nat} (h : LpSt w wr g gr p q mo mc S) (hb : Below wr.heap.size wr w') : LpSt w w' g gr p q mo mc S :=
  ⟨h.bel.trans (hb.mono h.bel.size), h.box.all hb, h.res.all hb, h.bits.below hb, h.ne, h.lo⟩
theorem LpSt.put {w wr : World} {g gr p q : Nat} {mo : Option Addr} {mc : Nat} {S : List Nat} (h : LpSt w wr g gr p q mo mc S) {no : Option Addr} {nc : Nat} {T : List Nat} (hT : BitsAt wr no nc (mxL T)) :
    LpSt w (((wr.setCell ⟨g, 0, none⟩ (.int .i64 p)).setCell ⟨g, 1, none⟩ (.int .i64 q)).setCell ⟨g, 2, none⟩ (.slice no T.length nc)) g gr p q no nc T :=
  ⟨below_putM h.bel h.lo _ _ _, h.box.put _ _ _, ((h.res.other (p := ⟨g, 0, none⟩) h.ne _).other (p := ⟨g, 1, none⟩) h.ne _).other (p := ⟨g, 2, none⟩) h.ne _, hT.putM h.box _ _ _, h.ne, h.lo⟩

theorem NewM.any {w : World} {r c : Nat} {S : List Nat} {ao : Option Addr} {cap : Nat} (h : BitsAt w ao cap (mxL S)) : NewM 0 w r c S (.agg #[.int .i64 r, .int .i64 c, .slice ao S.length cap]) := by
  refine ⟨ao, cap, rfl, ?_, h⟩
  rcases h.2.2 with e | ⟨b, off, e1, _, _⟩
  · exact .inl e
  · exact .inr ⟨b, off, e1, Nat.zero_le _⟩

/-- The first j ones of Eye. -/
def eyJ (n j : Nat) : List Nat := mkM n n (fun i k => if k = i ∧ i < j then 4607182418800017408 else 0)
theorem eyJ_0 (n : Nat) : eyJ n 0 = List.replicate (n * n) 0 := by
  rw [mkM_noughts]
  exact mkM_congr (fun i k _ _ => if_neg (by omega))
theorem eyJ_set (n j : Nat) (hj : j < n) : (eyJ n j).set (j * n + j) 4607182418800017408 = eyJ n (j + 1) := by
  unfold eyJ
  rw [mkM_set n n _ _ hj hj]
  refine mkM_congr (fun x y _ _ => ?_)
  by_cases h : x = j ∧ y = j
  · rw [if_pos h, if_pos (by omega)]
  · rw [if_neg h]
    by_cases e : y = x ∧ x < j
    · rw [if_pos e, if_pos (by omega)]
    · rw [if_neg e, if_neg (by omega)]
theorem eyJ_all (n : Nat) : eyJ n n = eyM n := mkM_congr (fun i k hi _ => by
  by_cases e : k = i
  · rw [if_pos ⟨e, hi⟩, if_pos e]
  · rw [if_neg (fun h => e h.1), if_neg e])
theorem eyJ_len (n j : Nat) : (eyJ n j).length = n * n := mkM_len _ _ _

set_option maxRecDepth 20000 in
set_option maxHeartbeats 4000000 in
theorem reye_any (n : Nat) (w : World) (hn : n ≤ 6) :
    Calls Tryd.prog 16 #[.int .i64 n] w fun e w' => ∃ v, e = .returned v ∧ NewM 0 w' n n (eyM n) v ∧ Below w.heap.size w w' := by
  have K1 := hide (fun w' => rzeros_any n n w' hn hn)
  have b0 := below_alloc9 w (.cells #[.int .i64 0, .int .i64 0, .slice none 0 0] 24)
  have X0 := BoxM.new w (.int .i64 0) (.int .i64 0) (.slice none 0 0)
  have s0 := size_alloc9 w (.cells #[.int .i64 0, .int .i64 0, .slice none 0 0] 24)
  have HB0 := hide b0; have HX0 := hide X0; have HS0 := hide s0
  clear b0 X0 s0
  go_enter Tryd.func16, Tryd.ntmps16
  go_wp2_with fail
  refine (unhide K1 _).mono ?_
  rintro e w1 ⟨v, rfl, ⟨mo, mc, rfl, nw, qs⟩, hb1⟩
  have ba := below_alloc9 w1 (.cells #[.int .i64 n, .int .i64 n, .slice mo (List.replicate (n * n) 0).length mc] 24)
  have BB := (unhide HB0).trans (hb1.mono (unhide HB0).size)
  have L0 := hide (show LpSt w (w1.alloc (.cells #[.int .i64 n, .int .i64 n, .slice mo (eyJ n 0).length mc] 24)) w1.heap.size w.heap.size n n mo mc (eyJ n 0) from by
    rw [eyJ_0]
    exact ⟨BB.trans (ba.mono BB.size), BoxM.new w1 _ _ _, ((unhide HX0).all hb1).all ba, qs.below ba, by have := hb1.size; rw [unhide HS0] at this; omega, BB.size⟩)
  rw [← eyJ_0]
  clear K1 hb1 ba BB nw qs HB0 HX0 HS0
  go_wp2_with fail
  generalize w1.heap.size = g at *
  go_loopw [4] (fun i wr => ∃ (j : Nat) (no : Option Addr) (nc : Nat), j ≤ n ∧ i = .int .i64 j ∧ Hid (LpSt w wr g w.heap.size n n no nc (eyJ n j))) (fun i _ => n - (intOf i).toNat)
  case atStart => exact ⟨0, mo, mc, Nat.zero_le _, rfl, L0⟩
  case round =>
    clear L0
    obtain ⟨j, no, nc, hj, rfl, hL⟩ := hrel
    have y0 := (unhide hL).box.c0; have y1 := (unhide hL).box.c1; have y2 := (unhide hL).box.c2
    by_cases hlt : j < n
    · have hjI : (j : Int) < (n : Int) := by omega
      have C := hide (rwith_any n n nc j j 4607182418800017408 no (eyJ n j) _ ⟨(unhide hL).bits, eyJ_len n j, hn, hn⟩ hlt hlt (by decide))
      rw [eyJ_set n j hlt, show ((4607182418800017408 : Nat) : Int) = 4607182418800017408 from rfl] at C
      generalize (eyJ n j).length = l at *
      go_wp2_with fail
      refine Calls.mono (unhide C) ?_
      rintro e w2 ⟨v, rfl, ⟨no', nc', rfl, _, q2⟩, hb2⟩
      have L2 := (unhide hL).all hb2
      have f0 := L2.box.free 0; have f1 := L2.box.free 1; have f2 := L2.box.free 2
      have u0 := L2.box.c0; have u1 := L2.box.c1; have u2 := L2.box.c2
      have L3 := hide (L2.put q2)
      clear C hb2 L2 hL y0 y1 y2 q2
      go_wp2_with fail
      go_round
      case rel => exact ⟨j + 1, no', nc', by omega, by go_num, L3⟩
      case measure => simp [intOf]; omega
    · have hjj : j = n := by omega
      subst hjj
      rw [eyJ_all] at hL y2
      have r0 := (unhide hL).res.c0; have r1 := (unhide hL).res.c1; have r2 := (unhide hL).res.c2
      have f0 := (unhide hL).res.free 0; have f1 := (unhide hL).res.free 1; have f2 := (unhide hL).res.free 2
      have XP := (unhide hL).res.put (.int .i64 j) (.int .i64 j) (.slice no (eyM j).length nc)
      have z0 := XP.c0; have z1 := XP.c1; have z2 := XP.c2
      have Q := hide (BitsAt.putM (unhide hL).bits (unhide hL).res (.int .i64 j) (.int .i64 j) (.slice no (eyM j).length nc))
      have BP := hide (below_putM (unhide hL).bel (Nat.le_refl _) (.int .i64 j) (.int .i64 j) (.slice no (eyM j).length nc))
      clear XP hL
      go_wp2
      exact bodyPost_ret (v := .agg #[.int .i64 j, .int .i64 j, .slice no (eyM j).length nc]) (by simp [results, Tryd.results16, go_sem, z0, z1, z2]) rfl ⟨_, rfl, NewM.any (unhide Q), unhide BP⟩

end Go.Proofs.YtheepcdlakjdcaaDoor

/- The reference of layer 10: In, Copy, Stack, Beside. -/
namespace Go.Proofs.YtheepcdlakjdcaaDoor
open Go.RowKit
attribute [local go_sem ↓] Go.wp_at_zero Go.wp_at_succ
theorem OwnB.least {base base' : Nat} {w : World} {v : Value} {S : List Nat} (h : OwnB base w v S) (hb : base' ≤ base) : OwnB base' w v S := by
  refine ⟨⟨h.1.1, ?_⟩, h.2⟩
  rcases h.1.2 with e | ⟨g, cap, cur, hv, hg, rest⟩
  · exact .inl e
  · exact .inr ⟨g, cap, cur, hv, Nat.le_trans hb hg, rest⟩
end Go.Proofs.YtheepcdlakjdcaaDoor

/- The law of layer 10: awake, spoil. -/
namespace Go.Proofs.YtheepcdlakjdcaaDoor
open Go.RowKit
attribute [local go_sem ↓] Go.wp_at_zero Go.wp_at_succ

/-- Eye of two rows, times itself. -/
theorem eye_two : muM 2 2 2 (eyM 2) (eyM 2) = eyM 2 := mu_eye 2 2 (eyM 2) (mkM_len _ _ _) (by decide)

set_option maxRecDepth 20000 in
set_option maxHeartbeats 4000000 in
theorem awake10_of (S : List Nat) (l : Nat) (w : World) (hl : S.length = l) (hs : l ≤ 36)
    (C1 : ∀ w', Calls Tryd.prog 14 #[.int .i64 2] w' fun e w'' => ∃ v, e = .returned (.tuple #[v, .int .i64 0]) ∧ NewM 0 w'' 2 2 S v ∧ Below w'.heap.size w' w'')
    (C2 : ∀ w' ao cap, Below w.heap.size w w' → BitsAt w' ao cap (mxL S) → Calls Tryd.prog 31 #[.agg #[.int .i64 2, .int .i64 2, .slice ao l cap], .agg #[.int .i64 2, .int .i64 2, .slice ao l cap]] w' fun e w'' => ∃ v, e = .returned (.tuple #[v, .int .i64 0]) ∧ NewM 0 w'' 2 2 S v ∧ Below w'.heap.size w' w'')
    (C3 : ∀ w', Calls Tryd.prog 16 #[.int .i64 2] w' fun e w'' => ∃ v, e = .returned v ∧ NewM 0 w'' 2 2 S v ∧ Below w'.heap.size w' w'') :
    Calls Tryd.prog 11 #[] w fun e w' => e = .returned (.bool true) ∧ Below w.heap.size w w' := by
  have K1 := hide C1; have K2 := hide C2; have K3 := hide C3; have HL := hide hl
  have K4 := hide (fun w' ao bo cap d (h : BitsAt w' ao cap (mxL S)) (h2 : BitsAt w' bo d (mxL S)) => rsame_any 2 2 ao bo cap d S w' h h2 (by omega))
  rw [hl] at K4
  clear C1 C2 C3 hl
  go_enter Tryd.func11, Tryd.ntmps11
  go_wp2_with fail
  refine (unhide K1 _).mono ?_
  rintro e w1 ⟨v, rfl, ⟨ao, cap, rfl, _, q1⟩, hb1⟩
  rw [unhide HL]
  have ba := below_alloc9 w1 (.cells #[.int .i64 (2 : Nat), .int .i64 (2 : Nat), .slice ao l cap] 24)
  have B1 := hide (hb1.trans (ba.mono hb1.size))
  have Q1 := hide (q1.below ba)
  clear q1 hb1 ba K1
  go_wp2_with fail
  refine (unhide K2 _ _ _ (unhide B1) (unhide Q1)).mono ?_
  rintro e w2 ⟨v, rfl, ⟨bo, d, rfl, _, q2⟩, hb2⟩
  rw [unhide HL]
  have B2 := (unhide B1).trans (hb2.mono (unhide B1).size)
  have ba := below_alloc9 w2 (.cells #[.int .i64 (2 : Nat), .int .i64 (2 : Nat), .slice bo l d] 24)
  have x2 := BoxM.new w2 (.int .i64 (2 : Nat)) (.int .i64 (2 : Nat)) (.slice bo l d)
  have B3 := hide (B2.trans (ba.mono B2.size))
  have Q2 := hide (q2.below ba)
  have X2 := hide x2
  clear q2 hb2 ba K2 B1 B2 Q1 x2
  go_wp2_with fail
  refine at_world (fun W => Below w.heap.size w W ∧ BitsAt W bo d (mxL S) ∧ BoxM W w2.heap.size (.int .i64 2) (.int .i64 2) (.slice bo l d)) ⟨unhide B3, unhide Q2, unhide X2⟩ ?_
  clear B3 Q2 X2
  rintro W ⟨bw, qw, xw⟩
  generalize w2.heap.size = g at *
  have HB := hide bw; have HQ := hide qw
  have HK := hide (fun w' (h : Below W.heap.size W w') => (show Below W.heap.size W w' ∧ w'.cell? ⟨g, 0, none⟩ = some (.int .i64 2) ∧ w'.cell? ⟨g, 1, none⟩ = some (.int .i64 2) ∧ w'.cell? ⟨g, 2, none⟩ = some (.slice bo l d) from ⟨h, (xw.all h).c0, (xw.all h).c1, (xw.all h).c2⟩))
  clear bw qw xw
  go_region_held3 (fun w' => Below W.heap.size W w' ∧ w'.cell? ⟨g, 0, none⟩ = some (.int .i64 2) ∧ w'.cell? ⟨g, 1, none⟩ = some (.int .i64 2) ∧ w'.cell? ⟨g, 2, none⟩ = some (.slice bo l d))
    (first | exact unhide HK _ (Below.refl _ _).drew | exact unhide HK _ (by assumption) | fail "KK")
    (first | (go_at_call 16; refine (unhide K3 _).mono ?_; rintro e w4 ⟨v, rfl, ⟨eo, ec, rfl, _, qe⟩, hb4⟩; have hB4 : Below W.heap.size W w4 := Below.trans (And.left (by assumption)) (hb4.mono (Below.size (And.left (by assumption)))); have QE := hide qe; rw [unhide HL]; clear qe hb4 K3) | (go_at_call 30; refine (unhide K4 _ _ _ _ _ (by exact (unhide HQ).below (And.left (by assumption))) (unhide QE)).mono ?_; rintro e w5 ⟨rfl, hb5⟩; have hB5 : Below W.heap.size W w5 := Below.trans (And.left (by assumption)) (hb5.mono (Below.size (And.left (by assumption)))); clear hb5 K4) | fail "NO ARM")
  all_goals
    go_wp2
    go_ret
    exact ⟨rfl, (unhide HB).trans (Below.mono (And.left (by assumption)) (unhide HB).size)⟩

theorem awake10_any (w : World) (hT : Tab w) : Calls Tryd.prog 11 #[] w fun e w' => e = .returned (.bool true) ∧ Below w.heap.size w w' := by
  have hm : ∀ (w' : World) ao cap, BitsAt w' ao cap (mxL (eyM 2)) → Mx w' ao cap 2 2 (eyM 2) := fun w' ao cap h => ⟨h, mkM_len _ _ _, by omega, by omega⟩
  refine awake10_of (eyM 2) 4 w (mkM_len _ _ _) (by omega) (fun w' => (mEye_ok 2 w' (by omega)).mono ?_) (fun w' ao cap hb h => ?_) (fun w' => reye_any 2 w' (by omega))
  · rintro e w'' ⟨v, rfl, h1, h2⟩
    exact ⟨v, rfl, h1.least (Nat.zero_le _), h2⟩
  · have C := mMul_ok 2 2 cap 2 cap ao ao (eyM 2) (eyM 2) w' (hm w' ao cap h) (hm w' ao cap h) (hT.all hb)
    rw [eye_two] at C
    refine C.mono ?_
    rintro e w'' ⟨v, rfl, h1, h2⟩
    exact ⟨v, rfl, h1.least (Nat.zero_le _), h2⟩

end Go.Proofs.YtheepcdlakjdcaaDoor

/- The law MatrixParts, walked. -/
namespace Go.Proofs.YtheepcdlakjdcaaDoor
open Go.RowKit
attribute [local go_sem ↓] Go.wp_at_zero Go.wp_at_succ

/-- Block b is a box of four whole numbers. -/
def Box4P (w : World) (b : Nat) (x y z u : Int) : Prop := w.heap[b]? = some (.cells #[.int .i64 x, .int .i64 y, .int .i64 z, .int .i64 u] 43 (0, 0))
theorem Box4P.c0 {w : World} {b : Nat} {x y z u : Int} (h : Box4P w b x y z u) : w.cell? ⟨b, 0, none⟩ = some (.int .i64 x) := by rw [cell_of_row w b 0 _ _ _ h]; rfl
theorem Box4P.c1 {w : World} {b : Nat} {x y z u : Int} (h : Box4P w b x y z u) : w.cell? ⟨b, 1, none⟩ = some (.int .i64 y) := by rw [cell_of_row w b 1 _ _ _ h]; rfl
theorem Box4P.c2 {w : World} {b : Nat} {x y z u : Int} (h : Box4P w b x y z u) : w.cell? ⟨b, 2, none⟩ = some (.int .i64 z) := by rw [cell_of_row w b 2 _ _ _ h]; rfl
theorem Box4P.all {w w' : World} {b : Nat} {x y z u : Int} (h : Box4P w b x y z u) (hb : Below w.heap.size w w') : Box4P w' b x y z u := (hb.block b (Array.getElem?_eq_some_iff.1 h).1).trans h
theorem Box4P.new (w : World) (x y z u : Int) : Box4P (w.alloc (.cells #[.int .i64 x, .int .i64 y, .int .i64 z, .int .i64 u] 43)) w.heap.size x y z u := heap_alloc_new w _
/-- A matrix that was answered: its box, its numbers, from block H on. -/
structure AnsAt (wr : World) (H g : Nat) (p q : Nat) (so : Option Addr) (sd : Nat) (S : List Nat) : Prop where
  box : BoxM wr g (.int .i64 p) (.int .i64 q) (.slice so S.length sd)
  bits : BitsAt wr so sd (mxL S)
  new : NewB H so (mxL S)
theorem AnsAt.all {wr w' : World} {H g p q : Nat} {so : Option Addr} {sd : Nat} {S : List Nat} (h : AnsAt wr H g p q so sd S) (hb : Below wr.heap.size wr w') : AnsAt w' H g p q so sd S := ⟨h.box.all hb, h.bits.below hb, h.new⟩
structure PtSt (w wr : World) (H g2 g3 g4 : Nat) (r c : Int) (ao : Option Addr) (n cap : Nat) (i k a b : Int) (po : Option Addr) (pc p1 p2 q1 q2 : Nat) (so : Option Addr) (sd : Nat) (S : List Nat) (ro : Option Addr) (rd : Nat) (T : List Nat) : Prop where
  bel : Below w.heap.size w wr
  m : BoxM wr w.heap.size (.int .i64 r) (.int .i64 c) (.slice ao n cap)
  x : Box4P wr (w.heap.size + 1) i k a b
  own : BoxM wr g2 (.int .i64 r) (.int .i64 c) (.slice po n pc)
  copy : CopyB w.heap.size H wr po n
  s : AnsAt wr H g3 p1 p2 so sd S
  t : AnsAt wr H g4 q1 q2 ro rd T
theorem PtSt.all {w wr w' : World} {H g2 g3 g4 : Nat} {r c : Int} {ao : Option Addr} {n cap : Nat} {i k a b : Int} {po : Option Addr} {pc p1 p2 q1 q2 : Nat} {so : Option Addr} {sd : Nat} {S : List Nat} {ro : Option Addr} {rd : Nat} {T : List Nat} (h : PtSt w wr H g2 g3 g4 r c ao n cap i k a b po pc p1 p2 q1 q2 so sd S ro rd T) (hb : Below wr.heap.size wr w') : PtSt w w' H g2 g3 g4 r c ao n cap i k a b po pc p1 p2 q1 q2 so sd S ro rd T :=
  ⟨h.bel.trans (hb.mono h.bel.size), h.m.all hb, h.x.all hb, h.own.all hb, h.copy.below hb, h.s.all hb, h.t.all hb⟩
end Go.Proofs.YtheepcdlakjdcaaDoor

