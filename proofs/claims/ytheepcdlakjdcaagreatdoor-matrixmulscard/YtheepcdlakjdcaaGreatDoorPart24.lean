/- Part 24 of the texts. -/
import Derived.Test.YtheepcdlakjdcaaGreatDoorPart23
import Derived.Deep.RegionWith
import Derived.Deep.RegionLaw
/- The reference of layer 10: Eye, In. -/
namespace Go.Proofs.YtheepcdlakjdcaaGreatDoor
open Go.RowKit
attribute [local go_sem ↓] Go.wp_at_zero Go.wp_at_succ

/-- A matrix in a variable's box at g, the result's box at gr. -/
structure LpSt (w wr : World) (g gr p q : Nat) (mo : Option Addr) (mc : Nat) (S : List Nat) : Prop where
  bel : Below w.heap.size w wr
  box : BoxM wr g (.int .i64 p) (.int .i64 q) (.slice mo S.length mc)
  res : BoxM wr gr (.int .i64 0) (.int .i64 0) (.slice none 0 0)
  bits : BitsAt wr mo mc (mxL S)
  ne : gr ≠ g
  lo : w.heap.size ≤ g
theorem LpSt.all {w wr w' : World} {g gr p q : Nat} {mo : Option Addr} {mc : Nat} {S : List Nat} (h : LpSt w wr g gr p q mo mc S) (hb : Below wr.heap.size wr w') : LpSt w w' g gr p q mo mc S :=
  ⟨h.bel.trans (hb.mono h.bel.size), h.box.all hb, h.res.all hb, h.bits.below hb, h.ne, h.lo⟩
theorem LpSt.put {w wr : World} {g gr p q : Nat} {mo : Option Addr} {mc : Nat} {S : List Nat} (h : LpSt w wr g gr p q mo mc S) {no : Option Addr} {nc : Nat} {T : List Nat} (hT : BitsAt wr no nc (mxL T)) :
    LpSt w (((wr.setCell ⟨g, 0, none⟩ (.int .i64 p)).setCell ⟨g, 1, none⟩ (.int .i64 q)).setCell ⟨g, 2, none⟩ (.slice no T.length nc)) g gr p q no nc T :=
  ⟨below_putM h.bel h.lo _ _ _, h.box.put _ _ _, ((h.res.other (p := ⟨g, 0, none⟩) h.ne _).other (p := ⟨g, 1, none⟩) h.ne _).other (p := ⟨g, 2, none⟩) h.ne _, hT.putM h.box _ _ _, h.ne, h.lo⟩

theorem NewM.any {w : World} {r c : Nat} {S : List Nat} {ao : Option Addr} {cap : Nat} (h : BitsAt w ao cap (mxL S)) : NewM 0 w r c S (.agg #[.int .i64 r, .int .i64 c, .slice ao S.length cap]) := by
  refine ⟨ao, cap, rfl, ?_, h⟩
  rcases h.2.2 with e | ⟨b, off, e1, _, _⟩
  · exact .inl e
  · exact .inr ⟨b, off, e1, Nat.zero_le _⟩

/-- The first j ones of Eye. -/
def eyJ (n j : Nat) : List Nat := mkM n n (fun i k => if k = i ∧ i < j then 4607182418800017408 else 0)
theorem eyJ_0 (n : Nat) : eyJ n 0 = List.replicate (n * n) 0 := by
  rw [mkM_noughts]
  exact mkM_congr (fun i k _ _ => if_neg (by omega))
theorem eyJ_set (n j : Nat) (hj : j < n) : (eyJ n j).set (j * n + j) 4607182418800017408 = eyJ n (j + 1) := by
  unfold eyJ
  rw [mkM_set n n _ _ hj hj]
  refine mkM_congr (fun x y _ _ => ?_)
  by_cases h : x = j ∧ y = j
  · rw [if_pos h, if_pos (by omega)]
  · rw [if_neg h]
    by_cases e : y = x ∧ x < j
    · rw [if_pos e, if_pos (by omega)]
    · rw [if_neg e, if_neg (by omega)]
theorem eyJ_all (n : Nat) : eyJ n n = eyM n := mkM_congr (fun i k hi _ => by
  by_cases e : k = i
  · rw [if_pos ⟨e, hi⟩, if_pos e]
  · rw [if_neg (fun h => e h.1), if_neg e])
theorem eyJ_len (n j : Nat) : (eyJ n j).length = n * n := mkM_len _ _ _

set_option maxRecDepth 20000 in
set_option maxHeartbeats 4000000 in
theorem reye_any (n : Nat) (w : World) (hn : n ≤ 6) :
    Calls Tryz.prog 15 #[.int .i64 n] w fun e w' => ∃ v, e = .returned v ∧ NewM 0 w' n n (eyM n) v ∧ Below w.heap.size w w' := by
  have K1 := hide (fun w' => rzeros_any n n w' hn hn)
  have b0 := below_alloc9 w (.cells #[.int .i64 0, .int .i64 0, .slice none 0 0] 24)
  have X0 := BoxM.new w (.int .i64 0) (.int .i64 0) (.slice none 0 0)
  have s0 := size_alloc9 w (.cells #[.int .i64 0, .int .i64 0, .slice none 0 0] 24)
  have HB0 := hide b0; have HX0 := hide X0; have HS0 := hide s0
  clear b0 X0 s0
  go_enter Tryz.func15, Tryz.ntmps15
  go_wp2_with fail
  refine (unhide K1 _).mono ?_
  rintro e w1 ⟨v, rfl, ⟨mo, mc, rfl, nw, qs⟩, hb1⟩
  have ba := below_alloc9 w1 (.cells #[.int .i64 n, .int .i64 n, .slice mo (List.replicate (n * n) 0).length mc] 24)
  have BB := (unhide HB0).trans (hb1.mono (unhide HB0).size)
  have L0 := hide (show LpSt w (w1.alloc (.cells #[.int .i64 n, .int .i64 n, .slice mo (eyJ n 0).length mc] 24)) w1.heap.size w.heap.size n n mo mc (eyJ n 0) from by
    rw [eyJ_0]
    exact ⟨BB.trans (ba.mono BB.size), BoxM.new w1 _ _ _, ((unhide HX0).all hb1).all ba, qs.below ba, by have := hb1.size; rw [unhide HS0] at this; omega, BB.size⟩)
  rw [← eyJ_0]
  clear K1 hb1 ba BB nw qs HB0 HX0 HS0
  go_wp2_with fail
  generalize w1.heap.size = g at *
  go_loopw [4] (fun i wr => ∃ (j : Nat) (no : Option Addr) (nc : Nat), j ≤ n ∧ i = .int .i64 j ∧ Hid (LpSt w wr g w.heap.size n n no nc (eyJ n j))) (fun i _ => n - (intOf i).toNat)
  case atStart => exact ⟨0, mo, mc, Nat.zero_le _, rfl, L0⟩
  case round =>
    clear L0
    obtain ⟨j, no, nc, hj, rfl, hL⟩ := hrel
    have y0 := (unhide hL).box.c0; have y1 := (unhide hL).box.c1; have y2 := (unhide hL).box.c2
    by_cases hlt : j < n
    · have hjI : (j : Int) < (n : Int) := by omega
      have C := hide (rwith_any n n nc j j 4607182418800017408 no (eyJ n j) _ ⟨(unhide hL).bits, eyJ_len n j, hn, hn⟩ hlt hlt (by decide))
      rw [eyJ_set n j hlt, show ((4607182418800017408 : Nat) : Int) = 4607182418800017408 from rfl] at C
      generalize (eyJ n j).length = l at *
      go_wp2_with fail
      refine Calls.mono (unhide C) ?_
      rintro e w2 ⟨v, rfl, ⟨no', nc', rfl, _, q2⟩, hb2⟩
      have L2 := (unhide hL).all hb2
      have f0 := L2.box.free 0; have f1 := L2.box.free 1; have f2 := L2.box.free 2
      have u0 := L2.box.c0; have u1 := L2.box.c1; have u2 := L2.box.c2
      have L3 := hide (L2.put q2)
      clear C hb2 L2 hL y0 y1 y2 q2
      go_wp2_with fail
      go_round
      case rel => exact ⟨j + 1, no', nc', by omega, by go_num, L3⟩
      case measure => simp [intOf]; omega
    · have hjj : j = n := by omega
      subst hjj
      rw [eyJ_all] at hL y2
      have r0 := (unhide hL).res.c0; have r1 := (unhide hL).res.c1; have r2 := (unhide hL).res.c2
      have f0 := (unhide hL).res.free 0; have f1 := (unhide hL).res.free 1; have f2 := (unhide hL).res.free 2
      have XP := (unhide hL).res.put (.int .i64 j) (.int .i64 j) (.slice no (eyM j).length nc)
      have z0 := XP.c0; have z1 := XP.c1; have z2 := XP.c2
      have Q := hide (BitsAt.putM (unhide hL).bits (unhide hL).res (.int .i64 j) (.int .i64 j) (.slice no (eyM j).length nc))
      have BP := hide (below_putM (unhide hL).bel (Nat.le_refl _) (.int .i64 j) (.int .i64 j) (.slice no (eyM j).length nc))
      clear XP hL
      go_wp2
      exact bodyPost_ret (v := .agg #[.int .i64 j, .int .i64 j, .slice no (eyM j).length nc]) (by simp [results, Tryz.results15, go_sem, z0, z1, z2]) rfl ⟨_, rfl, NewM.any (unhide Q), unhide BP⟩

end Go.Proofs.YtheepcdlakjdcaaGreatDoor

/- The reference of layer 10: In, Copy, Stack, Beside. -/
namespace Go.Proofs.YtheepcdlakjdcaaGreatDoor
open Go.RowKit
attribute [local go_sem ↓] Go.wp_at_zero Go.wp_at_succ
theorem OwnB.least {base base' : Nat} {w : World} {v : Value} {S : List Nat} (h : OwnB base w v S) (hb : base' ≤ base) : OwnB base' w v S := by
  refine ⟨⟨h.1.1, ?_⟩, h.2⟩
  rcases h.1.2 with e | ⟨g, cap, cur, hv, hg, rest⟩
  · exact .inl e
  · exact .inr ⟨g, cap, cur, hv, Nat.le_trans hb hg, rest⟩
/-- Stores into a box that lies elsewhere. -/
theorem OwnB.putM {base : Nat} {w : World} {v : Value} {S : List Nat} (h : OwnB base w v S) {b : Nat} {x y z : Value} (_hx : BoxM w b x y z) (hb : b < base) (u u' u'' : Value) : OwnB base (((w.setCell ⟨b, 0, none⟩ u).setCell ⟨b, 1, none⟩ u').setCell ⟨b, 2, none⟩ u'') v S := by
  refine ⟨⟨h.1.1, ?_⟩, h.2⟩
  rcases h.1.2 with e | ⟨g, cap, cur, hv, hg, hh, rest⟩
  · exact .inl e
  · refine .inr ⟨g, cap, cur, hv, hg, ?_, rest⟩
    have ne : g ≠ b := by omega
    rw [Below.heap_setCell _ ⟨b, 2, none⟩ u'' g ne, Below.heap_setCell _ ⟨b, 1, none⟩ u' g ne, Below.heap_setCell _ ⟨b, 0, none⟩ u g ne]
    exact hh

set_option maxRecDepth 20000 in
set_option maxHeartbeats 8000000 in
theorem rcopy_any (r c : Int) (ao : Option Addr) (cap : Nat) (I : List Int) (w : World) (h : BitsAt w ao cap I) (hl : I.length ≤ 17592186043904) :
    Calls Tryz.prog 5 #[.agg #[.int .i64 r, .int .i64 c, .slice ao I.length cap]] w fun e w' => ∃ po pc, e = .returned (.agg #[.int .i64 r, .int .i64 c, .slice po I.length pc]) ∧ OwnB w.heap.size w' (.slice po I.length pc) (natL I) ∧ Below w.heap.size w w' := by
  have b0 := below_alloc9 w (.cells #[.int .i64 r, .int .i64 c, .slice ao I.length cap] 24)
  have s0 := size_alloc9 w (.cells #[.int .i64 r, .int .i64 c, .slice ao I.length cap] 24)
  have b1 := below_alloc9 (w.alloc (.cells #[.int .i64 r, .int .i64 c, .slice ao I.length cap] 24)) (.cells #[.int .i64 0, .int .i64 0, .slice none 0 0] 24)
  have s1 := size_alloc9 (w.alloc (.cells #[.int .i64 r, .int .i64 c, .slice ao I.length cap] 24)) (.cells #[.int .i64 0, .int .i64 0, .slice none 0 0] 24)
  have bb := b0.trans (b1.mono b0.size)
  have bits := h.below bb
  have KB := hide (fun w1 => boxes2 w (.int .i64 r) (.int .i64 c) (.slice ao I.length cap) (.int .i64 0) (.int .i64 0) (.slice none 0 0) w1)
  rw [s0] at s1
  have KC := hide (fun w' (hb : Below (w.heap.size + 1 + 1) ((w.alloc (.cells #[.int .i64 r, .int .i64 c, .slice ao I.length cap] 24)).alloc (.cells #[.int .i64 0, .int .i64 0, .slice none 0 0] 24)) w') (hz : w'.heap.size = w.heap.size + 1 + 1) => (show ∃ po pc w'', (Builtin.append_ #[22, 22] 22 #[.slice (some ⟨w.heap.size + 1 + 1, 0, none⟩) 0 0, .slice ao I.length cap]).run Tryz.prog (w'.alloc (.cells #[] 40)) = .ok (.slice po I.length pc) w'' ∧ (OwnB (w.heap.size + 1 + 1) w'' (.slice po I.length pc) (natL I) ∧ Below (w.heap.size + 1 + 1) ((w.alloc (.cells #[.int .i64 r, .int .i64 c, .slice ao I.length cap] 24)).alloc (.cells #[.int .i64 0, .int .i64 0, .slice none 0 0] 24)) w'') from by
    have b2 := below_alloc9 w' (.cells #[] 40)
    have on := OwnB.nil w' (w.heap.size + 1 + 1) (by omega)
    have bt := (bits.below (by rw [s1]; exact hb)).below b2
    obtain ⟨po, pc, w1, run, own, gr⟩ := copy_bits _ (w.heap.size + 1 + 1) 22 ao cap I _ bt hl on.1 (by simp; omega)
    rw [hz] at run
    exact ⟨po, pc, w1, run, own, hb.trans ((b2.mono (by omega)).grown gr (by simp; omega) (fun g hg => by cases hg; omega))⟩))
  clear b0 b1 s0 s1 bb bits h
  obtain ⟨l, hl'⟩ : ∃ l, I.length = l := ⟨_, rfl⟩
  have HL := hide hl'
  rw [hl'] at KB KC hl ⊢
  clear hl'
  have HK := hide (fun w' (hb : Below (w.heap.size + 1 + 1) ((w.alloc (.cells #[.int .i64 r, .int .i64 c, .slice ao l cap] 24)).alloc (.cells #[.int .i64 0, .int .i64 0, .slice none 0 0] 24)) w') => (show w'.cell? ⟨w.heap.size, 0, none⟩ = some (.int .i64 r) ∧ w'.cell? ⟨w.heap.size, 1, none⟩ = some (.int .i64 c) ∧ w'.cell? ⟨w.heap.size, 2, none⟩ = some (.slice ao l cap) from
    ⟨(unhide KB w' hb).2.1.c0, (unhide KB w' hb).2.1.c1, (unhide KB w' hb).2.1.c2⟩))
  have HP := hide (fun w5 (u u' u'' : Value) (hb : Below (w.heap.size + 1 + 1) ((w.alloc (.cells #[.int .i64 r, .int .i64 c, .slice ao l cap] 24)).alloc (.cells #[.int .i64 0, .int .i64 0, .slice none 0 0] 24)) w5) => (show (((w5.setCell ⟨w.heap.size + 1, 0, none⟩ u).setCell ⟨w.heap.size + 1, 1, none⟩ u').setCell ⟨w.heap.size + 1, 2, none⟩ u'').cell? ⟨w.heap.size, 0, none⟩ = some (.int .i64 r) ∧ (((w5.setCell ⟨w.heap.size + 1, 0, none⟩ u).setCell ⟨w.heap.size + 1, 1, none⟩ u').setCell ⟨w.heap.size + 1, 2, none⟩ u'').cell? ⟨w.heap.size, 1, none⟩ = some (.int .i64 c) ∧ (((w5.setCell ⟨w.heap.size + 1, 0, none⟩ u).setCell ⟨w.heap.size + 1, 1, none⟩ u').setCell ⟨w.heap.size + 1, 2, none⟩ u'').cell? ⟨w.heap.size, 2, none⟩ = some (.slice ao l cap) from by
    have X := (unhide KB w5 hb).2.1
    have Y := ((X.other (p := ⟨w.heap.size + 1, 0, none⟩) (by show w.heap.size ≠ w.heap.size + 1; omega) u).other (p := ⟨w.heap.size + 1, 1, none⟩) (by show w.heap.size ≠ w.heap.size + 1; omega) u').other (p := ⟨w.heap.size + 1, 2, none⟩) (by show w.heap.size ≠ w.heap.size + 1; omega) u''
    exact ⟨Y.c0, Y.c1, Y.c2⟩))
  go_enter Tryz.func5, Tryz.ntmps5
  go_wp2_with fail
  go_region_held3 (fun w' => w'.cell? ⟨w.heap.size, 0, none⟩ = some (.int .i64 r) ∧ w'.cell? ⟨w.heap.size, 1, none⟩ = some (.int .i64 c) ∧ w'.cell? ⟨w.heap.size, 2, none⟩ = some (.slice ao l cap))
    (first | exact unhide HK _ (Below.refl _ _).drew | exact unhide HK _ (by assumption) | exact unhide HK _ ((Below.refl _ _).drew.alloc (by simp) _) | exact unhide HP _ _ _ _ (by assumption) | fail "KK")
    (first | (refine step_append_ex _ (by rfl) _ _ 22 (by rfl) _ _ _ _ (by rfl) (by rfl) (unhide KC _ (Below.refl _ _).drew (by first | rfl | simp)) ?_; rintro po pc w5 ⟨own5, bel5⟩; obtain ⟨B5, A5, X5⟩ := unhide KB w5 bel5; have u0 := X5.c0; have u1 := X5.c1; have u2 := X5.c2; have f0 := X5.free 0; have f1 := X5.free 1; have f2 := X5.free 2; have HO := hide own5; have HB := hide B5; have HX := hide X5; clear own5 A5 X5 B5) | fail "NO ARM")
  all_goals
    have XP := (unhide HX).put (.int .i64 r) (.int .i64 c) (.slice po l pc)
    have z0 := XP.c0; have z1 := XP.c1; have z2 := XP.c2
    have OP := hide ((unhide HO).putM (unhide HX) (by omega) (.int .i64 r) (.int .i64 c) (.slice po l pc))
    have BP := hide (below_putM (unhide HB) (b := w.heap.size + 1) (by omega) (.int .i64 r) (.int .i64 c) (.slice po l pc))
    clear XP HX HO HB
    go_wp2
    exact bodyPost_ret (v := .agg #[.int .i64 r, .int .i64 c, .slice po l pc]) (by simp [results, Tryz.results5, go_sem, z0, z1, z2]) rfl ⟨po, pc, rfl, (unhide OP).least (by omega), unhide BP⟩

end Go.Proofs.YtheepcdlakjdcaaGreatDoor

/- The law of layer 10: awake, spoil. -/
namespace Go.Proofs.YtheepcdlakjdcaaGreatDoor
open Go.RowKit
attribute [local go_sem ↓] Go.wp_at_zero Go.wp_at_succ

/-- Eye of two rows, times itself. -/
theorem eye_two : muM 2 2 2 (eyM 2) (eyM 2) = eyM 2 := mu_eye 2 2 (eyM 2) (mkM_len _ _ _) (by decide)

set_option maxRecDepth 20000 in
set_option maxHeartbeats 4000000 in
theorem awake10_of (S : List Nat) (l : Nat) (w : World) (hl : S.length = l) (hs : l ≤ 36)
    (C1 : ∀ w', Calls Tryz.prog 13 #[.int .i64 2] w' fun e w'' => ∃ v, e = .returned (.tuple #[v, .int .i64 0]) ∧ NewM 0 w'' 2 2 S v ∧ Below w'.heap.size w' w'')
    (C2 : ∀ w' ao cap, Below w.heap.size w w' → BitsAt w' ao cap (mxL S) → Calls Tryz.prog 6 #[.agg #[.int .i64 2, .int .i64 2, .slice ao l cap], .agg #[.int .i64 2, .int .i64 2, .slice ao l cap]] w' fun e w'' => ∃ v, e = .returned (.tuple #[v, .int .i64 0]) ∧ NewM 0 w'' 2 2 S v ∧ Below w'.heap.size w' w'')
    (C3 : ∀ w', Calls Tryz.prog 15 #[.int .i64 2] w' fun e w'' => ∃ v, e = .returned v ∧ NewM 0 w'' 2 2 S v ∧ Below w'.heap.size w' w'') :
    Calls Tryz.prog 4 #[] w fun e w' => e = .returned (.bool true) ∧ Below w.heap.size w w' := by
  have K1 := hide C1; have K2 := hide C2; have K3 := hide C3; have HL := hide hl
  have K4 := hide (fun w' ao bo cap d (h : BitsAt w' ao cap (mxL S)) (h2 : BitsAt w' bo d (mxL S)) => rsame_any 2 2 ao bo cap d S w' h h2 (by omega))
  rw [hl] at K4
  clear C1 C2 C3 hl
  go_enter Tryz.func4, Tryz.ntmps4
  go_wp2_with fail
  refine (unhide K1 _).mono ?_
  rintro e w1 ⟨v, rfl, ⟨ao, cap, rfl, _, q1⟩, hb1⟩
  rw [unhide HL]
  have ba := below_alloc9 w1 (.cells #[.int .i64 (2 : Nat), .int .i64 (2 : Nat), .slice ao l cap] 24)
  have B1 := hide (hb1.trans (ba.mono hb1.size))
  have Q1 := hide (q1.below ba)
  clear q1 hb1 ba K1
  go_wp2_with fail
  refine (unhide K2 _ _ _ (unhide B1) (unhide Q1)).mono ?_
  rintro e w2 ⟨v, rfl, ⟨bo, d, rfl, _, q2⟩, hb2⟩
  rw [unhide HL]
  have B2 := (unhide B1).trans (hb2.mono (unhide B1).size)
  have ba := below_alloc9 w2 (.cells #[.int .i64 (2 : Nat), .int .i64 (2 : Nat), .slice bo l d] 24)
  have x2 := BoxM.new w2 (.int .i64 (2 : Nat)) (.int .i64 (2 : Nat)) (.slice bo l d)
  have B3 := hide (B2.trans (ba.mono B2.size))
  have Q2 := hide (q2.below ba)
  have X2 := hide x2
  clear q2 hb2 ba K2 B1 B2 Q1 x2
  go_wp2_with fail
  refine at_world (fun W => Below w.heap.size w W ∧ BitsAt W bo d (mxL S) ∧ BoxM W w2.heap.size (.int .i64 2) (.int .i64 2) (.slice bo l d)) ⟨unhide B3, unhide Q2, unhide X2⟩ ?_
  clear B3 Q2 X2
  rintro W ⟨bw, qw, xw⟩
  generalize w2.heap.size = g at *
  have HB := hide bw; have HQ := hide qw
  have HK := hide (fun w' (h : Below W.heap.size W w') => (show Below W.heap.size W w' ∧ w'.cell? ⟨g, 0, none⟩ = some (.int .i64 2) ∧ w'.cell? ⟨g, 1, none⟩ = some (.int .i64 2) ∧ w'.cell? ⟨g, 2, none⟩ = some (.slice bo l d) from ⟨h, (xw.all h).c0, (xw.all h).c1, (xw.all h).c2⟩))
  clear bw qw xw
  go_region_held3 (fun w' => Below W.heap.size W w' ∧ w'.cell? ⟨g, 0, none⟩ = some (.int .i64 2) ∧ w'.cell? ⟨g, 1, none⟩ = some (.int .i64 2) ∧ w'.cell? ⟨g, 2, none⟩ = some (.slice bo l d))
    (first | exact unhide HK _ (Below.refl _ _).drew | exact unhide HK _ (by assumption) | fail "KK")
    (first | (go_at_call 15; refine (unhide K3 _).mono ?_; rintro e w4 ⟨v, rfl, ⟨eo, ec, rfl, _, qe⟩, hb4⟩; have hB4 : Below W.heap.size W w4 := Below.trans (And.left (by assumption)) (hb4.mono (Below.size (And.left (by assumption)))); have QE := hide qe; rw [unhide HL]; clear qe hb4 K3) | (go_at_call 14; refine (unhide K4 _ _ _ _ _ (by exact (unhide HQ).below (And.left (by assumption))) (unhide QE)).mono ?_; rintro e w5 ⟨rfl, hb5⟩; have hB5 : Below W.heap.size W w5 := Below.trans (And.left (by assumption)) (hb5.mono (Below.size (And.left (by assumption)))); clear hb5 K4) | fail "NO ARM")
  all_goals
    go_wp2
    go_ret
    exact ⟨rfl, (unhide HB).trans (Below.mono (And.left (by assumption)) (unhide HB).size)⟩

theorem awake10_any (w : World) (hT : Tab w) : Calls Tryz.prog 4 #[] w fun e w' => e = .returned (.bool true) ∧ Below w.heap.size w w' := by
  have hm : ∀ (w' : World) ao cap, BitsAt w' ao cap (mxL (eyM 2)) → Mx w' ao cap 2 2 (eyM 2) := fun w' ao cap h => ⟨h, mkM_len _ _ _, by omega, by omega⟩
  refine awake10_of (eyM 2) 4 w (mkM_len _ _ _) (by omega) (fun w' => (mEye_ok 2 w' (by omega)).mono ?_) (fun w' ao cap hb h => ?_) (fun w' => reye_any 2 w' (by omega))
  · rintro e w'' ⟨v, rfl, h1, h2⟩
    exact ⟨v, rfl, h1.least (Nat.zero_le _), h2⟩
  · have C := mMul_ok 2 2 cap 2 cap ao ao (eyM 2) (eyM 2) w' (hm w' ao cap h) (hm w' ao cap h) (hT.all hb)
    rw [eye_two] at C
    refine C.mono ?_
    rintro e w'' ⟨v, rfl, h1, h2⟩
    exact ⟨v, rfl, h1.least (Nat.zero_le _), h2⟩

/-- A cell of a list of numbers lies in no matrix's box. -/
theorem BoxM.away {w : World} {g b k : Nat} {x y : Int} {a : Option Addr} {n d : Nat} {z : Int} (hx : BoxM w b (.int .i64 x) (.int .i64 y) (.slice a n d)) (hc : w.cell? ⟨g, k, none⟩ = some (.int .u64 z)) : b ≠ g := by
  rintro rfl
  rw [cell_of_row w b k _ _ _ hx] at hc
  rcases (show k = 0 ∨ k = 1 ∨ k = 2 ∨ 3 ≤ k by omega) with e | e | e | e
  · subst e; simp at hc
  · subst e; simp at hc
  · subst e; simp at hc
  · rw [Array.getElem?_eq_none (by simp; omega)] at hc; simp at hc

set_option maxRecDepth 20000 in
set_option maxHeartbeats 4000000 in
theorem spoil10_any (J : World → Prop) (r c : Int) (po : Option Addr) (n pc : Nat) (w : World) (hn : n ≤ 35184372088830) (h0 : J w) (hb : ∀ w' w'', J w' → Below w'.heap.size w' w'' → J w'')
    (hp : ∀ w' k, J w' → k < n → ∃ g z0, po = some ⟨g, 0, none⟩ ∧ w'.cell? ⟨g, k, none⟩ = some (.int .u64 z0) ∧ w'.frozen? ⟨g, k, none⟩ = false ∧ ∀ z, J (w'.setCell ⟨g, k, none⟩ (.int .u64 z))) :
    Calls Tryz.prog 8 #[.agg #[.int .i64 r, .int .i64 c, .slice po n pc]] w fun e w' => e = .returned (.tuple #[]) ∧ J w' := by
  have HB := hide hb; have HP := hide hp
  have X0 := hide (BoxM.new w (.int .i64 r) (.int .i64 c) (.slice po n pc))
  have J0 := hide (hb w _ h0 (below_alloc9 w (.cells #[.int .i64 r, .int .i64 c, .slice po n pc] 24)))
  clear hb hp h0
  go_enter Tryz.func8, Tryz.ntmps8
  go_wp2_with fail
  go_loopw [2] (fun i wr => ∃ k : Nat, k ≤ n ∧ i = .int .i64 k ∧ Hid (BoxM wr w.heap.size (.int .i64 r) (.int .i64 c) (.slice po n pc)) ∧ Hid (J wr)) (fun i _ => n - (intOf i).toNat)
  case atStart => exact ⟨0, Nat.zero_le _, rfl, X0, J0⟩
  case round =>
    clear X0 J0
    obtain ⟨k, hk, rfl, hX, hJ⟩ := hrel
    have t2 := (unhide hX).c2
    by_cases hlt : k < n
    · have hkI : (k : Int) < (n : Int) := by omega
      obtain ⟨g, z0, rfl, cz, fz, put⟩ := unhide HP _ k (unhide hJ) hlt
      have ne := (unhide hX).away cz
      have PUT := hide (fun z => put z)
      have XPT := hide (fun z : Int => (unhide hX).other (p := ⟨g, k, none⟩) ne (.int .u64 z))
      clear put ne
      go_wp2_with fail
      go_region_with fail
      all_goals
        go_wp2_with fail
        go_round
        case rel => exact ⟨k + 1, by omega, by go_num, hide (unhide XPT _).drew, hide (unhide HB _ _ (unhide PUT _) (Below.refl _ _).drew)⟩
        case measure => simp [intOf]; omega
    · have hkk : n = k := by omega
      subst hkk
      go_wp2
      first | go_end0 | refine bodyPost_ret (results_none rfl _ _ _) rfl ?_
      exact ⟨rfl, unhide hJ⟩

end Go.Proofs.YtheepcdlakjdcaaGreatDoor

/- The law MatrixParts, walked. -/
namespace Go.Proofs.YtheepcdlakjdcaaGreatDoor
open Go.RowKit
attribute [local go_sem ↓] Go.wp_at_zero Go.wp_at_succ

/-- A matrix that was answered: its box, its numbers, from block H on. -/
structure AnsAt (wr : World) (H g : Nat) (p q : Nat) (so : Option Addr) (sd : Nat) (S : List Nat) : Prop where
  box : BoxM wr g (.int .i64 p) (.int .i64 q) (.slice so S.length sd)
  bits : BitsAt wr so sd (mxL S)
  new : NewB H so (mxL S)
theorem AnsAt.all {wr w' : World} {H g p q : Nat} {so : Option Addr} {sd : Nat} {S : List Nat} (h : AnsAt wr H g p q so sd S) (hb : Below wr.heap.size wr w') : AnsAt w' H g p q so sd S := ⟨h.box.all hb, h.bits.below hb, h.new⟩
theorem AnsAt.put {wr : World} {H g p q : Nat} {so : Option Addr} {sd : Nat} {S : List Nat} (h : AnsAt wr H g p q so sd S) {b k : Nat} {z0 : Int} (hc : wr.cell? ⟨b, k, none⟩ = some (.int .u64 z0)) (hb : b < H) (z : Int) : AnsAt (wr.setCell ⟨b, k, none⟩ (.int .u64 z)) H g p q so sd S :=
  ⟨h.box.other (p := ⟨b, k, none⟩) (h.box.away hc) _, h.bits.far h.new hb k _, h.new⟩

theorem Mx.from {w : World} {ao : Option Addr} {cap p q : Nat} {I : List Int} (h : BitsAt w ao cap I) (ho : okB (p : Int) (q : Int) I.length = true) : Mx w ao cap p q (natL I) := by
  obtain ⟨p', q', e1, e2, hM, _⟩ := Mx.of h ho
  obtain rfl : p = p' := by omega
  obtain rfl : q = q' := by omega
  exact hM

end Go.Proofs.YtheepcdlakjdcaaGreatDoor

/- The law MatrixStacks, walked (mknk.py). -/
namespace Go.Proofs.YtheepcdlakjdcaaGreatDoor
open Go.RowKit
attribute [local go_sem ↓] Go.wp_at_zero Go.wp_at_succ

theorem BoxM.three {w : World} {b g : Nat} {x y z : Value} (h : BoxM w b x y z) (hg : b ≠ g) (u u' u'' : Value) : BoxM (((w.setCell ⟨g, 0, none⟩ u).setCell ⟨g, 1, none⟩ u').setCell ⟨g, 2, none⟩ u'') b x y z :=
  ((h.other (p := ⟨g, 0, none⟩) hg u).other (p := ⟨g, 1, none⟩) hg u').other (p := ⟨g, 2, none⟩) hg u''
theorem CopyB.three {base H : Nat} {w : World} {po : Option Addr} {n g : Nat} (h : CopyB base H w po n) (hg : H ≤ g) (u u' u'' : Value) : CopyB base H (((w.setCell ⟨g, 0, none⟩ u).setCell ⟨g, 1, none⟩ u').setCell ⟨g, 2, none⟩ u'') po n := by
  rcases h with h | ⟨b, h1, h2, h3, cur, h4, h5⟩
  · exact .inl h
  · refine .inr ⟨b, h1, h2, h3, cur, ?_, h5⟩
    have ne : b ≠ g := by omega
    rw [Below.heap_setCell _ ⟨g, 2, none⟩ u'' b ne, Below.heap_setCell _ ⟨g, 1, none⟩ u' b ne, Below.heap_setCell _ ⟨g, 0, none⟩ u b ne]
    exact h4

/-- What holds while the law's two copies are spoiled, and behind it. -/
structure SkSt (w wr : World) (H gp gq gs gt : Nat) (r c p q : Int) (ao bo : Option Addr) (n cap m d : Nat) (po qo : Option Addr) (pc qc s1 s2 t1 t2 : Nat) (so : Option Addr) (sd : Nat) (S : List Nat) (ro : Option Addr) (rd : Nat) (T : List Nat) : Prop where
  bel : Below w.heap.size w wr
  a : BoxM wr w.heap.size (.int .i64 r) (.int .i64 c) (.slice ao n cap)
  b : BoxM wr (w.heap.size + 1) (.int .i64 p) (.int .i64 q) (.slice bo m d)
  pb : BoxM wr gp (.int .i64 r) (.int .i64 c) (.slice po n pc)
  qb : BoxM wr gq (.int .i64 p) (.int .i64 q) (.slice qo m qc)
  cp : CopyB w.heap.size H wr po n
  cq : CopyB w.heap.size H wr qo m
  s : AnsAt wr H gs s1 s2 so sd S
  t : AnsAt wr H gt t1 t2 ro rd T
theorem SkSt.all {w wr : World} {H gp gq gs gt : Nat} {r c p q : Int} {ao bo : Option Addr} {n cap m d : Nat} {po qo : Option Addr} {pc qc s1 s2 t1 t2 : Nat} {so : Option Addr} {sd : Nat} {S : List Nat} {ro : Option Addr} {rd : Nat} {T : List Nat} {w' : World} (h : SkSt w wr H gp gq gs gt r c p q ao bo n cap m d po qo pc qc s1 s2 t1 t2 so sd S ro rd T) (hb : Below wr.heap.size wr w') : SkSt w w' H gp gq gs gt r c p q ao bo n cap m d po qo pc qc s1 s2 t1 t2 so sd S ro rd T :=
  ⟨h.bel.trans (hb.mono h.bel.size), h.a.all hb, h.b.all hb, h.pb.all hb, h.qb.all hb, h.cp.below hb, h.cq.below hb, h.s.all hb, h.t.all hb⟩
theorem SkSt.set {w wr : World} {H gp gq gs gt : Nat} {r c p q : Int} {ao bo : Option Addr} {n cap m d : Nat} {po qo : Option Addr} {pc qc s1 s2 t1 t2 : Nat} {so : Option Addr} {sd : Nat} {S : List Nat} {ro : Option Addr} {rd : Nat} {T : List Nat} (h : SkSt w wr H gp gq gs gt r c p q ao bo n cap m d po qo pc qc s1 s2 t1 t2 so sd S ro rd T) {g j : Nat} {z0 : Int} (cz : wr.cell? ⟨g, j, none⟩ = some (.int .u64 z0)) (e2 : w.heap.size ≤ g) (e3 : g < H) (z : Int) : SkSt w (wr.setCell ⟨g, j, none⟩ (.int .u64 z)) H gp gq gs gt r c p q ao bo n cap m d po qo pc qc s1 s2 t1 t2 so sd S ro rd T :=
  ⟨h.bel.setCell (p := ⟨g, j, none⟩) e2 _, h.a.other (p := ⟨g, j, none⟩) (h.a.away cz) _, h.b.other (p := ⟨g, j, none⟩) (h.b.away cz) _, h.pb.other (p := ⟨g, j, none⟩) (h.pb.away cz) _, h.qb.other (p := ⟨g, j, none⟩) (h.qb.away cz) _, h.cp.set g j z, h.cq.set g j z, h.s.put cz e3 z, h.t.put cz e3 z⟩
theorem SkSt.putP {w wr : World} {H gp gq gs gt : Nat} {r c p q : Int} {ao bo : Option Addr} {n cap m d : Nat} {po qo : Option Addr} {pc qc s1 s2 t1 t2 : Nat} {so : Option Addr} {sd : Nat} {S : List Nat} {ro : Option Addr} {rd : Nat} {T : List Nat} (h : SkSt w wr H gp gq gs gt r c p q ao bo n cap m d po qo pc qc s1 s2 t1 t2 so sd S ro rd T) {j : Nat} (hj : j < n) : ∃ g z0, po = some ⟨g, 0, none⟩ ∧ wr.cell? ⟨g, j, none⟩ = some (.int .u64 z0) ∧ wr.frozen? ⟨g, j, none⟩ = false ∧ ∀ z, SkSt w (wr.setCell ⟨g, j, none⟩ (.int .u64 z)) H gp gq gs gt r c p q ao bo n cap m d po qo pc qc s1 s2 t1 t2 so sd S ro rd T := by
  obtain ⟨g, e1, e2, e3, e4⟩ := h.cp.resolve_left (by omega)
  obtain ⟨z0, cz⟩ := e4.cell hj
  exact ⟨g, z0, e1, cz, e4.free j, fun z => h.set cz e2 e3 z⟩
theorem SkSt.putQ {w wr : World} {H gp gq gs gt : Nat} {r c p q : Int} {ao bo : Option Addr} {n cap m d : Nat} {po qo : Option Addr} {pc qc s1 s2 t1 t2 : Nat} {so : Option Addr} {sd : Nat} {S : List Nat} {ro : Option Addr} {rd : Nat} {T : List Nat} (h : SkSt w wr H gp gq gs gt r c p q ao bo n cap m d po qo pc qc s1 s2 t1 t2 so sd S ro rd T) {j : Nat} (hj : j < m) : ∃ g z0, qo = some ⟨g, 0, none⟩ ∧ wr.cell? ⟨g, j, none⟩ = some (.int .u64 z0) ∧ wr.frozen? ⟨g, j, none⟩ = false ∧ ∀ z, SkSt w (wr.setCell ⟨g, j, none⟩ (.int .u64 z)) H gp gq gs gt r c p q ao bo n cap m d po qo pc qc s1 s2 t1 t2 so sd S ro rd T := by
  obtain ⟨g, e1, e2, e3, e4⟩ := h.cq.resolve_left (by omega)
  obtain ⟨z0, cz⟩ := e4.cell hj
  exact ⟨g, z0, e1, cz, e4.free j, fun z => h.set cz e2 e3 z⟩
/-- Stores into a box that lies above all of it. -/
theorem SkSt.box {w wr : World} {H gp gq gs gt : Nat} {r c p q : Int} {ao bo : Option Addr} {n cap m d : Nat} {po qo : Option Addr} {pc qc s1 s2 t1 t2 : Nat} {so : Option Addr} {sd : Nat} {S : List Nat} {ro : Option Addr} {rd : Nat} {T : List Nat} (h : SkSt w wr H gp gq gs gt r c p q ao bo n cap m d po qo pc qc s1 s2 t1 t2 so sd S ro rd T) {g : Nat} {x y : Int} {xo : Option Addr} {xn xd : Nat} (hx : BoxM wr g (.int .i64 x) (.int .i64 y) (.slice xo xn xd)) (h0 : w.heap.size + 1 < g) (h1 : gp ≠ g) (h2 : gq ≠ g) (h3 : gs ≠ g) (h4 : gt ≠ g) (hc : H ≤ g) (u u' u'' : Value) : SkSt w (((wr.setCell ⟨g, 0, none⟩ u).setCell ⟨g, 1, none⟩ u').setCell ⟨g, 2, none⟩ u'') H gp gq gs gt r c p q ao bo n cap m d po qo pc qc s1 s2 t1 t2 so sd S ro rd T :=
  ⟨below_putM h.bel (by omega) u u' u'', h.a.three (by omega) u u' u'', h.b.three (by omega) u u' u'', h.pb.three h1 u u' u'', h.qb.three h2 u u' u'', h.cp.three hc u u' u'', h.cq.three hc u u' u'', ⟨h.s.box.three h3 u u' u'', h.s.bits.putM hx u u' u'', h.s.new⟩, ⟨h.t.box.three h4 u u' u'', h.t.bits.putM hx u u' u'', h.t.new⟩⟩

end Go.Proofs.YtheepcdlakjdcaaGreatDoor

