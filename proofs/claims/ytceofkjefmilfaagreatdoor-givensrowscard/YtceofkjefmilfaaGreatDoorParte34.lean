/- Part 34 of the texts. -/
import Derived.Test.YtceofkjefmilfaaGreatDoorParte33
import Derived.Deep.RegionLaw
import Derived.Test.YtceofkjefmilfaaGreatDoorParte24
import Derived.Deep.RegionHeld3
import Derived.Test.YtceofkjefmilfaaGreatDoorParte27
/- The reference of layer 10: In, Copy, Stack, Beside. -/
namespace Go.Proofs.YtceofkjefmilfaaGreatDoor
open Go.RowKit
attribute [local go_sem ↓] Go.wp_at_zero Go.wp_at_succ
theorem OwnB.least {base base' : Nat} {w : World} {v : Value} {S : List Nat} (h : OwnB base w v S) (hb : base' ≤ base) : OwnB base' w v S := by
  refine ⟨⟨h.1.1, ?_⟩, h.2⟩
  rcases h.1.2 with e | ⟨g, cap, cur, hv, hg, rest⟩
  · exact .inl e
  · exact .inr ⟨g, cap, cur, hv, Nat.le_trans hb hg, rest⟩
/-- Stores into a box that lies elsewhere. -/
theorem OwnB.putM {base : Nat} {w : World} {v : Value} {S : List Nat} (h : OwnB base w v S) {b : Nat} {x y z : Value} (_hx : BoxM w b x y z) (hb : b < base) (u u' u'' : Value) : OwnB base (((w.setCell ⟨b, 0, none⟩ u).setCell ⟨b, 1, none⟩ u').setCell ⟨b, 2, none⟩ u'') v S := by
  refine ⟨⟨h.1.1, ?_⟩, h.2⟩
  rcases h.1.2 with e | ⟨g, cap, cur, hv, hg, hh, rest⟩
  · exact .inl e
  · refine .inr ⟨g, cap, cur, hv, hg, ?_, rest⟩
    have ne : g ≠ b := by omega
    rw [Below.heap_setCell _ ⟨b, 2, none⟩ u'' g ne, Below.heap_setCell _ ⟨b, 1, none⟩ u' g ne, Below.heap_setCell _ ⟨b, 0, none⟩ u g ne]
    exact hh

set_option maxRecDepth 20000 in
set_option maxHeartbeats 8000000 in
theorem rcopy_any (r c : Int) (ao : Option Addr) (cap : Nat) (I : List Int) (w : World) (h : BitsAt w ao cap I) (hl : I.length ≤ 17592186043904) :
    Calls Tryz.prog 12 #[.agg #[.int .i64 r, .int .i64 c, .slice ao I.length cap]] w fun e w' => ∃ po pc, e = .returned (.agg #[.int .i64 r, .int .i64 c, .slice po I.length pc]) ∧ OwnB w.heap.size w' (.slice po I.length pc) (natL I) ∧ Below w.heap.size w w' := by
  have b0 := below_alloc9 w (.cells #[.int .i64 r, .int .i64 c, .slice ao I.length cap] 35)
  have s0 := size_alloc9 w (.cells #[.int .i64 r, .int .i64 c, .slice ao I.length cap] 35)
  have b1 := below_alloc9 (w.alloc (.cells #[.int .i64 r, .int .i64 c, .slice ao I.length cap] 35)) (.cells #[.int .i64 0, .int .i64 0, .slice none 0 0] 35)
  have s1 := size_alloc9 (w.alloc (.cells #[.int .i64 r, .int .i64 c, .slice ao I.length cap] 35)) (.cells #[.int .i64 0, .int .i64 0, .slice none 0 0] 35)
  have bb := b0.trans (b1.mono b0.size)
  have bits := h.below bb
  have KB := hide (fun w1 => boxes2 w (.int .i64 r) (.int .i64 c) (.slice ao I.length cap) (.int .i64 0) (.int .i64 0) (.slice none 0 0) w1)
  rw [s0] at s1
  have KC := hide (fun w' (hb : Below (w.heap.size + 1 + 1) ((w.alloc (.cells #[.int .i64 r, .int .i64 c, .slice ao I.length cap] 35)).alloc (.cells #[.int .i64 0, .int .i64 0, .slice none 0 0] 35)) w') (hz : w'.heap.size = w.heap.size + 1 + 1) => (show ∃ po pc w'', (Builtin.append_ #[33, 33] 33 #[.slice (some ⟨w.heap.size + 1 + 1, 0, none⟩) 0 0, .slice ao I.length cap]).run Tryz.prog (w'.alloc (.cells #[] 23)) = .ok (.slice po I.length pc) w'' ∧ (OwnB (w.heap.size + 1 + 1) w'' (.slice po I.length pc) (natL I) ∧ Below (w.heap.size + 1 + 1) ((w.alloc (.cells #[.int .i64 r, .int .i64 c, .slice ao I.length cap] 35)).alloc (.cells #[.int .i64 0, .int .i64 0, .slice none 0 0] 35)) w'') from by
    have b2 := below_alloc9 w' (.cells #[] 23)
    have on := OwnB.nil w' (w.heap.size + 1 + 1) (by omega)
    have bt := (bits.below (by rw [s1]; exact hb)).below b2
    obtain ⟨po, pc, w1, run, own, gr⟩ := copy_bits _ (w.heap.size + 1 + 1) 33 ao cap I _ bt hl on.1 (by simp; omega)
    rw [hz] at run
    exact ⟨po, pc, w1, run, own, hb.trans ((b2.mono (by omega)).grown gr (by simp; omega) (fun g hg => by cases hg; omega))⟩))
  clear b0 b1 s0 s1 bb bits h
  obtain ⟨l, hl'⟩ : ∃ l, I.length = l := ⟨_, rfl⟩
  have HL := hide hl'
  rw [hl'] at KB KC hl ⊢
  clear hl'
  have HK := hide (fun w' (hb : Below (w.heap.size + 1 + 1) ((w.alloc (.cells #[.int .i64 r, .int .i64 c, .slice ao l cap] 35)).alloc (.cells #[.int .i64 0, .int .i64 0, .slice none 0 0] 35)) w') => (show w'.cell? ⟨w.heap.size, 0, none⟩ = some (.int .i64 r) ∧ w'.cell? ⟨w.heap.size, 1, none⟩ = some (.int .i64 c) ∧ w'.cell? ⟨w.heap.size, 2, none⟩ = some (.slice ao l cap) from
    ⟨(unhide KB w' hb).2.1.c0, (unhide KB w' hb).2.1.c1, (unhide KB w' hb).2.1.c2⟩))
  have HP := hide (fun w5 (u u' u'' : Value) (hb : Below (w.heap.size + 1 + 1) ((w.alloc (.cells #[.int .i64 r, .int .i64 c, .slice ao l cap] 35)).alloc (.cells #[.int .i64 0, .int .i64 0, .slice none 0 0] 35)) w5) => (show (((w5.setCell ⟨w.heap.size + 1, 0, none⟩ u).setCell ⟨w.heap.size + 1, 1, none⟩ u').setCell ⟨w.heap.size + 1, 2, none⟩ u'').cell? ⟨w.heap.size, 0, none⟩ = some (.int .i64 r) ∧ (((w5.setCell ⟨w.heap.size + 1, 0, none⟩ u).setCell ⟨w.heap.size + 1, 1, none⟩ u').setCell ⟨w.heap.size + 1, 2, none⟩ u'').cell? ⟨w.heap.size, 1, none⟩ = some (.int .i64 c) ∧ (((w5.setCell ⟨w.heap.size + 1, 0, none⟩ u).setCell ⟨w.heap.size + 1, 1, none⟩ u').setCell ⟨w.heap.size + 1, 2, none⟩ u'').cell? ⟨w.heap.size, 2, none⟩ = some (.slice ao l cap) from by
    have X := (unhide KB w5 hb).2.1
    have Y := ((X.other (p := ⟨w.heap.size + 1, 0, none⟩) (by show w.heap.size ≠ w.heap.size + 1; omega) u).other (p := ⟨w.heap.size + 1, 1, none⟩) (by show w.heap.size ≠ w.heap.size + 1; omega) u').other (p := ⟨w.heap.size + 1, 2, none⟩) (by show w.heap.size ≠ w.heap.size + 1; omega) u''
    exact ⟨Y.c0, Y.c1, Y.c2⟩))
  go_enter Tryz.func12, Tryz.ntmps12
  go_wp2_with fail
  go_region_held3 (fun w' => w'.cell? ⟨w.heap.size, 0, none⟩ = some (.int .i64 r) ∧ w'.cell? ⟨w.heap.size, 1, none⟩ = some (.int .i64 c) ∧ w'.cell? ⟨w.heap.size, 2, none⟩ = some (.slice ao l cap))
    (first | exact unhide HK _ (Below.refl _ _).drew | exact unhide HK _ (by assumption) | exact unhide HK _ ((Below.refl _ _).drew.alloc (by simp) _) | exact unhide HP _ _ _ _ (by assumption) | fail "KK")
    (first | (refine step_append_ex _ (by rfl) _ _ 33 (by rfl) _ _ _ _ (by rfl) (by rfl) (unhide KC _ (Below.refl _ _).drew (by first | rfl | simp)) ?_; rintro po pc w5 ⟨own5, bel5⟩; obtain ⟨B5, A5, X5⟩ := unhide KB w5 bel5; have u0 := X5.c0; have u1 := X5.c1; have u2 := X5.c2; have f0 := X5.free 0; have f1 := X5.free 1; have f2 := X5.free 2; have HO := hide own5; have HB := hide B5; have HX := hide X5; clear own5 A5 X5 B5) | fail "NO ARM")
  all_goals
    have XP := (unhide HX).put (.int .i64 r) (.int .i64 c) (.slice po l pc)
    have z0 := XP.c0; have z1 := XP.c1; have z2 := XP.c2
    have OP := hide ((unhide HO).putM (unhide HX) (by omega) (.int .i64 r) (.int .i64 c) (.slice po l pc))
    have BP := hide (below_putM (unhide HB) (b := w.heap.size + 1) (by omega) (.int .i64 r) (.int .i64 c) (.slice po l pc))
    clear XP HX HO HB
    go_wp2
    exact bodyPost_ret (v := .agg #[.int .i64 r, .int .i64 c, .slice po l pc]) (by simp [results, Tryz.results12, go_sem, z0, z1, z2]) rfl ⟨po, pc, rfl, (unhide OP).least (by omega), unhide BP⟩

end Go.Proofs.YtceofkjefmilfaaGreatDoor

/- The law of layer 10: awake, spoil. -/
namespace Go.Proofs.YtceofkjefmilfaaGreatDoor
open Go.RowKit
attribute [local go_sem ↓] Go.wp_at_zero Go.wp_at_succ
/-- A cell of a list of numbers lies in no matrix's box. -/
theorem BoxM.away {w : World} {g b k : Nat} {x y : Int} {a : Option Addr} {n d : Nat} {z : Int} (hx : BoxM w b (.int .i64 x) (.int .i64 y) (.slice a n d)) (hc : w.cell? ⟨g, k, none⟩ = some (.int .u64 z)) : b ≠ g := by
  rintro rfl
  rw [cell_of_row w b k _ _ _ hx] at hc
  rcases (show k = 0 ∨ k = 1 ∨ k = 2 ∨ 3 ≤ k by omega) with e | e | e | e
  · subst e; simp at hc
  · subst e; simp at hc
  · subst e; simp at hc
  · rw [Array.getElem?_eq_none (by simp; omega)] at hc; simp at hc

end Go.Proofs.YtceofkjefmilfaaGreatDoor

/- Layer 10: differences (the program's Sub and the reference's), the reference's columns. -/
namespace Go.Proofs.YtceofkjefmilfaaGreatDoor
open Go.RowKit
attribute [local go_sem ↓] Go.wp_at_zero Go.wp_at_succ

set_option maxRecDepth 20000 in
set_option maxHeartbeats 4000000 in
theorem r9sub_of (a b v : Nat) (o : Option Nat) (w : World)
    (hA : ∀ i w', (binOp .sub i (.float .f64 a) (.float .f64 b)).run Tryz.prog w' = .ok (.float .f64 (fres o a b w')) (fwld o w'))
    (F1 : ∀ w', Calls Tryz.prog 82 #[.int .u64 a] w' fun r w'' => r = .returned (.float .f64 a) ∧ w' = w'')
    (F2 : ∀ w', Calls Tryz.prog 82 #[.int .u64 b] w' fun r w'' => r = .returned (.float .f64 b) ∧ w' = w'')
    (N1 : ∀ u w', Calls Tryz.prog 80 #[.float .f64 (fres o a b u)] w' fun r w'' => r = .returned (.int .u64 v) ∧ w' = w'') :
    Calls Tryz.prog 54 #[.int .u64 a, .int .u64 b] w fun r w' => r = .returned (.int .u64 (v : Nat)) ∧ Below w.heap.size w w' := by
  have L1 := hide F1; have L2 := hide F2; have M1 := hide N1
  have B := hide (below_fwld o w)
  clear F1 F2 N1
  go_enter Tryz.func54, Tryz.ntmps54
  go_wp2_with fail
  refine (unhide L1 _).mono ?_
  rintro e w2 ⟨rfl, rfl⟩
  go_wp2_with fail
  refine (unhide L2 _).mono ?_
  rintro e w2 ⟨rfl, rfl⟩
  go_wp2_with fail
  refine (unhide M1 _ _).mono ?_
  rintro e w2 ⟨rfl, rfl⟩
  clear L1 L2 M1
  go_wp2
  go_ret
  exact ⟨rfl, unhide B⟩

theorem r9sub_any (a b : Nat) (w : World) (ha : a < 18446744073709551616) (hb : b < 18446744073709551616) :
    Calls Tryz.prog 54 #[.int .u64 a, .int .u64 b] w fun r w' => r = .returned (.int .u64 (aV a (fN b) : Nat)) ∧ Below w.heap.size w w' := by
  refine r9sub_of a b (aV a (fN b)) (Ieee.double.sub a b) w (fun i w' => fsub_run i a b w') (fun w' => f9_any a w' ha) (fun w' => f9_any b w' hb) (fun u w' => b9_of _ _ w' (fun w'' => ?_))
  rw [fsub_add a b hb]
  cases h : Ieee.double.add a (fN b) with
  | some r =>
    have := canon_add a (fN b) u w'' ha (fN_lt b hb)
    rw [h] at this
    exact this
  | none =>
    have hn : aN a (fN b) = true := by
      cases e : aN a (fN b) with
      | true => rfl
      | false => rw [fadd_some a (fN b) ha (fN_lt b hb) e] at h; cases h
    rw [(fadd_none a (fN b) ha (fN_lt b hb) hn).2]
    obtain ⟨h3, h4⟩ := fres_none a b u
    have := canon_any _ w'' h3
    rw [if_pos h4] at this
    exact this

end Go.Proofs.YtceofkjefmilfaaGreatDoor

/- The reference of layer 9: Div; of layer 12: Turn. -/
namespace Go.Proofs.YtceofkjefmilfaaGreatDoor
open Go.RowKit
attribute [local go_sem ↓] Go.wp_at_zero Go.wp_at_succ
theorem gvK_range (f g : Nat) : -1074 ≤ gvK f g ∧ gvK f g ≤ 1024 := by
  have h1 := fR_lt f; have h2 := fR_lt g
  exact eX_range _ (by omega)
end Go.Proofs.YtceofkjefmilfaaGreatDoor

/- The reference of layer 12: Rows, Cols. -/
namespace Go.Proofs.YtceofkjefmilfaaGreatDoor
open Go.RowKit
attribute [local go_sem ↓] Go.wp_at_zero Go.wp_at_succ

/-- The first j columns of two rows turned. -/
def roJ (r c : Nat) (S : List Nat) (i k C s j : Nat) : List Nat := mkM r c (fun p q => if q < j then (if p = i then aV (mV C (elM c S i q)) (mV s (elM c S k q)) else if p = k then aV (mV C (elM c S k q)) (fN (mV s (elM c S i q))) else elM c S p q) else elM c S p q)
theorem roJ_0 (r c : Nat) (S : List Nat) (i k C s : Nat) (h : S.length = r * c) : roJ r c S i k C s 0 = S := by
  unfold roJ
  rw [← mkM_of r c S h]
  refine mkM_congr (fun p q _ _ => ?_)
  rw [mkM_of r c S h, if_neg (by omega)]
  rfl
theorem roJ_all (r c : Nat) (S : List Nat) (i k C s : Nat) : roJ r c S i k C s c = roM r c S i k C s := by
  unfold roJ roM
  exact mkM_congr (fun p q _ hq => if_pos hq)
theorem roJ_len (r c : Nat) (S : List Nat) (i k C s j : Nat) : (roJ r c S i k C s j).length = r * c := mkM_len _ _ _
theorem roJ_set (r c : Nat) (S : List Nat) {i k C s j : Nat} (hi : i < r) (hk : k < r) (hne : i ≠ k) (hj : j < c) :
    ((roJ r c S i k C s j).set (i * c + j) (aV (mV C (elM c S i j)) (mV s (elM c S k j)))).set (k * c + j) (aV (mV C (elM c S k j)) (fN (mV s (elM c S i j)))) = roJ r c S i k C s (j + 1) := by
  unfold roJ
  rw [mkM_set r c _ _ hi hj, mkM_set r c _ _ hk hj]
  refine mkM_congr (fun p q _ _ => ?_)
  by_cases q1 : q < j
  · rw [if_neg (fun e => by omega), if_neg (fun e => by omega), if_pos q1, if_pos (show q < j + 1 by omega)]
  · by_cases q2 : q = j
    · subst q2
      by_cases p2 : p = k
      · rw [if_pos ⟨p2, rfl⟩, if_pos (show q < q + 1 by omega), if_neg (fun e => hne (e.symm.trans p2)), if_pos p2]
      · rw [if_neg (fun e => p2 e.1)]
        by_cases p1 : p = i
        · rw [if_pos ⟨p1, rfl⟩, if_pos (show q < q + 1 by omega), if_pos p1]
        · rw [if_neg (fun e => p1 e.1), if_neg (show ¬ q < q by omega), if_pos (show q < q + 1 by omega), if_neg p1, if_neg p2]
    · rw [if_neg (fun e => q2 e.2), if_neg (fun e => q2 e.2), if_neg q1, if_neg (show ¬ q < j + 1 by omega)]

/-- What holds in the reference's Rows: the matrix's box, the result's, the variable's. -/
def RoSt (w wr : World) (r c n cap : Nat) (ao : Option Addr) (T : List Nat) (po : Option Addr) (pc : Nat) : Prop :=
  BoxM wr w.heap.size (.int .i64 r) (.int .i64 c) (.slice ao n cap) ∧ BoxM wr (w.heap.size + 1) (.int .i64 0) (.int .i64 0) (.slice none 0 0) ∧ BoxM wr (w.heap.size + 1 + 1) (.int .i64 r) (.int .i64 c) (.slice po n pc) ∧ BitsAt wr po pc (mxL T) ∧ T.length = n ∧ Below w.heap.size w wr

theorem RoSt.all {w wr w' : World} {r c n cap : Nat} {ao : Option Addr} {T : List Nat} {po : Option Addr} {pc : Nat} (h : RoSt w wr r c n cap ao T po pc) (hb : Below wr.heap.size wr w') : RoSt w w' r c n cap ao T po pc :=
  ⟨h.1.all hb, h.2.1.all hb, h.2.2.1.all hb, h.2.2.2.1.below hb, h.2.2.2.2.1, h.2.2.2.2.2.trans (hb.mono h.2.2.2.2.2.size)⟩
theorem RoSt.put {w wr : World} {r c n cap : Nat} {ao : Option Addr} {T : List Nat} {po : Option Addr} {pc : Nat} (h : RoSt w wr r c n cap ao T po pc) {U : List Nat} {qo : Option Addr} {qc : Nat} (hU : BitsAt wr qo qc (mxL U)) (hl : U.length = n) :
    RoSt w (((wr.setCell ⟨w.heap.size + 1 + 1, 0, none⟩ (.int .i64 r)).setCell ⟨w.heap.size + 1 + 1, 1, none⟩ (.int .i64 c)).setCell ⟨w.heap.size + 1 + 1, 2, none⟩ (.slice qo n qc)) r c n cap ao U qo qc := by
  obtain ⟨h1, h2, h3, h4, h5, h6⟩ := h
  have n0 : w.heap.size ≠ w.heap.size + 1 + 1 := by omega
  have n1 : w.heap.size + 1 ≠ w.heap.size + 1 + 1 := by omega
  exact ⟨((h1.other (p := ⟨w.heap.size + 1 + 1, 0, none⟩) n0 _).other (p := ⟨w.heap.size + 1 + 1, 1, none⟩) n0 _).other (p := ⟨w.heap.size + 1 + 1, 2, none⟩) n0 _, ((h2.other (p := ⟨w.heap.size + 1 + 1, 0, none⟩) n1 _).other (p := ⟨w.heap.size + 1 + 1, 1, none⟩) n1 _).other (p := ⟨w.heap.size + 1 + 1, 2, none⟩) n1 _, h3.put _ _ _, hU.putM h3 _ _ _, hl, below_putM h6 (by omega) _ _ _⟩
theorem RoSt.start (w : World) (r c n cap : Nat) (ao : Option Addr) (T : List Nat) (hT : BitsAt w ao cap (mxL T)) (hl : T.length = n) : RoSt w (((w.alloc (.cells #[.int .i64 r, .int .i64 c, .slice ao n cap] 35)).alloc (.cells #[.int .i64 0, .int .i64 0, .slice none 0 0] 35)).alloc (.cells #[.int .i64 r, .int .i64 c, .slice ao n cap] 35)) r c n cap ao T ao cap := by
  have b0 := below_alloc9 w (.cells #[.int .i64 r, .int .i64 c, .slice ao n cap] 35)
  have s0 := size_alloc9 w (.cells #[.int .i64 r, .int .i64 c, .slice ao n cap] 35)
  have x0 := BoxM.new w (.int .i64 r) (.int .i64 c) (.slice ao n cap)
  have t0 := hT.below b0
  generalize w.alloc (.cells #[.int .i64 r, .int .i64 c, .slice ao n cap] 35) = w0 at *
  have b1 := below_alloc9 w0 (.cells #[.int .i64 0, .int .i64 0, .slice none 0 0] 35)
  have s1 := size_alloc9 w0 (.cells #[.int .i64 0, .int .i64 0, .slice none 0 0] 35)
  have x1 := BoxM.new w0 (.int .i64 0) (.int .i64 0) (.slice none 0 0)
  generalize w0.alloc (.cells #[.int .i64 0, .int .i64 0, .slice none 0 0] 35) = w1 at *
  have b2 := below_alloc9 w1 (.cells #[.int .i64 r, .int .i64 c, .slice ao n cap] 35)
  have x2 := BoxM.new w1 (.int .i64 r) (.int .i64 c) (.slice ao n cap)
  rw [s0] at x1 s1
  rw [s1] at x2
  have b01 := b0.trans (b1.mono b0.size)
  exact ⟨(x0.all b1).all b2, x1.all b2, x2, (t0.below b1).below b2, hl, b01.trans (b2.mono b01.size)⟩

set_option maxRecDepth 20000 in
set_option maxHeartbeats 16000000 in
theorem rrows12_of (r c n cap i k C s : Nat) (ao : Option Addr) (TJ TH : Nat → List Nat) (x y p1 p2 u q1 q2 v : Nat → Nat) (w : World) (hc : c ≤ 6) (h0 : BitsAt w ao cap (mxL (TJ 0))) (lJ : ∀ j, (TJ j).length = n) (lH : ∀ j, (TH j).length = n)
    (A1 : ∀ w' j, Below w.heap.size w w' → j < c → Calls Tryz.prog 52 #[.agg #[.int .i64 r, .int .i64 c, .slice ao n cap], .int .i64 i, .int .i64 (j : Nat)] w' fun e w'' => e = .returned (.int .u64 (x j : Nat)) ∧ Below w'.heap.size w' w'')
    (A2 : ∀ w' j, Below w.heap.size w w' → j < c → Calls Tryz.prog 52 #[.agg #[.int .i64 r, .int .i64 c, .slice ao n cap], .int .i64 k, .int .i64 (j : Nat)] w' fun e w'' => e = .returned (.int .u64 (y j : Nat)) ∧ Below w'.heap.size w' w'')
    (M1 : ∀ w' j, j < c → Calls Tryz.prog 45 #[.int .u64 C, .int .u64 (x j : Nat)] w' fun e w'' => e = .returned (.int .u64 (p1 j : Nat)) ∧ Below w'.heap.size w' w'')
    (M2 : ∀ w' j, j < c → Calls Tryz.prog 45 #[.int .u64 s, .int .u64 (y j : Nat)] w' fun e w'' => e = .returned (.int .u64 (p2 j : Nat)) ∧ Below w'.heap.size w' w'')
    (S1 : ∀ w' j, j < c → Calls Tryz.prog 44 #[.int .u64 (p1 j : Nat), .int .u64 (p2 j : Nat)] w' fun e w'' => e = .returned (.int .u64 (u j : Nat)) ∧ Below w'.heap.size w' w'')
    (W1 : ∀ w' j qo qc, j < c → BitsAt w' qo qc (mxL (TJ j)) → Calls Tryz.prog 53 #[.agg #[.int .i64 r, .int .i64 c, .slice qo n qc], .int .i64 i, .int .i64 (j : Nat), .int .u64 (u j : Nat)] w' fun e w'' => ∃ v, e = .returned v ∧ (∃ po pc, v = .agg #[.int .i64 r, .int .i64 c, .slice po n pc] ∧ BitsAt w'' po pc (mxL (TH j))) ∧ Below w'.heap.size w' w'')
    (M3 : ∀ w' j, j < c → Calls Tryz.prog 45 #[.int .u64 C, .int .u64 (y j : Nat)] w' fun e w'' => e = .returned (.int .u64 (q1 j : Nat)) ∧ Below w'.heap.size w' w'')
    (M4 : ∀ w' j, j < c → Calls Tryz.prog 45 #[.int .u64 s, .int .u64 (x j : Nat)] w' fun e w'' => e = .returned (.int .u64 (q2 j : Nat)) ∧ Below w'.heap.size w' w'')
    (S2 : ∀ w' j, j < c → Calls Tryz.prog 54 #[.int .u64 (q1 j : Nat), .int .u64 (q2 j : Nat)] w' fun e w'' => e = .returned (.int .u64 (v j : Nat)) ∧ Below w'.heap.size w' w'')
    (W2 : ∀ w' j qo qc, j < c → BitsAt w' qo qc (mxL (TH j)) → Calls Tryz.prog 53 #[.agg #[.int .i64 r, .int .i64 c, .slice qo n qc], .int .i64 k, .int .i64 (j : Nat), .int .u64 (v j : Nat)] w' fun e w'' => ∃ v, e = .returned v ∧ (∃ po pc, v = .agg #[.int .i64 r, .int .i64 c, .slice po n pc] ∧ BitsAt w'' po pc (mxL (TJ (j + 1)))) ∧ Below w'.heap.size w' w'') :
    Calls Tryz.prog 17 #[.agg #[.int .i64 r, .int .i64 c, .slice ao n cap], .int .i64 i, .int .i64 k, .int .u64 C, .int .u64 s] w fun e w' => ∃ po pc, e = .returned (.agg #[.int .i64 r, .int .i64 c, .slice po n pc]) ∧ BitsAt w' po pc (mxL (TJ c)) ∧ Below w.heap.size w w' := by
  have ST := hide (RoSt.start w r c n cap ao (TJ 0) h0 (lJ 0))
  have KA1 := hide A1; have KA2 := hide A2; have KM1 := hide M1; have KM2 := hide M2; have KS1 := hide S1; have KW1 := hide W1; have KM3 := hide M3; have KM4 := hide M4; have KS2 := hide S2; have KW2 := hide W2; have LJ := hide lJ; have LH := hide lH
  clear A1 A2 M1 M2 S1 W1 M3 M4 S2 W2 h0 lJ lH
  have y0 := (unhide ST).1.c0; have y1 := (unhide ST).1.c1; have y2 := (unhide ST).1.c2
  go_enter Tryz.func17, Tryz.ntmps17
  go_wp2_with fail
  clear y0 y1 y2
  go_loopw [12] (fun a wr => ∃ (j : Nat) (po : Option Addr) (pc : Nat), j ≤ c ∧ a = .int .i64 j ∧ Hid (RoSt w wr r c n cap ao (TJ j) po pc)) (fun a _ => c - (intOf a).toNat)
  case atStart => exact ⟨0, ao, cap, Nat.zero_le _, rfl, ST⟩
  case round =>
    clear ST
    obtain ⟨j, po, pc, hj, rfl, hS⟩ := hrel
    by_cases hlt : j < c
    · have hjI : (j : Int) < (c : Int) := by omega
      have y0 := (unhide hS).1.c0; have y1 := (unhide hS).1.c1; have y2 := (unhide hS).1.c2
      have WM1 := hide (fun w' => unhide KM1 w' j hlt); have WM2 := hide (fun w' => unhide KM2 w' j hlt); have WS1 := hide (fun w' => unhide KS1 w' j hlt); have WW1 := hide (fun w' qo qc h => unhide KW1 w' j qo qc hlt h)
      have WM3 := hide (fun w' => unhide KM3 w' j hlt); have WM4 := hide (fun w' => unhide KM4 w' j hlt); have WS2 := hide (fun w' => unhide KS2 w' j hlt); have WW2 := hide (fun w' qo qc h => unhide KW2 w' j qo qc hlt h)
      have WA1 := hide (fun w' h => unhide KA1 w' j h hlt); have WA2 := hide (fun w' h => unhide KA2 w' j h hlt)
      generalize x j = xx at *
      generalize y j = yy at *
      go_wp2_with fail
      refine (unhide WA1 _ (unhide hS).2.2.2.2.2).mono ?_
      rintro e w1 ⟨rfl, hb⟩
      replace hS := hide ((unhide hS).all hb)
      clear hb y0 y1 y2 WA1
      have y0 := (unhide hS).1.c0; have y1 := (unhide hS).1.c1; have y2 := (unhide hS).1.c2
      go_wp2_with fail
      refine (unhide WA2 _ (unhide hS).2.2.2.2.2).mono ?_
      rintro e w2 ⟨rfl, hb⟩
      replace hS := hide ((unhide hS).all hb)
      clear hb y0 y1 y2 WA2
      go_wp2_with fail
      refine at_world (fun W => RoSt w W r c n cap ao (TJ j) po pc) (unhide hS) ?_
      clear hS
      rintro W0 hS
      have SS := hide (hS.all ((Below.refl W0.heap.size W0).drew))
      clear hS
      have y0 := (unhide SS).2.2.1.c0; have y1 := (unhide SS).2.2.1.c1; have y2 := (unhide SS).2.2.1.c2
      go_region_with (first
        | (go_at_call_of 45 xx; refine (unhide WM1 _).mono ?_; rintro e w4 ⟨rfl, hb⟩; clear y0 y1 y2; have S4 := (unhide SS).all hb; have y0 := S4.2.2.1.c0; have y1 := S4.2.2.1.c1; have y2 := S4.2.2.1.c2; have f0 := S4.2.2.1.free 0; have f1 := S4.2.2.1.free 1; have f2 := S4.2.2.1.free 2; replace SS := hide S4; clear S4 hb;)
        | (go_at_call_of 45 yy; refine (unhide WM2 _).mono ?_; rintro e w4 ⟨rfl, hb⟩; clear y0 y1 y2; have S4 := (unhide SS).all hb; have y0 := S4.2.2.1.c0; have y1 := S4.2.2.1.c1; have y2 := S4.2.2.1.c2; have f0 := S4.2.2.1.free 0; have f1 := S4.2.2.1.free 1; have f2 := S4.2.2.1.free 2; replace SS := hide S4; clear S4 hb;)
        | (go_at_call 44; refine (unhide WS1 _).mono ?_; rintro e w4 ⟨rfl, hb⟩; clear y0 y1 y2; have S4 := (unhide SS).all hb; have y0 := S4.2.2.1.c0; have y1 := S4.2.2.1.c1; have y2 := S4.2.2.1.c2; have f0 := S4.2.2.1.free 0; have f1 := S4.2.2.1.free 1; have f2 := S4.2.2.1.free 2; replace SS := hide S4; clear S4 hb;)
        | (go_at_call 53; refine (unhide WW1 _ _ _ (unhide SS).2.2.2.1).mono ?_; rintro e w5 ⟨v5, rfl, ⟨po5, pc5, rfl, b5⟩, hb⟩; clear y0 y1 y2; have S5 := (unhide SS).all hb; have y0 := S5.2.2.1.c0; have y1 := S5.2.2.1.c1; have y2 := S5.2.2.1.c2; have f0 := S5.2.2.1.free 0; have f1 := S5.2.2.1.free 1; have f2 := S5.2.2.1.free 2; have P5 := hide (S5.put b5 (unhide LH j)); clear S5 hb b5 SS)
        | fail "NO ARM")
      all_goals
        clear y0 y1 y2 f0 f1 f2
        have hS := P5
        clear P5
        go_wp2_with fail
        refine at_world (fun W => RoSt w W r c n cap ao (TH j) po5 pc5) (unhide hS) ?_
        clear hS
        rintro W0 hS
        have SS := hide (hS.all ((Below.refl W0.heap.size W0).drew))
        clear hS
        have y0 := (unhide SS).2.2.1.c0; have y1 := (unhide SS).2.2.1.c1; have y2 := (unhide SS).2.2.1.c2
        go_region_with (first
          | (go_at_call_of 45 yy; refine (unhide WM3 _).mono ?_; rintro e w4 ⟨rfl, hb⟩; clear y0 y1 y2; have S4 := (unhide SS).all hb; have y0 := S4.2.2.1.c0; have y1 := S4.2.2.1.c1; have y2 := S4.2.2.1.c2; have f0 := S4.2.2.1.free 0; have f1 := S4.2.2.1.free 1; have f2 := S4.2.2.1.free 2; replace SS := hide S4; clear S4 hb;)
          | (go_at_call_of 45 xx; refine (unhide WM4 _).mono ?_; rintro e w4 ⟨rfl, hb⟩; clear y0 y1 y2; have S4 := (unhide SS).all hb; have y0 := S4.2.2.1.c0; have y1 := S4.2.2.1.c1; have y2 := S4.2.2.1.c2; have f0 := S4.2.2.1.free 0; have f1 := S4.2.2.1.free 1; have f2 := S4.2.2.1.free 2; replace SS := hide S4; clear S4 hb;)
          | (go_at_call 54; refine (unhide WS2 _).mono ?_; rintro e w4 ⟨rfl, hb⟩; clear y0 y1 y2; have S4 := (unhide SS).all hb; have y0 := S4.2.2.1.c0; have y1 := S4.2.2.1.c1; have y2 := S4.2.2.1.c2; have f0 := S4.2.2.1.free 0; have f1 := S4.2.2.1.free 1; have f2 := S4.2.2.1.free 2; replace SS := hide S4; clear S4 hb;)
          | (go_at_call 53; refine (unhide WW2 _ _ _ (unhide SS).2.2.2.1).mono ?_; rintro e w5 ⟨v5, rfl, ⟨po6, pc6, rfl, b6⟩, hb⟩; clear y0 y1 y2; have S5 := (unhide SS).all hb; have y0 := S5.2.2.1.c0; have y1 := S5.2.2.1.c1; have y2 := S5.2.2.1.c2; have f0 := S5.2.2.1.free 0; have f1 := S5.2.2.1.free 1; have f2 := S5.2.2.1.free 2; have P6 := hide (S5.put b6 (unhide LJ (j + 1))); clear S5 hb b6 SS)
          | fail "NO ARM")
        all_goals
          clear y0 y1 y2 f0 f1 f2
          go_wp2_with fail
          go_round
          case rel => exact ⟨j + 1, po6, pc6, by omega, by go_num, P6⟩
          case measure => simp [intOf]; omega
    · have hjj : j = c := by omega
      subst hjj
      obtain ⟨h1, h2, h3, h4, h5, h6⟩ := unhide hS
      have t1 := h1.c1
      have y0 := h3.c0; have y1 := h3.c1; have y2 := h3.c2
      have r0 := h2.c0; have r1 := h2.c1; have r2 := h2.c2
      have f0 := h2.free 0; have f1 := h2.free 1; have f2 := h2.free 2
      have XP := h2.put (.int .i64 r) (.int .i64 j) (.slice po n pc)
      have z0 := XP.c0; have z1 := XP.c1; have z2 := XP.c2
      have Q := hide (h4.putM h2 (.int .i64 r) (.int .i64 j) (.slice po n pc))
      have BP := hide (below_putM h6 (b := w.heap.size + 1) (by omega) (.int .i64 r) (.int .i64 j) (.slice po n pc))
      clear XP hS h1 h2 h3 h4 h5 h6
      go_wp2_with fail
      exact bodyPost_ret (v := .agg #[.int .i64 r, .int .i64 j, .slice po n pc]) (by simp [results, Tryz.results17, go_sem, z0, z1, z2]) rfl ⟨po, pc, rfl, unhide Q, unhide BP⟩

end Go.Proofs.YtceofkjefmilfaaGreatDoor

