/- Part 37 of the texts. -/
import Derived.Test.YtceofkjefmilfaaGreatDoorParte36
import Derived.Test.YtceofkjefmilfaaGreatDoorParte24
import Derived.Test.YtceofkjefmilfaaGreatDoorParte23
import Derived.Test.YtceofkjefmilfaaGreatDoorParte21
import Derived.Test.YtceofkjefmilfaaGreatDoorParte27
import Derived.Test.YtceofkjefmilfaaGreatDoorParte35
import Derived.Laws.CopyOwn
/- The law GivensRows, walked (mker.py). -/
namespace Go.Proofs.YtceofkjefmilfaaGreatDoor
open Go.RowKit
attribute [local go_sem ↓] Go.wp_at_zero Go.wp_at_succ

/-- Block b is a box of two cells, of type T. -/
def Bx2 (T : Nat) (w : World) (b : Nat) (x y : Value) : Prop := w.heap[b]? = some (.cells #[x, y] T (0, 0))
theorem Bx2.c0 {T : Nat} {w : World} {b : Nat} {x y : Value} (h : Bx2 T w b x y) : w.cell? ⟨b, 0, none⟩ = some x := by rw [cell_of_row w b 0 _ _ _ h]; rfl
theorem Bx2.c1 {T : Nat} {w : World} {b : Nat} {x y : Value} (h : Bx2 T w b x y) : w.cell? ⟨b, 1, none⟩ = some y := by rw [cell_of_row w b 1 _ _ _ h]; rfl
theorem Bx2.lt {T : Nat} {w : World} {b : Nat} {x y : Value} (h : Bx2 T w b x y) : b < w.heap.size := (Array.getElem?_eq_some_iff.1 h).1
theorem Bx2.all {T : Nat} {w w' : World} {b : Nat} {x y : Value} (h : Bx2 T w b x y) (hb : Below w.heap.size w w') : Bx2 T w' b x y := (hb.block b h.lt).trans h
theorem Bx2.new (T : Nat) (w : World) (x y : Value) : Bx2 T (w.alloc (.cells #[x, y] T)) w.heap.size x y := heap_alloc_new w _
theorem Bx2.other {T : Nat} {w : World} {b : Nat} {x y : Value} (h : Bx2 T w b x y) {p : Addr} (hp : b ≠ p.block) (u : Value) : Bx2 T (w.setCell p u) b x y := (Below.heap_setCell w p u b hp).trans h
theorem Bx2.three {T : Nat} {w : World} {b g : Nat} {x y : Value} (h : Bx2 T w b x y) (hg : b ≠ g) (u u' u'' : Value) : Bx2 T (((w.setCell ⟨g, 0, none⟩ u).setCell ⟨g, 1, none⟩ u').setCell ⟨g, 2, none⟩ u'') b x y :=
  ((h.other (p := ⟨g, 0, none⟩) hg u).other (p := ⟨g, 1, none⟩) hg u').other (p := ⟨g, 2, none⟩) hg u''

/-- What holds while the law's copy is spoiled, and behind it. -/
structure GrSt (w wr : World) (H go ga gb : Nat) (r c : Int) (ao : Option Addr) (n cap : Nat) (i k : Int) (C s : Nat) (po : Option Addr) (pc p1 p2 q1 q2 : Nat) (so : Option Addr) (sd : Nat) (S : List Nat) (ro : Option Addr) (rd : Nat) (T : List Nat) : Prop where
  bel : Below w.heap.size w wr
  m : BoxM wr w.heap.size (.int .i64 r) (.int .i64 c) (.slice ao n cap)
  x : Bx2 36 wr (w.heap.size + 1) (.int .i64 i) (.int .i64 k)
  y : Bx2 38 wr (w.heap.size + 1 + 1) (.int .u64 (C : Nat)) (.int .u64 (s : Nat))
  own : BoxM wr go (.int .i64 r) (.int .i64 c) (.slice po n pc)
  copy : CopyB (w.heap.size + 1 + 1 + 1) H wr po n
  s : AnsAt wr H ga p1 p2 so sd S
  t : AnsAt wr H gb q1 q2 ro rd T
theorem GrSt.all {w wr : World} {H go ga gb : Nat} {r c : Int} {ao : Option Addr} {n cap : Nat} {i k : Int} {C s : Nat} {po : Option Addr} {pc p1 p2 q1 q2 : Nat} {so : Option Addr} {sd : Nat} {S : List Nat} {ro : Option Addr} {rd : Nat} {T : List Nat} {w' : World} (h : GrSt w wr H go ga gb r c ao n cap i k C s po pc p1 p2 q1 q2 so sd S ro rd T) (hb : Below wr.heap.size wr w') : GrSt w w' H go ga gb r c ao n cap i k C s po pc p1 p2 q1 q2 so sd S ro rd T :=
  ⟨h.bel.trans (hb.mono h.bel.size), h.m.all hb, h.x.all hb, h.y.all hb, h.own.all hb, h.copy.below hb, h.s.all hb, h.t.all hb⟩
theorem GrSt.put {w wr : World} {H go ga gb : Nat} {r c : Int} {ao : Option Addr} {n cap : Nat} {i k : Int} {C s : Nat} {po : Option Addr} {pc p1 p2 q1 q2 : Nat} {so : Option Addr} {sd : Nat} {S : List Nat} {ro : Option Addr} {rd : Nat} {T : List Nat} (h : GrSt w wr H go ga gb r c ao n cap i k C s po pc p1 p2 q1 q2 so sd S ro rd T) {j : Nat} (hj : j < n) : ∃ g z0, po = some ⟨g, 0, none⟩ ∧ wr.cell? ⟨g, j, none⟩ = some (.int .u64 z0) ∧ wr.frozen? ⟨g, j, none⟩ = false ∧ ∀ z, GrSt w (wr.setCell ⟨g, j, none⟩ (.int .u64 z)) H go ga gb r c ao n cap i k C s po pc p1 p2 q1 q2 so sd S ro rd T := by
  obtain ⟨g, e1, e2, e3, e4⟩ := h.copy.resolve_left (by omega)
  obtain ⟨z0, cz⟩ := e4.cell hj
  exact ⟨g, z0, e1, cz, e4.free j, fun z => ⟨h.bel.setCell (p := ⟨g, j, none⟩) (by show w.heap.size ≤ g; omega) _, h.m.other (p := ⟨g, j, none⟩) (h.m.away cz) _, h.x.other (p := ⟨g, j, none⟩) (by show w.heap.size + 1 ≠ g; omega) _, h.y.other (p := ⟨g, j, none⟩) (by show w.heap.size + 1 + 1 ≠ g; omega) _, h.own.other (p := ⟨g, j, none⟩) (h.own.away cz) _, h.copy.set g j z, h.s.put cz e3 z, h.t.put cz e3 z⟩⟩
/-- Stores into a box that lies above all of it. -/
theorem GrSt.box {w wr : World} {H go ga gb : Nat} {r c : Int} {ao : Option Addr} {n cap : Nat} {i k : Int} {C s : Nat} {po : Option Addr} {pc p1 p2 q1 q2 : Nat} {so : Option Addr} {sd : Nat} {S : List Nat} {ro : Option Addr} {rd : Nat} {T : List Nat} (h : GrSt w wr H go ga gb r c ao n cap i k C s po pc p1 p2 q1 q2 so sd S ro rd T) {g : Nat} {x y : Int} {xo : Option Addr} {xn xd : Nat} (hx : BoxM wr g (.int .i64 x) (.int .i64 y) (.slice xo xn xd)) (h0 : w.heap.size + 1 + 1 < g) (h1 : go ≠ g) (h3 : ga ≠ g) (h4 : gb ≠ g) (hc : H ≤ g) (u u' u'' : Value) : GrSt w (((wr.setCell ⟨g, 0, none⟩ u).setCell ⟨g, 1, none⟩ u').setCell ⟨g, 2, none⟩ u'') H go ga gb r c ao n cap i k C s po pc p1 p2 q1 q2 so sd S ro rd T :=
  ⟨below_putM h.bel (by omega) u u' u'', h.m.three (by omega) u u' u'', h.x.three (by omega) u u' u'', h.y.three (by omega) u u' u'', h.own.three h1 u u' u'', h.copy.three hc u u' u'', ⟨h.s.box.three h3 u u' u'', h.s.bits.putM hx u u' u'', h.s.new⟩, ⟨h.t.box.three h4 u u' u'', h.t.bits.putM hx u u' u'', h.t.new⟩⟩

/-- Which rows and which columns there are. -/
def GrWay (r c i k f h : Int) (p1 p2 q1 q2 : Nat) (S T : List Nat) : Prop := (i < 0 ∧ f = 7 ∧ p1 = 0 ∧ p2 = 0 ∧ S = [] ∧ h = 7 ∧ q1 = 0 ∧ q2 = 0 ∧ T = []) ∨ (0 ≤ i ∧ r ≤ i ∧ c ≤ i ∧ f = 7 ∧ p1 = 0 ∧ p2 = 0 ∧ S = [] ∧ h = 7 ∧ q1 = 0 ∧ q2 = 0 ∧ T = []) ∨ (0 ≤ i ∧ r ≤ i ∧ i < c ∧ k < 0 ∧ f = 7 ∧ p1 = 0 ∧ p2 = 0 ∧ S = [] ∧ h = 7 ∧ q1 = 0 ∧ q2 = 0 ∧ T = []) ∨ (0 ≤ i ∧ r ≤ i ∧ i < c ∧ 0 ≤ k ∧ c ≤ k ∧ f = 7 ∧ p1 = 0 ∧ p2 = 0 ∧ S = [] ∧ h = 7 ∧ q1 = 0 ∧ q2 = 0 ∧ T = []) ∨ (0 ≤ i ∧ r ≤ i ∧ i < c ∧ 0 ≤ k ∧ k < c ∧ i = k ∧ f = 7 ∧ p1 = 0 ∧ p2 = 0 ∧ S = [] ∧ h = 7 ∧ q1 = 0 ∧ q2 = 0 ∧ T = []) ∨ (0 ≤ i ∧ r ≤ i ∧ i < c ∧ 0 ≤ k ∧ k < c ∧ ¬ i = k ∧ f = 7 ∧ p1 = 0 ∧ p2 = 0 ∧ S = [] ∧ h = 0) ∨ (0 ≤ i ∧ c ≤ i ∧ i < r ∧ k < 0 ∧ f = 7 ∧ p1 = 0 ∧ p2 = 0 ∧ S = [] ∧ h = 7 ∧ q1 = 0 ∧ q2 = 0 ∧ T = []) ∨ (0 ≤ i ∧ c ≤ i ∧ i < r ∧ 0 ≤ k ∧ r ≤ k ∧ f = 7 ∧ p1 = 0 ∧ p2 = 0 ∧ S = [] ∧ h = 7 ∧ q1 = 0 ∧ q2 = 0 ∧ T = []) ∨ (0 ≤ i ∧ c ≤ i ∧ i < r ∧ 0 ≤ k ∧ k < r ∧ i = k ∧ f = 7 ∧ p1 = 0 ∧ p2 = 0 ∧ S = [] ∧ h = 7 ∧ q1 = 0 ∧ q2 = 0 ∧ T = []) ∨ (0 ≤ i ∧ c ≤ i ∧ i < r ∧ 0 ≤ k ∧ k < r ∧ ¬ i = k ∧ f = 0 ∧ h = 7 ∧ q1 = 0 ∧ q2 = 0 ∧ T = []) ∨ (0 ≤ i ∧ i < r ∧ i < c ∧ k < 0 ∧ f = 7 ∧ p1 = 0 ∧ p2 = 0 ∧ S = [] ∧ h = 7 ∧ q1 = 0 ∧ q2 = 0 ∧ T = []) ∨ (0 ≤ i ∧ i < r ∧ i < c ∧ 0 ≤ k ∧ r ≤ k ∧ c ≤ k ∧ f = 7 ∧ p1 = 0 ∧ p2 = 0 ∧ S = [] ∧ h = 7 ∧ q1 = 0 ∧ q2 = 0 ∧ T = []) ∨ (0 ≤ i ∧ i < r ∧ i < c ∧ 0 ≤ k ∧ r ≤ k ∧ k < c ∧ ¬ i = k ∧ f = 7 ∧ p1 = 0 ∧ p2 = 0 ∧ S = [] ∧ h = 0) ∨ (0 ≤ i ∧ i < r ∧ i < c ∧ 0 ≤ k ∧ k < r ∧ c ≤ k ∧ ¬ i = k ∧ f = 0 ∧ h = 7 ∧ q1 = 0 ∧ q2 = 0 ∧ T = []) ∨ (0 ≤ i ∧ i < r ∧ i < c ∧ 0 ≤ k ∧ k < r ∧ k < c ∧ i = k ∧ f = 7 ∧ p1 = 0 ∧ p2 = 0 ∧ S = [] ∧ h = 7 ∧ q1 = 0 ∧ q2 = 0 ∧ T = []) ∨ (0 ≤ i ∧ i < r ∧ i < c ∧ 0 ≤ k ∧ k < r ∧ k < c ∧ ¬ i = k ∧ f = 0 ∧ h = 0)

set_option maxRecDepth 20000 in
set_option maxHeartbeats 32000000 in
theorem givensRows_of (r c : Int) (ao : Option Addr) (cap : Nat) (I : List Int) (i k : Int) (C s : Nat) (p1 p2 q1 q2 : Nat) (S T : List Nat) (f h : Int) (ok : Bool) (w : World) (hI : BitsAt w ao cap I) (hl : I.length ≤ 17592186043904)
    (way : (ok = false ∧ f = 1 ∧ h = 1 ∧ p1 = 0 ∧ p2 = 0 ∧ q1 = 0 ∧ q2 = 0 ∧ S = [] ∧ T = []) ∨ (ok = true ∧ GrWay r c i k f h p1 p2 q1 q2 S T)) (hS : S.length ≤ 36) (hTl : T.length ≤ 36)
    (C2 : ∀ w' po pc, Below w.heap.size w w' → BitsAt w' po pc I → Calls Tryz.prog 13 #[.agg #[.int .i64 r, .int .i64 c, .slice po I.length pc], .int .i64 i, .int .i64 k, .int .u64 C, .int .u64 s] w' fun e w'' => ∃ v, e = .returned (.tuple #[v, .int .i64 f]) ∧ NewM w'.heap.size w'' p1 p2 S v ∧ Below w'.heap.size w' w'')
    (C3 : ∀ w' po pc, Below w.heap.size w w' → BitsAt w' po pc I → Calls Tryz.prog 14 #[.agg #[.int .i64 r, .int .i64 c, .slice po I.length pc], .int .i64 i, .int .i64 k, .int .u64 C, .int .u64 s] w' fun e w'' => ∃ v, e = .returned (.tuple #[v, .int .i64 h]) ∧ NewM w'.heap.size w'' q1 q2 T v ∧ Below w'.heap.size w' w'')
    (C5 : okB r c I.length = ok)
    (C6 : 0 ≤ i → i < r → 0 ≤ k → k < r → ¬ i = k → ok = true → ∀ w', Below w.heap.size w w' → Calls Tryz.prog 17 #[.agg #[.int .i64 r, .int .i64 c, .slice ao I.length cap], .int .i64 i, .int .i64 k, .int .u64 C, .int .u64 s] w' fun e w'' => ∃ v, e = .returned v ∧ NewM 0 w'' p1 p2 S v ∧ Below w'.heap.size w' w'')
    (C7 : 0 ≤ i → i < c → 0 ≤ k → k < c → ¬ i = k → ok = true → ∀ w', Below w.heap.size w w' → Calls Tryz.prog 18 #[.agg #[.int .i64 r, .int .i64 c, .slice ao I.length cap], .int .i64 i, .int .i64 k, .int .u64 C, .int .u64 s] w' fun e w'' => ∃ v, e = .returned v ∧ NewM 0 w'' q1 q2 T v ∧ Below w'.heap.size w' w'')
    (CA : ∀ w', Below w.heap.size w w' → Calls Tryz.prog 10 #[] w' fun e w'' => e = .returned (.bool true) ∧ Below w'.heap.size w' w'') :
    Calls Tryz.prog 4 #[.agg #[.int .i64 r, .int .i64 c, .slice ao I.length cap], .agg #[.int .i64 i, .int .i64 k], .agg #[.int .u64 C, .int .u64 s]] w fun e w' => e = .returned (.bool true) ∧ Below w.heap.size w w' := by
  have WAY := hide way; have HSl := hide hS; have HTl := hide hTl
  have K2 := hide C2; have K3 := hide C3; have K6 := hide C6; have K7 := hide C7; have KA := hide CA
  have K5 := hide (fun w' => rright_any r c ao I.length cap w')
  rw [C5] at K5
  have b0 := below_alloc9 w (.cells #[.int .i64 r, .int .i64 c, .slice ao I.length cap] 35)
  have s0 := size_alloc9 w (.cells #[.int .i64 r, .int .i64 c, .slice ao I.length cap] 35)
  have x0 := BoxM.new w (.int .i64 r) (.int .i64 c) (.slice ao I.length cap)
  have b1 := below_alloc9 (w.alloc (.cells #[.int .i64 r, .int .i64 c, .slice ao I.length cap] 35)) (.cells #[.int .i64 i, .int .i64 k] 36)
  have z1 := size_alloc9 (w.alloc (.cells #[.int .i64 r, .int .i64 c, .slice ao I.length cap] 35)) (.cells #[.int .i64 i, .int .i64 k] 36)
  have x1 := Bx2.new 36 (w.alloc (.cells #[.int .i64 r, .int .i64 c, .slice ao I.length cap] 35)) (.int .i64 i) (.int .i64 k)
  have b2 := below_alloc9 ((w.alloc (.cells #[.int .i64 r, .int .i64 c, .slice ao I.length cap] 35)).alloc (.cells #[.int .i64 i, .int .i64 k] 36)) (.cells #[.int .u64 (C : Nat), .int .u64 (s : Nat)] 38)
  have z2 := size_alloc9 ((w.alloc (.cells #[.int .i64 r, .int .i64 c, .slice ao I.length cap] 35)).alloc (.cells #[.int .i64 i, .int .i64 k] 36)) (.cells #[.int .u64 (C : Nat), .int .u64 (s : Nat)] 38)
  have x2 := Bx2.new 38 ((w.alloc (.cells #[.int .i64 r, .int .i64 c, .slice ao I.length cap] 35)).alloc (.cells #[.int .i64 i, .int .i64 k] 36)) (.int .u64 (C : Nat)) (.int .u64 (s : Nat))
  rw [s0] at x1 z1
  rw [z1] at x2 z2
  have bb' := b0.trans (b1.mono b0.size)
  have bb := bb'.trans (b2.mono bb'.size)
  have HX0 := hide ((x0.all b1).all b2); have HX1 := hide (x1.all b2); have HX2 := hide x2; have HBB := hide bb; have HZ2 := hide z2
  have e0 := (x1.all b2).c0; have e1 := (x1.all b2).c1
  have K1 := hide (rcopy_any r c ao cap I _ (hI.below bb) hl)
  have SAME := hide (fun base w' po pc (o : OwnB base w' (.slice po I.length pc) (natL I)) => o.same hI)
  have hl2 := hide (show I.length ≤ 35184372088830 by omega)
  clear b0 s0 x0 b1 x1 b2 x2 z1 z2 bb bb' hI hl way hS hTl C2 C3 C5 C6 C7 CA
  go_enter Tryz.func4, Tryz.ntmps4
  go_wp2_with fail
  refine Calls.mono (unhide K1) ?_
  rintro e w1 ⟨po, pc, rfl, own1, hb1⟩
  have bel1 := (unhide HBB).trans (hb1.mono (unhide HBB).size)
  have ba := below_alloc9 w1 (.cells #[.int .i64 r, .int .i64 c, .slice po I.length pc] 35)
  have Q1 := hide ((unhide SAME _ _ _ _ own1).below ba)
  have CP := hide (((own1.copy.base (Nat.le_refl _)).base (show w.heap.size + 1 + 1 + 1 ≤ _ by rw [unhide HZ2]; exact Nat.le_refl _)).below ba)
  have BX := hide (BoxM.new w1 (.int .i64 r) (.int .i64 c) (.slice po I.length pc))
  have A0 := hide (((unhide HX0).all hb1).all ba); have A1 := hide (((unhide HX1).all hb1).all ba); have A2 := hide (((unhide HX2).all hb1).all ba)
  have B1 := hide (bel1.trans (ba.mono bel1.size))
  clear e0 e1 own1 hb1 bel1 ba K1 HX0 HX1 HX2 HBB SAME HZ2
  have e0 := (unhide A2).c0; have e1 := (unhide A2).c1
  go_wp2_with fail
  refine (unhide K2 _ _ _ (unhide B1) (unhide Q1)).mono ?_
  rintro e w2 ⟨v, rfl, ⟨so, sd, rfl, ns, qs⟩, hb2⟩
  have zz := hide (size_alloc9 w1 (.cells #[.int .i64 r, .int .i64 c, .slice po I.length pc] 35))
  have ba := below_alloc9 w2 (.cells #[.int .i64 p1, .int .i64 p2, .slice so S.length sd] 35)
  have NS := hide (ns.least (H' := w1.heap.size) (by rw [unhide zz]; omega))
  have QS := hide (qs.below ba)
  have XS := hide (BoxM.new w2 (.int .i64 p1) (.int .i64 p2) (.slice so S.length sd))
  have bel2 := (unhide B1).trans (hb2.mono (unhide B1).size)
  replace Q1 := hide (((unhide Q1).below hb2).below ba)
  replace CP := hide (((unhide CP).below hb2).below ba)
  replace BX := hide (((unhide BX).all hb2).all ba)
  replace A0 := hide (((unhide A0).all hb2).all ba); replace A1 := hide (((unhide A1).all hb2).all ba); replace A2 := hide (((unhide A2).all hb2).all ba)
  have B2 := hide (bel2.trans (ba.mono bel2.size))
  have HZ2 := hide (show w1.heap.size ≤ w2.heap.size from by have := hb2.size; rw [unhide zz] at this; omega)
  clear e0 e1 ns qs hb2 bel2 ba B1 K2 zz
  have e0 := (unhide A2).c0; have e1 := (unhide A2).c1
  have y0 := (unhide BX).c0; have y1 := (unhide BX).c1; have y2 := (unhide BX).c2
  go_wp2_with fail
  refine (unhide K3 _ _ _ (unhide B2) (unhide Q1)).mono ?_
  rintro e w3 ⟨v, rfl, ⟨ro, rd, rfl, nt, qt⟩, hb3⟩
  have ba := below_alloc9 w3 (.cells #[.int .i64 q1, .int .i64 q2, .slice ro T.length rd] 35)
  have zz := hide (size_alloc9 w2 (.cells #[.int .i64 p1, .int .i64 p2, .slice so S.length sd] 35))
  have bel3 := (unhide B2).trans (hb3.mono (unhide B2).size)
  have ST := hide (show GrSt w (w3.alloc (.cells #[.int .i64 q1, .int .i64 q2, .slice ro T.length rd] 35)) w1.heap.size w1.heap.size w2.heap.size w3.heap.size r c ao I.length cap i k C s po pc p1 p2 q1 q2 so sd S ro rd T from
    ⟨bel3.trans (ba.mono bel3.size), ((unhide A0).all hb3).all ba, ((unhide A1).all hb3).all ba, ((unhide A2).all hb3).all ba, ((unhide BX).all hb3).all ba, ((unhide CP).below hb3).below ba, ⟨((unhide XS).all hb3).all ba, ((unhide QS).below hb3).below ba, unhide NS⟩, ⟨BoxM.new w3 _ _ _, qt.below ba, nt.least (by rw [unhide zz]; have := unhide HZ2; omega)⟩⟩)
  clear e0 e1 y0 y1 y2 nt qt hb3 ba bel3 zz B2 A0 A1 A2 BX CP Q1 XS QS NS K3 HZ2
  have y0 := (unhide ST).own.c0; have y1 := (unhide ST).own.c1; have y2 := (unhide ST).own.c2
  generalize hg3 : w2.heap.size = g3 at *
  generalize hg4 : w3.heap.size = g4 at *
  go_wp2_with fail
  clear y0 y1 y2
  generalize hn : I.length = n at *
  go_loopw [14] (fun a wr => ∃ j : Nat, j ≤ n ∧ a = .int .i64 j ∧ Hid (GrSt w wr w1.heap.size w1.heap.size g3 g4 r c ao n cap i k C s po pc p1 p2 q1 q2 so sd S ro rd T)) (fun a _ => n - (intOf a).toNat)
  case atStart => exact ⟨0, Nat.zero_le _, rfl, ST⟩
  case round =>
    clear ST
    obtain ⟨j, hj, rfl, hX⟩ := hrel
    have t2 := (unhide hX).own.c2
    by_cases hlt : j < n
    · have hkI : (j : Int) < (n : Int) := by omega
      have hn2 := unhide hl2
      obtain ⟨g, z0, rfl, cz, fz, put⟩ := (unhide hX).put hlt
      have PUT := hide (fun z => put z)
      clear put hX
      go_wp2_with fail
      go_region_with fail
      all_goals
        go_wp2_with fail
        go_round
        case rel => exact ⟨j + 1, by omega, by go_num, hide ((unhide PUT _).all (Below.refl _ _).drew)⟩
        case measure => simp [intOf]; omega
    · have hkk : n = j := by omega
      subst hkk
      have a0 := (unhide hX).m.c0; have a1 := (unhide hX).m.c1; have a2 := (unhide hX).m.c2
      have ST := hX
      clear hX
      go_wp2_with fail
      refine (unhide K5 _).mono ?_
      rintro e w5 ⟨rfl, hb⟩
      clear a0 a1 a2 t2
      replace ST := hide ((unhide ST).all hb)
      have a0 := (unhide ST).m.c0; have a1 := (unhide ST).m.c1; have a2 := (unhide ST).m.c2
      have s0' := (unhide ST).s.box.c0; have s1' := (unhide ST).s.box.c1; have s2' := (unhide ST).s.box.c2
      have t0' := (unhide ST).t.box.c0; have t1' := (unhide ST).t.box.c1; have t2' := (unhide ST).t.box.c2
      clear hb K5
      rcases unhide WAY with ⟨rfl, rfl, rfl, rfl, rfl, rfl, rfl, rfl, rfl⟩ | ⟨rfl, wa⟩
      · clear WAY K6 K7
        simp only [List.length_nil] at s2' t2'
        go_wp2_with fail
        refine (told12_err _ _ _ _ _ _ _ 1 _ (.inl rfl)).mono ?_
        rintro e w8 ⟨rfl, hb⟩
        clear a0 a1 a2 s0' s1' s2' t0' t1' t2'
        replace ST := hide ((unhide ST).all hb)
        have a0 := (unhide ST).m.c0; have a1 := (unhide ST).m.c1; have a2 := (unhide ST).m.c2
        have s0' := (unhide ST).s.box.c0; have s1' := (unhide ST).s.box.c1; have s2' := (unhide ST).s.box.c2
        have t0' := (unhide ST).t.box.c0; have t1' := (unhide ST).t.box.c1; have t2' := (unhide ST).t.box.c2
        clear hb
        simp only [List.length_nil] at s2' t2'
        go_wp2_with fail
        refine (told12_err _ _ _ _ _ _ _ 1 _ (.inl rfl)).mono ?_
        rintro e w9 ⟨rfl, hb⟩
        clear a0 a1 a2 s0' s1' s2' t0' t1' t2'
        have BE := hide ((unhide ST).bel.trans (hb.mono (unhide ST).bel.size))
        clear hb ST
        go_wp2_with fail
        refine (unhide KA _ (unhide BE)).mono ?_
        rintro e w19 ⟨rfl, hb⟩
        replace BE := hide ((unhide BE).trans (hb.mono (unhide BE).size))
        clear hb
        go_wp2
        go_ret
        exact ⟨rfl, unhide BE⟩
      · clear WAY
        have BW := hide (below_alloc9 w5 (.cells #[.int .i64 0, .int .i64 0, .slice none 0 0] 35))
        have BW2 := hide (below_alloc9 (w5.alloc (.cells #[.int .i64 0, .int .i64 0, .slice none 0 0] 35)) (.cells #[.int .i64 0, .int .i64 0, .slice none 0 0] 35))
        have SZ := hide (size_alloc9 w5 (.cells #[.int .i64 0, .int .i64 0, .slice none 0 0] 35))
        have st8 := ((unhide ST).all (unhide BW)).all (unhide BW2)
        have XX := hide ((BoxM.new w5 (.int .i64 0) (.int .i64 0) (.slice none 0 0)).all (unhide BW2))
        have YY := BoxM.new (w5.alloc (.cells #[.int .i64 0, .int .i64 0, .slice none 0 0] 35)) (.int .i64 0) (.int .i64 0) (.slice none 0 0)
        rw [unhide SZ] at YY
        have HYY := hide YY
        have ORD := hide (show w.heap.size + 1 + 1 < w5.heap.size ∧ w1.heap.size < w5.heap.size ∧ g3 < w5.heap.size ∧ g4 < w5.heap.size from ⟨(unhide ST).y.lt, (unhide ST).own.lt, (unhide ST).s.box.lt, (unhide ST).t.box.lt⟩)
        replace ST := hide st8
        clear a0 a1 a2 s0' s1' s2' t0' t1' t2' BW BW2 SZ YY
        have a0 := st8.m.c0; have a1 := st8.m.c1; have a2 := st8.m.c2
        have e0 := st8.y.c0; have e1 := st8.y.c1
        clear st8
        unfold GrWay at wa
        rcases wa with ⟨h0, rfl, rfl, rfl, rfl, rfl, rfl, rfl, rfl⟩ | ⟨h0, h1, h2, rfl, rfl, rfl, rfl, rfl, rfl, rfl, rfl⟩ | ⟨h0, h1, h2, h3, rfl, rfl, rfl, rfl, rfl, rfl, rfl, rfl⟩ | ⟨h0, h1, h2, h3, h4, rfl, rfl, rfl, rfl, rfl, rfl, rfl, rfl⟩ | ⟨h0, h1, h2, h3, h4, rfl, rfl, rfl, rfl, rfl, rfl, rfl, rfl, rfl⟩ | ⟨h0, h1, h2, h3, h4, h5, rfl, rfl, rfl, rfl, rfl⟩ | ⟨h0, h1, h2, h3, rfl, rfl, rfl, rfl, rfl, rfl, rfl, rfl⟩ | ⟨h0, h1, h2, h3, h4, rfl, rfl, rfl, rfl, rfl, rfl, rfl, rfl⟩ | ⟨h0, h1, h2, h3, h4, rfl, rfl, rfl, rfl, rfl, rfl, rfl, rfl, rfl⟩ | ⟨h0, h1, h2, h3, h4, h5, rfl, rfl, rfl, rfl, rfl⟩ | ⟨h0, h1, h2, h3, rfl, rfl, rfl, rfl, rfl, rfl, rfl, rfl⟩ | ⟨h0, h1, h2, h3, h4, h5, rfl, rfl, rfl, rfl, rfl, rfl, rfl, rfl⟩ | ⟨h0, h1, h2, h3, h4, h5, h6, rfl, rfl, rfl, rfl, rfl⟩ | ⟨h0, h1, h2, h3, h4, h5, h6, rfl, rfl, rfl, rfl, rfl⟩ | ⟨h0, h1, h2, h3, h4, h5, rfl, rfl, rfl, rfl, rfl, rfl, rfl, rfl, rfl⟩ | ⟨h0, h1, h2, h3, h4, h5, h6, rfl, rfl⟩
        · have v0 := (unhide XX).c0; have v1 := (unhide XX).c1; have v2 := (unhide XX).c2
          have s0' := (unhide ST).s.box.c0; have s1' := (unhide ST).s.box.c1; have s2' := (unhide ST).s.box.c2
          simp only [List.length_nil] at s2'
          go_wp2_with fail
          refine (told12_err _ _ _ _ _ _ _ 7 _ (.inr rfl)).mono ?_
          rintro e w11 ⟨rfl, hb⟩
          replace ST := hide ((unhide ST).all hb); replace HYY := hide ((unhide HYY).all hb)
          clear hb XX a0 a1 a2 e0 e1 v0 v1 v2 s0' s1' s2'
          have v0 := (unhide HYY).c0; have v1 := (unhide HYY).c1; have v2 := (unhide HYY).c2
          have t0' := (unhide ST).t.box.c0; have t1' := (unhide ST).t.box.c1; have t2' := (unhide ST).t.box.c2
          simp only [List.length_nil] at t2'
          go_wp2_with fail
          refine (told12_err _ _ _ _ _ _ _ 7 _ (.inr rfl)).mono ?_
          rintro e w12 ⟨rfl, hb⟩
          have BE := hide ((unhide ST).bel.trans (hb.mono (unhide ST).bel.size))
          clear hb ST HYY
          go_wp2_with fail
          refine (unhide KA _ (unhide BE)).mono ?_
          rintro e w19 ⟨rfl, hb⟩
          replace BE := hide ((unhide BE).trans (hb.mono (unhide BE).size))
          clear hb
          go_wp2
          go_ret
          exact ⟨rfl, unhide BE⟩
        · have v0 := (unhide XX).c0; have v1 := (unhide XX).c1; have v2 := (unhide XX).c2
          have s0' := (unhide ST).s.box.c0; have s1' := (unhide ST).s.box.c1; have s2' := (unhide ST).s.box.c2
          simp only [List.length_nil] at s2'
          go_wp2_with fail
          refine (told12_err _ _ _ _ _ _ _ 7 _ (.inr rfl)).mono ?_
          rintro e w11 ⟨rfl, hb⟩
          replace ST := hide ((unhide ST).all hb); replace HYY := hide ((unhide HYY).all hb)
          clear hb XX a0 a1 a2 e0 e1 v0 v1 v2 s0' s1' s2'
          have v0 := (unhide HYY).c0; have v1 := (unhide HYY).c1; have v2 := (unhide HYY).c2
          have t0' := (unhide ST).t.box.c0; have t1' := (unhide ST).t.box.c1; have t2' := (unhide ST).t.box.c2
          simp only [List.length_nil] at t2'
          go_wp2_with fail
          refine (told12_err _ _ _ _ _ _ _ 7 _ (.inr rfl)).mono ?_
          rintro e w12 ⟨rfl, hb⟩
          have BE := hide ((unhide ST).bel.trans (hb.mono (unhide ST).bel.size))
          clear hb ST HYY
          go_wp2_with fail
          refine (unhide KA _ (unhide BE)).mono ?_
          rintro e w19 ⟨rfl, hb⟩
          replace BE := hide ((unhide BE).trans (hb.mono (unhide BE).size))
          clear hb
          go_wp2
          go_ret
          exact ⟨rfl, unhide BE⟩
        · have v0 := (unhide XX).c0; have v1 := (unhide XX).c1; have v2 := (unhide XX).c2
          have s0' := (unhide ST).s.box.c0; have s1' := (unhide ST).s.box.c1; have s2' := (unhide ST).s.box.c2
          simp only [List.length_nil] at s2'
          go_wp2_with fail
          refine (told12_err _ _ _ _ _ _ _ 7 _ (.inr rfl)).mono ?_
          rintro e w11 ⟨rfl, hb⟩
          replace ST := hide ((unhide ST).all hb); replace HYY := hide ((unhide HYY).all hb)
          clear hb XX a0 a1 a2 e0 e1 v0 v1 v2 s0' s1' s2'
          have v0 := (unhide HYY).c0; have v1 := (unhide HYY).c1; have v2 := (unhide HYY).c2
          have t0' := (unhide ST).t.box.c0; have t1' := (unhide ST).t.box.c1; have t2' := (unhide ST).t.box.c2
          simp only [List.length_nil] at t2'
          go_wp2_with fail
          refine (told12_err _ _ _ _ _ _ _ 7 _ (.inr rfl)).mono ?_
          rintro e w12 ⟨rfl, hb⟩
          have BE := hide ((unhide ST).bel.trans (hb.mono (unhide ST).bel.size))
          clear hb ST HYY
          go_wp2_with fail
          refine (unhide KA _ (unhide BE)).mono ?_
          rintro e w19 ⟨rfl, hb⟩
          replace BE := hide ((unhide BE).trans (hb.mono (unhide BE).size))
          clear hb
          go_wp2
          go_ret
          exact ⟨rfl, unhide BE⟩
        · have v0 := (unhide XX).c0; have v1 := (unhide XX).c1; have v2 := (unhide XX).c2
          have s0' := (unhide ST).s.box.c0; have s1' := (unhide ST).s.box.c1; have s2' := (unhide ST).s.box.c2
          simp only [List.length_nil] at s2'
          go_wp2_with fail
          refine (told12_err _ _ _ _ _ _ _ 7 _ (.inr rfl)).mono ?_
          rintro e w11 ⟨rfl, hb⟩
          replace ST := hide ((unhide ST).all hb); replace HYY := hide ((unhide HYY).all hb)
          clear hb XX a0 a1 a2 e0 e1 v0 v1 v2 s0' s1' s2'
          have v0 := (unhide HYY).c0; have v1 := (unhide HYY).c1; have v2 := (unhide HYY).c2
          have t0' := (unhide ST).t.box.c0; have t1' := (unhide ST).t.box.c1; have t2' := (unhide ST).t.box.c2
          simp only [List.length_nil] at t2'
          go_wp2_with fail
          refine (told12_err _ _ _ _ _ _ _ 7 _ (.inr rfl)).mono ?_
          rintro e w12 ⟨rfl, hb⟩
          have BE := hide ((unhide ST).bel.trans (hb.mono (unhide ST).bel.size))
          clear hb ST HYY
          go_wp2_with fail
          refine (unhide KA _ (unhide BE)).mono ?_
          rintro e w19 ⟨rfl, hb⟩
          replace BE := hide ((unhide BE).trans (hb.mono (unhide BE).size))
          clear hb
          go_wp2
          go_ret
          exact ⟨rfl, unhide BE⟩
        · have v0 := (unhide XX).c0; have v1 := (unhide XX).c1; have v2 := (unhide XX).c2
          have s0' := (unhide ST).s.box.c0; have s1' := (unhide ST).s.box.c1; have s2' := (unhide ST).s.box.c2
          simp only [List.length_nil] at s2'
          go_wp2_with fail
          refine (told12_err _ _ _ _ _ _ _ 7 _ (.inr rfl)).mono ?_
          rintro e w11 ⟨rfl, hb⟩
          replace ST := hide ((unhide ST).all hb); replace HYY := hide ((unhide HYY).all hb)
          clear hb XX a0 a1 a2 e0 e1 v0 v1 v2 s0' s1' s2'
          have v0 := (unhide HYY).c0; have v1 := (unhide HYY).c1; have v2 := (unhide HYY).c2
          have t0' := (unhide ST).t.box.c0; have t1' := (unhide ST).t.box.c1; have t2' := (unhide ST).t.box.c2
          simp only [List.length_nil] at t2'
          go_wp2_with fail
          refine (told12_err _ _ _ _ _ _ _ 7 _ (.inr rfl)).mono ?_
          rintro e w12 ⟨rfl, hb⟩
          have BE := hide ((unhide ST).bel.trans (hb.mono (unhide ST).bel.size))
          clear hb ST HYY
          go_wp2_with fail
          refine (unhide KA _ (unhide BE)).mono ?_
          rintro e w19 ⟨rfl, hb⟩
          replace BE := hide ((unhide BE).trans (hb.mono (unhide BE).size))
          clear hb
          go_wp2
          go_ret
          exact ⟨rfl, unhide BE⟩
        · go_wp2_with fail
          refine (unhide K7 (by omega) (by omega) (by omega) (by omega) (by omega) (by first | rfl | trivial) _ (unhide ST).bel).mono ?_
          rintro e w10 ⟨v, rfl, ⟨yo, yd, rfl, _, qx⟩, hb⟩
          clear a0 a1 a2 e0 e1
          replace ST := hide ((unhide ST).all hb); replace XX := hide ((unhide XX).all hb); replace HYY := hide ((unhide HYY).all hb)
          have f0 := (unhide HYY).free 0; have f1 := (unhide HYY).free 1; have f2 := (unhide HYY).free 2
          have u0 := (unhide HYY).c0; have u1 := (unhide HYY).c1; have u2 := (unhide HYY).c2
          have Qy := hide (qx.putM (unhide HYY) (.int .i64 q1) (.int .i64 q2) (.slice yo T.length yd))
          replace ST := hide ((unhide ST).box (unhide HYY) (by have := unhide ORD; omega) (by have := unhide ORD; omega) (by have := unhide ORD; omega) (by have := unhide ORD; omega) (by have := unhide ORD; omega) (.int .i64 q1) (.int .i64 q2) (.slice yo T.length yd))
          replace XX := hide ((unhide XX).three (g := w5.heap.size + 1) (by omega) (.int .i64 q1) (.int .i64 q2) (.slice yo T.length yd))
          replace HYY := hide ((unhide HYY).put (.int .i64 q1) (.int .i64 q2) (.slice yo T.length yd))
          clear qx hb K7
          have a0 := (unhide ST).m.c0; have a1 := (unhide ST).m.c1; have a2 := (unhide ST).m.c2
          have e0 := (unhide ST).y.c0; have e1 := (unhide ST).y.c1
          have v0 := (unhide XX).c0; have v1 := (unhide XX).c1; have v2 := (unhide XX).c2
          have s0' := (unhide ST).s.box.c0; have s1' := (unhide ST).s.box.c1; have s2' := (unhide ST).s.box.c2
          simp only [List.length_nil] at s2'
          go_wp2_with fail
          refine (told12_err _ _ _ _ _ _ _ 7 _ (.inr rfl)).mono ?_
          rintro e w11 ⟨rfl, hb⟩
          replace ST := hide ((unhide ST).all hb); replace HYY := hide ((unhide HYY).all hb)
          replace Qy := hide ((unhide Qy).below hb)
          clear hb XX a0 a1 a2 e0 e1 v0 v1 v2 s0' s1' s2' f0 f1 f2 u0 u1 u2
          have v0 := (unhide HYY).c0; have v1 := (unhide HYY).c1; have v2 := (unhide HYY).c2
          have t0' := (unhide ST).t.box.c0; have t1' := (unhide ST).t.box.c1; have t2' := (unhide ST).t.box.c2
          go_wp2_with fail
          refine (told12_ok _ _ _ _ _ _ T _ (unhide ST).t.bits (unhide Qy) (by have := unhide HTl; omega)).mono ?_
          rintro e w12 ⟨rfl, hb⟩
          have BE := hide ((unhide ST).bel.trans (hb.mono (unhide ST).bel.size))
          clear hb ST HYY
          go_wp2_with fail
          refine (unhide KA _ (unhide BE)).mono ?_
          rintro e w19 ⟨rfl, hb⟩
          replace BE := hide ((unhide BE).trans (hb.mono (unhide BE).size))
          clear hb
          go_wp2
          go_ret
          exact ⟨rfl, unhide BE⟩
        · have v0 := (unhide XX).c0; have v1 := (unhide XX).c1; have v2 := (unhide XX).c2
          have s0' := (unhide ST).s.box.c0; have s1' := (unhide ST).s.box.c1; have s2' := (unhide ST).s.box.c2
          simp only [List.length_nil] at s2'
          go_wp2_with fail
          refine (told12_err _ _ _ _ _ _ _ 7 _ (.inr rfl)).mono ?_
          rintro e w11 ⟨rfl, hb⟩
          replace ST := hide ((unhide ST).all hb); replace HYY := hide ((unhide HYY).all hb)
          clear hb XX a0 a1 a2 e0 e1 v0 v1 v2 s0' s1' s2'
          have v0 := (unhide HYY).c0; have v1 := (unhide HYY).c1; have v2 := (unhide HYY).c2
          have t0' := (unhide ST).t.box.c0; have t1' := (unhide ST).t.box.c1; have t2' := (unhide ST).t.box.c2
          simp only [List.length_nil] at t2'
          go_wp2_with fail
          refine (told12_err _ _ _ _ _ _ _ 7 _ (.inr rfl)).mono ?_
          rintro e w12 ⟨rfl, hb⟩
          have BE := hide ((unhide ST).bel.trans (hb.mono (unhide ST).bel.size))
          clear hb ST HYY
          go_wp2_with fail
          refine (unhide KA _ (unhide BE)).mono ?_
          rintro e w19 ⟨rfl, hb⟩
          replace BE := hide ((unhide BE).trans (hb.mono (unhide BE).size))
          clear hb
          go_wp2
          go_ret
          exact ⟨rfl, unhide BE⟩
        · have v0 := (unhide XX).c0; have v1 := (unhide XX).c1; have v2 := (unhide XX).c2
          have s0' := (unhide ST).s.box.c0; have s1' := (unhide ST).s.box.c1; have s2' := (unhide ST).s.box.c2
          simp only [List.length_nil] at s2'
          go_wp2_with fail
          refine (told12_err _ _ _ _ _ _ _ 7 _ (.inr rfl)).mono ?_
          rintro e w11 ⟨rfl, hb⟩
          replace ST := hide ((unhide ST).all hb); replace HYY := hide ((unhide HYY).all hb)
          clear hb XX a0 a1 a2 e0 e1 v0 v1 v2 s0' s1' s2'
          have v0 := (unhide HYY).c0; have v1 := (unhide HYY).c1; have v2 := (unhide HYY).c2
          have t0' := (unhide ST).t.box.c0; have t1' := (unhide ST).t.box.c1; have t2' := (unhide ST).t.box.c2
          simp only [List.length_nil] at t2'
          go_wp2_with fail
          refine (told12_err _ _ _ _ _ _ _ 7 _ (.inr rfl)).mono ?_
          rintro e w12 ⟨rfl, hb⟩
          have BE := hide ((unhide ST).bel.trans (hb.mono (unhide ST).bel.size))
          clear hb ST HYY
          go_wp2_with fail
          refine (unhide KA _ (unhide BE)).mono ?_
          rintro e w19 ⟨rfl, hb⟩
          replace BE := hide ((unhide BE).trans (hb.mono (unhide BE).size))
          clear hb
          go_wp2
          go_ret
          exact ⟨rfl, unhide BE⟩
        · have v0 := (unhide XX).c0; have v1 := (unhide XX).c1; have v2 := (unhide XX).c2
          have s0' := (unhide ST).s.box.c0; have s1' := (unhide ST).s.box.c1; have s2' := (unhide ST).s.box.c2
          simp only [List.length_nil] at s2'
          go_wp2_with fail
          refine (told12_err _ _ _ _ _ _ _ 7 _ (.inr rfl)).mono ?_
          rintro e w11 ⟨rfl, hb⟩
          replace ST := hide ((unhide ST).all hb); replace HYY := hide ((unhide HYY).all hb)
          clear hb XX a0 a1 a2 e0 e1 v0 v1 v2 s0' s1' s2'
          have v0 := (unhide HYY).c0; have v1 := (unhide HYY).c1; have v2 := (unhide HYY).c2
          have t0' := (unhide ST).t.box.c0; have t1' := (unhide ST).t.box.c1; have t2' := (unhide ST).t.box.c2
          simp only [List.length_nil] at t2'
          go_wp2_with fail
          refine (told12_err _ _ _ _ _ _ _ 7 _ (.inr rfl)).mono ?_
          rintro e w12 ⟨rfl, hb⟩
          have BE := hide ((unhide ST).bel.trans (hb.mono (unhide ST).bel.size))
          clear hb ST HYY
          go_wp2_with fail
          refine (unhide KA _ (unhide BE)).mono ?_
          rintro e w19 ⟨rfl, hb⟩
          replace BE := hide ((unhide BE).trans (hb.mono (unhide BE).size))
          clear hb
          go_wp2
          go_ret
          exact ⟨rfl, unhide BE⟩
        · go_wp2_with fail
          refine (unhide K6 (by omega) (by omega) (by omega) (by omega) (by omega) (by first | rfl | trivial) _ (unhide ST).bel).mono ?_
          rintro e w9 ⟨v, rfl, ⟨xo, xd, rfl, _, qx⟩, hb⟩
          clear a0 a1 a2 e0 e1
          replace ST := hide ((unhide ST).all hb); replace XX := hide ((unhide XX).all hb); replace HYY := hide ((unhide HYY).all hb)
          have f0 := (unhide XX).free 0; have f1 := (unhide XX).free 1; have f2 := (unhide XX).free 2
          have u0 := (unhide XX).c0; have u1 := (unhide XX).c1; have u2 := (unhide XX).c2
          have Qx := hide (qx.putM (unhide XX) (.int .i64 p1) (.int .i64 p2) (.slice xo S.length xd))
          replace ST := hide ((unhide ST).box (unhide XX) (by have := unhide ORD; omega) (by have := unhide ORD; omega) (by have := unhide ORD; omega) (by have := unhide ORD; omega) (by have := unhide ORD; omega) (.int .i64 p1) (.int .i64 p2) (.slice xo S.length xd))
          replace HYY := hide ((unhide HYY).three (g := w5.heap.size) (by omega) (.int .i64 p1) (.int .i64 p2) (.slice xo S.length xd))
          replace XX := hide ((unhide XX).put (.int .i64 p1) (.int .i64 p2) (.slice xo S.length xd))
          clear qx hb K6
          have a0 := (unhide ST).m.c0; have a1 := (unhide ST).m.c1; have a2 := (unhide ST).m.c2
          have e0 := (unhide ST).y.c0; have e1 := (unhide ST).y.c1
          have v0 := (unhide XX).c0; have v1 := (unhide XX).c1; have v2 := (unhide XX).c2
          have s0' := (unhide ST).s.box.c0; have s1' := (unhide ST).s.box.c1; have s2' := (unhide ST).s.box.c2
          go_wp2_with fail
          refine (told12_ok _ _ _ _ _ _ S _ (unhide ST).s.bits (unhide Qx) (by have := unhide HSl; omega)).mono ?_
          rintro e w11 ⟨rfl, hb⟩
          replace ST := hide ((unhide ST).all hb); replace HYY := hide ((unhide HYY).all hb)
          clear hb XX a0 a1 a2 e0 e1 v0 v1 v2 s0' s1' s2' f0 f1 f2 u0 u1 u2
          have v0 := (unhide HYY).c0; have v1 := (unhide HYY).c1; have v2 := (unhide HYY).c2
          have t0' := (unhide ST).t.box.c0; have t1' := (unhide ST).t.box.c1; have t2' := (unhide ST).t.box.c2
          simp only [List.length_nil] at t2'
          go_wp2_with fail
          refine (told12_err _ _ _ _ _ _ _ 7 _ (.inr rfl)).mono ?_
          rintro e w12 ⟨rfl, hb⟩
          have BE := hide ((unhide ST).bel.trans (hb.mono (unhide ST).bel.size))
          clear hb ST HYY
          go_wp2_with fail
          refine (unhide KA _ (unhide BE)).mono ?_
          rintro e w19 ⟨rfl, hb⟩
          replace BE := hide ((unhide BE).trans (hb.mono (unhide BE).size))
          clear hb
          go_wp2
          go_ret
          exact ⟨rfl, unhide BE⟩
        · have v0 := (unhide XX).c0; have v1 := (unhide XX).c1; have v2 := (unhide XX).c2
          have s0' := (unhide ST).s.box.c0; have s1' := (unhide ST).s.box.c1; have s2' := (unhide ST).s.box.c2
          simp only [List.length_nil] at s2'
          go_wp2_with fail
          refine (told12_err _ _ _ _ _ _ _ 7 _ (.inr rfl)).mono ?_
          rintro e w11 ⟨rfl, hb⟩
          replace ST := hide ((unhide ST).all hb); replace HYY := hide ((unhide HYY).all hb)
          clear hb XX a0 a1 a2 e0 e1 v0 v1 v2 s0' s1' s2'
          have v0 := (unhide HYY).c0; have v1 := (unhide HYY).c1; have v2 := (unhide HYY).c2
          have t0' := (unhide ST).t.box.c0; have t1' := (unhide ST).t.box.c1; have t2' := (unhide ST).t.box.c2
          simp only [List.length_nil] at t2'
          go_wp2_with fail
          refine (told12_err _ _ _ _ _ _ _ 7 _ (.inr rfl)).mono ?_
          rintro e w12 ⟨rfl, hb⟩
          have BE := hide ((unhide ST).bel.trans (hb.mono (unhide ST).bel.size))
          clear hb ST HYY
          go_wp2_with fail
          refine (unhide KA _ (unhide BE)).mono ?_
          rintro e w19 ⟨rfl, hb⟩
          replace BE := hide ((unhide BE).trans (hb.mono (unhide BE).size))
          clear hb
          go_wp2
          go_ret
          exact ⟨rfl, unhide BE⟩
        · have v0 := (unhide XX).c0; have v1 := (unhide XX).c1; have v2 := (unhide XX).c2
          have s0' := (unhide ST).s.box.c0; have s1' := (unhide ST).s.box.c1; have s2' := (unhide ST).s.box.c2
          simp only [List.length_nil] at s2'
          go_wp2_with fail
          refine (told12_err _ _ _ _ _ _ _ 7 _ (.inr rfl)).mono ?_
          rintro e w11 ⟨rfl, hb⟩
          replace ST := hide ((unhide ST).all hb); replace HYY := hide ((unhide HYY).all hb)
          clear hb XX a0 a1 a2 e0 e1 v0 v1 v2 s0' s1' s2'
          have v0 := (unhide HYY).c0; have v1 := (unhide HYY).c1; have v2 := (unhide HYY).c2
          have t0' := (unhide ST).t.box.c0; have t1' := (unhide ST).t.box.c1; have t2' := (unhide ST).t.box.c2
          simp only [List.length_nil] at t2'
          go_wp2_with fail
          refine (told12_err _ _ _ _ _ _ _ 7 _ (.inr rfl)).mono ?_
          rintro e w12 ⟨rfl, hb⟩
          have BE := hide ((unhide ST).bel.trans (hb.mono (unhide ST).bel.size))
          clear hb ST HYY
          go_wp2_with fail
          refine (unhide KA _ (unhide BE)).mono ?_
          rintro e w19 ⟨rfl, hb⟩
          replace BE := hide ((unhide BE).trans (hb.mono (unhide BE).size))
          clear hb
          go_wp2
          go_ret
          exact ⟨rfl, unhide BE⟩
        · go_wp2_with fail
          refine (unhide K7 (by omega) (by omega) (by omega) (by omega) (by omega) (by first | rfl | trivial) _ (unhide ST).bel).mono ?_
          rintro e w10 ⟨v, rfl, ⟨yo, yd, rfl, _, qx⟩, hb⟩
          clear a0 a1 a2 e0 e1
          replace ST := hide ((unhide ST).all hb); replace XX := hide ((unhide XX).all hb); replace HYY := hide ((unhide HYY).all hb)
          have f0 := (unhide HYY).free 0; have f1 := (unhide HYY).free 1; have f2 := (unhide HYY).free 2
          have u0 := (unhide HYY).c0; have u1 := (unhide HYY).c1; have u2 := (unhide HYY).c2
          have Qy := hide (qx.putM (unhide HYY) (.int .i64 q1) (.int .i64 q2) (.slice yo T.length yd))
          replace ST := hide ((unhide ST).box (unhide HYY) (by have := unhide ORD; omega) (by have := unhide ORD; omega) (by have := unhide ORD; omega) (by have := unhide ORD; omega) (by have := unhide ORD; omega) (.int .i64 q1) (.int .i64 q2) (.slice yo T.length yd))
          replace XX := hide ((unhide XX).three (g := w5.heap.size + 1) (by omega) (.int .i64 q1) (.int .i64 q2) (.slice yo T.length yd))
          replace HYY := hide ((unhide HYY).put (.int .i64 q1) (.int .i64 q2) (.slice yo T.length yd))
          clear qx hb K7
          have a0 := (unhide ST).m.c0; have a1 := (unhide ST).m.c1; have a2 := (unhide ST).m.c2
          have e0 := (unhide ST).y.c0; have e1 := (unhide ST).y.c1
          have v0 := (unhide XX).c0; have v1 := (unhide XX).c1; have v2 := (unhide XX).c2
          have s0' := (unhide ST).s.box.c0; have s1' := (unhide ST).s.box.c1; have s2' := (unhide ST).s.box.c2
          simp only [List.length_nil] at s2'
          go_wp2_with fail
          refine (told12_err _ _ _ _ _ _ _ 7 _ (.inr rfl)).mono ?_
          rintro e w11 ⟨rfl, hb⟩
          replace ST := hide ((unhide ST).all hb); replace HYY := hide ((unhide HYY).all hb)
          replace Qy := hide ((unhide Qy).below hb)
          clear hb XX a0 a1 a2 e0 e1 v0 v1 v2 s0' s1' s2' f0 f1 f2 u0 u1 u2
          have v0 := (unhide HYY).c0; have v1 := (unhide HYY).c1; have v2 := (unhide HYY).c2
          have t0' := (unhide ST).t.box.c0; have t1' := (unhide ST).t.box.c1; have t2' := (unhide ST).t.box.c2
          go_wp2_with fail
          refine (told12_ok _ _ _ _ _ _ T _ (unhide ST).t.bits (unhide Qy) (by have := unhide HTl; omega)).mono ?_
          rintro e w12 ⟨rfl, hb⟩
          have BE := hide ((unhide ST).bel.trans (hb.mono (unhide ST).bel.size))
          clear hb ST HYY
          go_wp2_with fail
          refine (unhide KA _ (unhide BE)).mono ?_
          rintro e w19 ⟨rfl, hb⟩
          replace BE := hide ((unhide BE).trans (hb.mono (unhide BE).size))
          clear hb
          go_wp2
          go_ret
          exact ⟨rfl, unhide BE⟩
        · go_wp2_with fail
          refine (unhide K6 (by omega) (by omega) (by omega) (by omega) (by omega) (by first | rfl | trivial) _ (unhide ST).bel).mono ?_
          rintro e w9 ⟨v, rfl, ⟨xo, xd, rfl, _, qx⟩, hb⟩
          clear a0 a1 a2 e0 e1
          replace ST := hide ((unhide ST).all hb); replace XX := hide ((unhide XX).all hb); replace HYY := hide ((unhide HYY).all hb)
          have f0 := (unhide XX).free 0; have f1 := (unhide XX).free 1; have f2 := (unhide XX).free 2
          have u0 := (unhide XX).c0; have u1 := (unhide XX).c1; have u2 := (unhide XX).c2
          have Qx := hide (qx.putM (unhide XX) (.int .i64 p1) (.int .i64 p2) (.slice xo S.length xd))
          replace ST := hide ((unhide ST).box (unhide XX) (by have := unhide ORD; omega) (by have := unhide ORD; omega) (by have := unhide ORD; omega) (by have := unhide ORD; omega) (by have := unhide ORD; omega) (.int .i64 p1) (.int .i64 p2) (.slice xo S.length xd))
          replace HYY := hide ((unhide HYY).three (g := w5.heap.size) (by omega) (.int .i64 p1) (.int .i64 p2) (.slice xo S.length xd))
          replace XX := hide ((unhide XX).put (.int .i64 p1) (.int .i64 p2) (.slice xo S.length xd))
          clear qx hb K6
          have a0 := (unhide ST).m.c0; have a1 := (unhide ST).m.c1; have a2 := (unhide ST).m.c2
          have e0 := (unhide ST).y.c0; have e1 := (unhide ST).y.c1
          have v0 := (unhide XX).c0; have v1 := (unhide XX).c1; have v2 := (unhide XX).c2
          have s0' := (unhide ST).s.box.c0; have s1' := (unhide ST).s.box.c1; have s2' := (unhide ST).s.box.c2
          go_wp2_with fail
          refine (told12_ok _ _ _ _ _ _ S _ (unhide ST).s.bits (unhide Qx) (by have := unhide HSl; omega)).mono ?_
          rintro e w11 ⟨rfl, hb⟩
          replace ST := hide ((unhide ST).all hb); replace HYY := hide ((unhide HYY).all hb)
          clear hb XX a0 a1 a2 e0 e1 v0 v1 v2 s0' s1' s2' f0 f1 f2 u0 u1 u2
          have v0 := (unhide HYY).c0; have v1 := (unhide HYY).c1; have v2 := (unhide HYY).c2
          have t0' := (unhide ST).t.box.c0; have t1' := (unhide ST).t.box.c1; have t2' := (unhide ST).t.box.c2
          simp only [List.length_nil] at t2'
          go_wp2_with fail
          refine (told12_err _ _ _ _ _ _ _ 7 _ (.inr rfl)).mono ?_
          rintro e w12 ⟨rfl, hb⟩
          have BE := hide ((unhide ST).bel.trans (hb.mono (unhide ST).bel.size))
          clear hb ST HYY
          go_wp2_with fail
          refine (unhide KA _ (unhide BE)).mono ?_
          rintro e w19 ⟨rfl, hb⟩
          replace BE := hide ((unhide BE).trans (hb.mono (unhide BE).size))
          clear hb
          go_wp2
          go_ret
          exact ⟨rfl, unhide BE⟩
        · have v0 := (unhide XX).c0; have v1 := (unhide XX).c1; have v2 := (unhide XX).c2
          have s0' := (unhide ST).s.box.c0; have s1' := (unhide ST).s.box.c1; have s2' := (unhide ST).s.box.c2
          simp only [List.length_nil] at s2'
          go_wp2_with fail
          refine (told12_err _ _ _ _ _ _ _ 7 _ (.inr rfl)).mono ?_
          rintro e w11 ⟨rfl, hb⟩
          replace ST := hide ((unhide ST).all hb); replace HYY := hide ((unhide HYY).all hb)
          clear hb XX a0 a1 a2 e0 e1 v0 v1 v2 s0' s1' s2'
          have v0 := (unhide HYY).c0; have v1 := (unhide HYY).c1; have v2 := (unhide HYY).c2
          have t0' := (unhide ST).t.box.c0; have t1' := (unhide ST).t.box.c1; have t2' := (unhide ST).t.box.c2
          simp only [List.length_nil] at t2'
          go_wp2_with fail
          refine (told12_err _ _ _ _ _ _ _ 7 _ (.inr rfl)).mono ?_
          rintro e w12 ⟨rfl, hb⟩
          have BE := hide ((unhide ST).bel.trans (hb.mono (unhide ST).bel.size))
          clear hb ST HYY
          go_wp2_with fail
          refine (unhide KA _ (unhide BE)).mono ?_
          rintro e w19 ⟨rfl, hb⟩
          replace BE := hide ((unhide BE).trans (hb.mono (unhide BE).size))
          clear hb
          go_wp2
          go_ret
          exact ⟨rfl, unhide BE⟩
        · go_wp2_with fail
          refine (unhide K6 (by omega) (by omega) (by omega) (by omega) (by omega) (by first | rfl | trivial) _ (unhide ST).bel).mono ?_
          rintro e w9 ⟨v, rfl, ⟨xo, xd, rfl, _, qx⟩, hb⟩
          clear a0 a1 a2 e0 e1
          replace ST := hide ((unhide ST).all hb); replace XX := hide ((unhide XX).all hb); replace HYY := hide ((unhide HYY).all hb)
          have f0 := (unhide XX).free 0; have f1 := (unhide XX).free 1; have f2 := (unhide XX).free 2
          have u0 := (unhide XX).c0; have u1 := (unhide XX).c1; have u2 := (unhide XX).c2
          have Qx := hide (qx.putM (unhide XX) (.int .i64 p1) (.int .i64 p2) (.slice xo S.length xd))
          replace ST := hide ((unhide ST).box (unhide XX) (by have := unhide ORD; omega) (by have := unhide ORD; omega) (by have := unhide ORD; omega) (by have := unhide ORD; omega) (by have := unhide ORD; omega) (.int .i64 p1) (.int .i64 p2) (.slice xo S.length xd))
          replace HYY := hide ((unhide HYY).three (g := w5.heap.size) (by omega) (.int .i64 p1) (.int .i64 p2) (.slice xo S.length xd))
          replace XX := hide ((unhide XX).put (.int .i64 p1) (.int .i64 p2) (.slice xo S.length xd))
          clear qx hb K6
          have a0 := (unhide ST).m.c0; have a1 := (unhide ST).m.c1; have a2 := (unhide ST).m.c2
          have e0 := (unhide ST).y.c0; have e1 := (unhide ST).y.c1
          go_wp2_with fail
          refine (unhide K7 (by omega) (by omega) (by omega) (by omega) (by omega) (by first | rfl | trivial) _ (unhide ST).bel).mono ?_
          rintro e w10 ⟨v, rfl, ⟨yo, yd, rfl, _, qx⟩, hb⟩
          clear a0 a1 a2 e0 e1 f0 f1 f2 u0 u1 u2
          replace ST := hide ((unhide ST).all hb); replace XX := hide ((unhide XX).all hb); replace HYY := hide ((unhide HYY).all hb)
          replace Qx := hide ((unhide Qx).below hb)
          have f0 := (unhide HYY).free 0; have f1 := (unhide HYY).free 1; have f2 := (unhide HYY).free 2
          have u0 := (unhide HYY).c0; have u1 := (unhide HYY).c1; have u2 := (unhide HYY).c2
          have Qy := hide (qx.putM (unhide HYY) (.int .i64 q1) (.int .i64 q2) (.slice yo T.length yd))
          replace ST := hide ((unhide ST).box (unhide HYY) (by have := unhide ORD; omega) (by have := unhide ORD; omega) (by have := unhide ORD; omega) (by have := unhide ORD; omega) (by have := unhide ORD; omega) (.int .i64 q1) (.int .i64 q2) (.slice yo T.length yd))
          replace XX := hide ((unhide XX).three (g := w5.heap.size + 1) (by omega) (.int .i64 q1) (.int .i64 q2) (.slice yo T.length yd))
          replace Qx := hide ((unhide Qx).putM (unhide HYY) (.int .i64 q1) (.int .i64 q2) (.slice yo T.length yd))
          replace HYY := hide ((unhide HYY).put (.int .i64 q1) (.int .i64 q2) (.slice yo T.length yd))
          clear qx hb K7
          have a0 := (unhide ST).m.c0; have a1 := (unhide ST).m.c1; have a2 := (unhide ST).m.c2
          have e0 := (unhide ST).y.c0; have e1 := (unhide ST).y.c1
          have v0 := (unhide XX).c0; have v1 := (unhide XX).c1; have v2 := (unhide XX).c2
          have s0' := (unhide ST).s.box.c0; have s1' := (unhide ST).s.box.c1; have s2' := (unhide ST).s.box.c2
          go_wp2_with fail
          refine (told12_ok _ _ _ _ _ _ S _ (unhide ST).s.bits (unhide Qx) (by have := unhide HSl; omega)).mono ?_
          rintro e w11 ⟨rfl, hb⟩
          replace ST := hide ((unhide ST).all hb); replace HYY := hide ((unhide HYY).all hb)
          replace Qy := hide ((unhide Qy).below hb)
          clear hb XX a0 a1 a2 e0 e1 v0 v1 v2 s0' s1' s2' f0 f1 f2 u0 u1 u2
          have v0 := (unhide HYY).c0; have v1 := (unhide HYY).c1; have v2 := (unhide HYY).c2
          have t0' := (unhide ST).t.box.c0; have t1' := (unhide ST).t.box.c1; have t2' := (unhide ST).t.box.c2
          go_wp2_with fail
          refine (told12_ok _ _ _ _ _ _ T _ (unhide ST).t.bits (unhide Qy) (by have := unhide HTl; omega)).mono ?_
          rintro e w12 ⟨rfl, hb⟩
          have BE := hide ((unhide ST).bel.trans (hb.mono (unhide ST).bel.size))
          clear hb ST HYY
          go_wp2_with fail
          refine (unhide KA _ (unhide BE)).mono ?_
          rintro e w19 ⟨rfl, hb⟩
          replace BE := hide ((unhide BE).trans (hb.mono (unhide BE).size))
          clear hb
          go_wp2
          go_ret
          exact ⟨rfl, unhide BE⟩
end Go.Proofs.YtceofkjefmilfaaGreatDoor

/- Package plain: operations without their flags; package givens: place, rowOf, columnOf, check, turnedPair. -/
namespace Go.Proofs.YtceofkjefmilfaaGreatDoor
open Go.RowKit
attribute [local go_sem ↓] Go.wp_at_zero Go.wp_at_succ

set_option maxRecDepth 20000 in
set_option maxHeartbeats 2000000 in
theorem psub_any (a b : Nat) (w : World) (ha : a < 18446744073709551616) (hb : b < 18446744073709551616) (hT : Tab w) :
    Calls Tryz.prog 114 #[.int .u64 a, .int .u64 b] w fun r w' => r = .returned (.int .u64 (aV a (fN b) : Nat)) ∧ Below w.heap.size w w' := by
  have K := hide (ssub_any a b w ha hb hT)
  clear ha hb hT
  generalize aV a (fN b) = o at *
  generalize aF a (fN b) = f at *
  go_enter Tryz.func114, Tryz.ntmps114
  go_wp2_with fail
  refine Calls.mono (unhide K) ?_
  rintro e w1 ⟨rfl, hb1⟩
  clear K
  go_wp2
  go_ret
  exact ⟨rfl, hb1⟩

set_option maxRecDepth 20000 in
set_option maxHeartbeats 2000000 in
theorem pdiv_any (a b : Nat) (w : World) (ha : a < 18446744073709551616) (hb : b < 18446744073709551616) (hT : Tab w) :
    Calls Tryz.prog 78 #[.int .u64 a, .int .u64 b] w fun r w' => r = .returned (.int .u64 (dV a b : Nat)) ∧ Below w.heap.size w w' := by
  have K := hide (tdiv_any a b w ha hb hT)
  clear ha hb hT
  generalize dV a b = o at *
  generalize dF a b = f at *
  go_enter Tryz.func78, Tryz.ntmps78
  go_wp2_with fail
  refine Calls.mono (unhide K) ?_
  rintro e w1 ⟨rfl, hb1⟩
  clear K
  go_wp2
  go_ret
  exact ⟨rfl, hb1⟩

set_option maxRecDepth 20000 in
set_option maxHeartbeats 2000000 in
theorem psqrt_any (a : Nat) (w : World) (ha : a < 18446744073709551616) (hT : Tab w) :
    Calls Tryz.prog 75 #[.int .u64 a] w fun r w' => r = .returned (.int .u64 (sV a : Nat)) ∧ Below w.heap.size w w' := by
  have K := hide (rsqrt_any a w ha hT)
  clear ha hT
  generalize sV a = o at *
  generalize sF a = f at *
  go_enter Tryz.func75, Tryz.ntmps75
  go_wp2_with fail
  refine Calls.mono (unhide K) ?_
  rintro e w1 ⟨rfl, hb1⟩
  clear K
  go_wp2
  go_ret
  exact ⟨rfl, hb1⟩

set_option maxRecDepth 20000 in
set_option maxHeartbeats 2000000 in
theorem gplace_of (f s k n p q : Nat) (w : World) (hp : (n : Int) * (s : Int) = (p : Int)) (hq : (f : Int) + (p : Int) = (q : Int)) (h36 : q ≤ 36) :
    Calls Tryz.prog 85 #[.agg #[.int .i64 f, .int .i64 s, .int .i64 k], .int .i64 n] w fun e w' => e = .returned (.int .i64 (q : Nat)) ∧ Below w.heap.size w w' := by
  have hb0 := hide (below_alloc9 w (.cells #[.int .i64 f, .int .i64 s, .int .i64 k] 76))
  have hpq : (p : Int) ≤ 36 := by omega
  go_enter Tryz.func85, Tryz.ntmps85
  go_wp2
  go_ret
  exact ⟨rfl, unhide hb0⟩

set_option maxRecDepth 20000 in
set_option maxHeartbeats 2000000 in
theorem growOf_of (r c n cap i q : Nat) (ao : Option Addr) (w : World) (hq : (i : Int) * (c : Int) = (q : Int)) (h36 : q ≤ 36) :
    Calls Tryz.prog 49 #[.agg #[.int .i64 r, .int .i64 c, .slice ao n cap], .int .i64 i] w fun e w' => e = .returned (.agg #[.int .i64 (q : Nat), .int .i64 1, .int .i64 (c : Nat)]) ∧ Below w.heap.size w w' := by
  have b0 := below_alloc9 w (.cells #[.int .i64 r, .int .i64 c, .slice ao n cap] 35)
  have s0 := size_alloc9 w (.cells #[.int .i64 r, .int .i64 c, .slice ao n cap] 35)
  have b1 := below_alloc9 (w.alloc (.cells #[.int .i64 r, .int .i64 c, .slice ao n cap] 35)) (.cells #[.int .i64 (q : Nat), .int .i64 1, .int .i64 (c : Nat)] 76)
  have X := BoxT.new 76 (w.alloc (.cells #[.int .i64 r, .int .i64 c, .slice ao n cap] 35)) (.int .i64 (q : Nat)) (.int .i64 1) (.int .i64 (c : Nat))
  rw [s0] at X
  have x0 := X.c0; have x1 := X.c1; have x2 := X.c2
  have BB := hide (b0.trans (b1.mono b0.size))
  clear b0 s0 b1 X
  go_enter Tryz.func49, Tryz.ntmps49
  go_wp2_with fail
  exact bodyPost_ret (v := .agg #[.int .i64 (q : Nat), .int .i64 1, .int .i64 (c : Nat)]) (by simp [results, Tryz.results49, go_sem, x0, x1, x2]) rfl ⟨rfl, unhide BB⟩

set_option maxRecDepth 20000 in
set_option maxHeartbeats 2000000 in
theorem gcolOf_of (r c n cap i : Nat) (ao : Option Addr) (w : World) :
    Calls Tryz.prog 50 #[.agg #[.int .i64 r, .int .i64 c, .slice ao n cap], .int .i64 i] w fun e w' => e = .returned (.agg #[.int .i64 (i : Nat), .int .i64 (c : Nat), .int .i64 (r : Nat)]) ∧ Below w.heap.size w w' := by
  have b0 := below_alloc9 w (.cells #[.int .i64 r, .int .i64 c, .slice ao n cap] 35)
  have s0 := size_alloc9 w (.cells #[.int .i64 r, .int .i64 c, .slice ao n cap] 35)
  have b1 := below_alloc9 (w.alloc (.cells #[.int .i64 r, .int .i64 c, .slice ao n cap] 35)) (.cells #[.int .i64 (i : Nat), .int .i64 (c : Nat), .int .i64 (r : Nat)] 76)
  have X := BoxT.new 76 (w.alloc (.cells #[.int .i64 r, .int .i64 c, .slice ao n cap] 35)) (.int .i64 (i : Nat)) (.int .i64 (c : Nat)) (.int .i64 (r : Nat))
  rw [s0] at X
  have x0 := X.c0; have x1 := X.c1; have x2 := X.c2
  have BB := hide (b0.trans (b1.mono b0.size))
  clear b0 s0 b1 X
  go_enter Tryz.func50, Tryz.ntmps50
  go_wp2_with fail
  exact bodyPost_ret (v := .agg #[.int .i64 (i : Nat), .int .i64 (c : Nat), .int .i64 (r : Nat)]) (by simp [results, Tryz.results50, go_sem, x0, x1, x2]) rfl ⟨rfl, unhide BB⟩

set_option maxRecDepth 20000 in
set_option maxHeartbeats 4000000 in
theorem gcheck_no (r c : Int) (ao : Option Addr) (n cap : Nat) (l i k : Int) (w : World) (hn : n ≤ 35184372088830) (h : okB r c n = false) :
    Calls Tryz.prog 47 #[.agg #[.int .i64 r, .int .i64 c, .slice ao n cap], .int .i64 l, .int .i64 i, .int .i64 k] w fun e w' => e = .returned (.int .i64 1) ∧ Below w.heap.size w w' := by
  have hb0 := hide (below_alloc9 w (.cells #[.int .i64 r, .int .i64 c, .slice ao n cap] 35))
  have K := hide (fun w' => mcheck_any r c ao n cap w' hn)
  rw [if_neg (by rw [h]; decide)] at K
  clear h
  go_enter Tryz.func47, Tryz.ntmps47
  go_wp2_with fail
  refine (unhide K _).mono ?_
  rintro e w1 ⟨rfl, hb⟩
  replace hb0 := hide ((unhide hb0).trans (hb.mono (unhide hb0).size))
  clear hb K
  go_wp2
  go_ret
  exact ⟨rfl, unhide hb0⟩

set_option maxRecDepth 20000 in
set_option maxHeartbeats 4000000 in
theorem gcheck_any (r c : Int) (ao : Option Addr) (n cap : Nat) (l i k : Int) (er : Int) (w : World) (hn : n ≤ 35184372088830) (h : okB r c n = true)
    (way : (i < 0 ∧ er = 7) ∨ (0 ≤ i ∧ l ≤ i ∧ er = 7) ∨ (0 ≤ i ∧ i < l ∧ k < 0 ∧ er = 7) ∨ (0 ≤ i ∧ i < l ∧ 0 ≤ k ∧ l ≤ k ∧ er = 7) ∨ (0 ≤ i ∧ i < l ∧ 0 ≤ k ∧ k < l ∧ i = k ∧ er = 7) ∨ (0 ≤ i ∧ i < l ∧ 0 ≤ k ∧ k < l ∧ ¬ i = k ∧ er = 0)) :
    Calls Tryz.prog 47 #[.agg #[.int .i64 r, .int .i64 c, .slice ao n cap], .int .i64 l, .int .i64 i, .int .i64 k] w fun e w' => e = .returned (.int .i64 er) ∧ Below w.heap.size w w' := by
  have hb0 := hide (below_alloc9 w (.cells #[.int .i64 r, .int .i64 c, .slice ao n cap] 35))
  have K := hide (fun w' => mcheck_any r c ao n cap w' hn)
  rw [if_pos h] at K
  clear h
  rcases way with ⟨h1, rfl⟩ | ⟨h1, h2, rfl⟩ | ⟨h1, h2, h3, rfl⟩ | ⟨h1, h2, h3, h4, rfl⟩ | ⟨h1, h2, h3, h4, rfl, rfl⟩ | ⟨h1, h2, h3, h4, h5, rfl⟩
  rotate_left 5
  · have e1 : decide (i < 0) = false := decide_eq_false (by omega)
    have e2 : decide (l ≤ i) = false := decide_eq_false (by omega)
    have e3 : decide (k < 0) = false := decide_eq_false (by omega)
    have e4 : decide (l ≤ k) = false := decide_eq_false (by omega)
    have e5 : (i == k) = false := by simp; omega
    go_enter Tryz.func47, Tryz.ntmps47
    go_wp2_with fail
    refine (unhide K _).mono ?_
    rintro e w1 ⟨rfl, hb⟩
    replace hb0 := hide ((unhide hb0).trans (hb.mono (unhide hb0).size))
    clear hb K
    go_wp2
    go_ret
    exact ⟨rfl, unhide hb0⟩
  all_goals
    go_enter Tryz.func47, Tryz.ntmps47
    go_wp2_with fail
    refine (unhide K _).mono ?_
    rintro e w1 ⟨rfl, hb⟩
    replace hb0 := hide ((unhide hb0).trans (hb.mono (unhide hb0).size))
    clear hb K
    go_wp2
    go_ret
    exact ⟨rfl, unhide hb0⟩

set_option maxRecDepth 20000 in
set_option maxHeartbeats 4000000 in
theorem gpair_of (x y c s p q u p' q' v : Nat) (w : World)
    (C1 : ∀ w', Below w.heap.size w w' → Calls Tryz.prog 77 #[.int .u64 c, .int .u64 x] w' fun e w'' => e = .returned (.int .u64 (p : Nat)) ∧ Below w'.heap.size w' w'')
    (C2 : ∀ w', Below w.heap.size w w' → Calls Tryz.prog 77 #[.int .u64 s, .int .u64 y] w' fun e w'' => e = .returned (.int .u64 (q : Nat)) ∧ Below w'.heap.size w' w'')
    (C3 : ∀ w', Below w.heap.size w w' → Calls Tryz.prog 76 #[.int .u64 p, .int .u64 q] w' fun e w'' => e = .returned (.int .u64 (u : Nat)) ∧ Below w'.heap.size w' w'')
    (C4 : ∀ w', Below w.heap.size w w' → Calls Tryz.prog 77 #[.int .u64 c, .int .u64 y] w' fun e w'' => e = .returned (.int .u64 (p' : Nat)) ∧ Below w'.heap.size w' w'')
    (C5 : ∀ w', Below w.heap.size w w' → Calls Tryz.prog 77 #[.int .u64 s, .int .u64 x] w' fun e w'' => e = .returned (.int .u64 (q' : Nat)) ∧ Below w'.heap.size w' w'')
    (C6 : ∀ w', Below w.heap.size w w' → Calls Tryz.prog 114 #[.int .u64 p', .int .u64 q'] w' fun e w'' => e = .returned (.int .u64 (v : Nat)) ∧ Below w'.heap.size w' w'') :
    Calls Tryz.prog 86 #[.int .u64 x, .int .u64 y, .int .u64 c, .int .u64 s] w fun e w' => e = .returned (.tuple #[.int .u64 (u : Nat), .int .u64 (v : Nat)]) ∧ Below w.heap.size w w' := by
  have K1 := hide C1; have K2 := hide C2; have K3 := hide C3; have K4 := hide C4; have K5 := hide C5; have K6 := hide C6
  have BB := hide (Below.refl w.heap.size w)
  clear C1 C2 C3 C4 C5 C6
  go_enter Tryz.func86, Tryz.ntmps86
  go_wp2_with fail
  refine (unhide K1 _ (unhide BB)).mono ?_
  rintro e w1 ⟨rfl, hb⟩
  replace BB := hide ((unhide BB).trans (hb.mono (unhide BB).size))
  clear hb K1
  go_wp2_with fail
  refine (unhide K2 _ (unhide BB)).mono ?_
  rintro e w1 ⟨rfl, hb⟩
  replace BB := hide ((unhide BB).trans (hb.mono (unhide BB).size))
  clear hb K2
  go_wp2_with fail
  refine (unhide K3 _ (unhide BB)).mono ?_
  rintro e w1 ⟨rfl, hb⟩
  replace BB := hide ((unhide BB).trans (hb.mono (unhide BB).size))
  clear hb K3
  go_wp2_with fail
  refine (unhide K4 _ (unhide BB)).mono ?_
  rintro e w1 ⟨rfl, hb⟩
  replace BB := hide ((unhide BB).trans (hb.mono (unhide BB).size))
  clear hb K4
  go_wp2_with fail
  refine (unhide K5 _ (unhide BB)).mono ?_
  rintro e w1 ⟨rfl, hb⟩
  replace BB := hide ((unhide BB).trans (hb.mono (unhide BB).size))
  clear hb K5
  go_wp2_with fail
  refine (unhide K6 _ (unhide BB)).mono ?_
  rintro e w1 ⟨rfl, hb⟩
  replace BB := hide ((unhide BB).trans (hb.mono (unhide BB).size))
  clear hb K6
  go_wp2
  exact bodyPost_ret (v := .tuple #[.int .u64 (u : Nat), .int .u64 (v : Nat)]) (by simp [results, Tryz.results86, go_sem]) rfl ⟨rfl, unhide BB⟩

/-- c x + s y and c y - s x. -/
theorem gpair_any (x y c s : Nat) (w : World) (hx : x < 18446744073709551616) (hy : y < 18446744073709551616) (hc : c < 18446744073709551616) (hs : s < 18446744073709551616) (hT : Tab w) :
    Calls Tryz.prog 86 #[.int .u64 x, .int .u64 y, .int .u64 c, .int .u64 s] w fun e w' => e = .returned (.tuple #[.int .u64 (aV (mV c x) (mV s y) : Nat), .int .u64 (aV (mV c y) (fN (mV s x)) : Nat)]) ∧ Below w.heap.size w w' :=
  gpair_of x y c s (mV c x) (mV s y) _ (mV c y) (mV s x) _ w (fun w' hb => vmul_any _ _ w' hc hx (hT.all hb)) (fun w' hb => vmul_any _ _ w' hs hy (hT.all hb)) (fun w' hb => vadd_any _ _ w' (mV_lt _ _) (mV_lt _ _) (hT.all hb)) (fun w' hb => vmul_any _ _ w' hc hy (hT.all hb)) (fun w' hb => vmul_any _ _ w' hs hx (hT.all hb)) (fun w' hb => psub_any _ _ w' (mV_lt _ _) (mV_lt _ _) (hT.all hb))

end Go.Proofs.YtceofkjefmilfaaGreatDoor

/- Package givens: turned. -/
namespace Go.Proofs.YtceofkjefmilfaaGreatDoor
open Go.RowKit
attribute [local go_sem ↓] Go.wp_at_zero Go.wp_at_succ

/-- What holds in turned. -/
structure TuSt (w wr : World) (r c n cap f1 s1 k1 f2 s2 k2 : Nat) (ao : Option Addr) (S : List Nat) : Prop where
  bel : Below w.heap.size w wr
  m : BoxM wr w.heap.size (.int .i64 r) (.int .i64 c) (.slice ao n cap)
  u : BoxT 76 wr (w.heap.size + 1) (.int .i64 f1) (.int .i64 s1) (.int .i64 k1)
  l : BoxT 76 wr (w.heap.size + 1 + 1) (.int .i64 f2) (.int .i64 s2) (.int .i64 k2)
  res : BoxM wr (w.heap.size + 1 + 1 + 1) (.int .i64 0) (.int .i64 0) (.slice none 0 0)
  row : RowB wr (w.heap.size + 1 + 1 + 1 + 1) S
theorem TuSt.all {w wr w' : World} {r c n cap f1 s1 k1 f2 s2 k2 : Nat} {ao : Option Addr} {S : List Nat} (h : TuSt w wr r c n cap f1 s1 k1 f2 s2 k2 ao S) (hb : Below wr.heap.size wr w') : TuSt w w' r c n cap f1 s1 k1 f2 s2 k2 ao S :=
  ⟨h.bel.trans (hb.mono h.bel.size), h.m.all hb, h.u.all hb, h.l.all hb, h.res.all hb, h.row.below hb h.row.lt⟩
theorem TuSt.set {w wr : World} {r c n cap f1 s1 k1 f2 s2 k2 : Nat} {ao : Option Addr} {S : List Nat} (h : TuSt w wr r c n cap f1 s1 k1 f2 s2 k2 ao S) (p x : Nat) : TuSt w (wr.setCell ⟨w.heap.size + 1 + 1 + 1 + 1, p, none⟩ (.int .u64 (x : Int))) r c n cap f1 s1 k1 f2 s2 k2 ao (S.set p x) :=
  ⟨h.bel.setCell (p := ⟨w.heap.size + 1 + 1 + 1 + 1, p, none⟩) (by show w.heap.size ≤ w.heap.size + 1 + 1 + 1 + 1; omega) _, h.m.other (p := ⟨w.heap.size + 1 + 1 + 1 + 1, p, none⟩) (by show w.heap.size ≠ w.heap.size + 1 + 1 + 1 + 1; omega) _, h.u.other (p := ⟨w.heap.size + 1 + 1 + 1 + 1, p, none⟩) (by show w.heap.size + 1 ≠ w.heap.size + 1 + 1 + 1 + 1; omega) _, h.l.other (p := ⟨w.heap.size + 1 + 1 + 1 + 1, p, none⟩) (by show w.heap.size + 1 + 1 ≠ w.heap.size + 1 + 1 + 1 + 1; omega) _, h.res.other (p := ⟨w.heap.size + 1 + 1 + 1 + 1, p, none⟩) (by show w.heap.size + 1 + 1 + 1 ≠ w.heap.size + 1 + 1 + 1 + 1; omega) _, h.row.set p x⟩
/-- Four boxes, a row, and what a copy leaves. -/
theorem TuSt.start (w : World) (r c n cap f1 s1 k1 f2 s2 k2 : Nat) (ao : Option Addr) :
    TuSt w (((((w.alloc (.cells #[.int .i64 r, .int .i64 c, .slice ao n cap] 35)).alloc (.cells #[.int .i64 f1, .int .i64 s1, .int .i64 k1] 76)).alloc (.cells #[.int .i64 f2, .int .i64 s2, .int .i64 k2] 76)).alloc (.cells #[.int .i64 0, .int .i64 0, .slice none 0 0] 35)).alloc (.cells (madeCells #[.int .u64 0] n) 23)) r c n cap f1 s1 k1 f2 s2 k2 ao (List.replicate n 0) := by
  have b0 := below_alloc9 w (.cells #[.int .i64 r, .int .i64 c, .slice ao n cap] 35)
  have s0 := size_alloc9 w (.cells #[.int .i64 r, .int .i64 c, .slice ao n cap] 35)
  have x0 := BoxM.new w (.int .i64 r) (.int .i64 c) (.slice ao n cap)
  generalize w.alloc (.cells #[.int .i64 r, .int .i64 c, .slice ao n cap] 35) = w0 at *
  have b1 := below_alloc9 w0 (.cells #[.int .i64 f1, .int .i64 s1, .int .i64 k1] 76)
  have z1 := size_alloc9 w0 (.cells #[.int .i64 f1, .int .i64 s1, .int .i64 k1] 76)
  have x1 := BoxT.new 76 w0 (.int .i64 f1) (.int .i64 s1) (.int .i64 k1)
  generalize w0.alloc (.cells #[.int .i64 f1, .int .i64 s1, .int .i64 k1] 76) = w1 at *
  have b2 := below_alloc9 w1 (.cells #[.int .i64 f2, .int .i64 s2, .int .i64 k2] 76)
  have z2 := size_alloc9 w1 (.cells #[.int .i64 f2, .int .i64 s2, .int .i64 k2] 76)
  have x2 := BoxT.new 76 w1 (.int .i64 f2) (.int .i64 s2) (.int .i64 k2)
  generalize w1.alloc (.cells #[.int .i64 f2, .int .i64 s2, .int .i64 k2] 76) = w2 at *
  have b3 := below_alloc9 w2 (.cells #[.int .i64 0, .int .i64 0, .slice none 0 0] 35)
  have z3 := size_alloc9 w2 (.cells #[.int .i64 0, .int .i64 0, .slice none 0 0] 35)
  have x3 := BoxM.new w2 (.int .i64 0) (.int .i64 0) (.slice none 0 0)
  generalize w2.alloc (.cells #[.int .i64 0, .int .i64 0, .slice none 0 0] 35) = w3 at *
  have b4 := below_alloc9 w3 (.cells (madeCells #[.int .u64 0] n) 23)
  have x4 := RowB.made w3 n
  rw [s0] at x1 z1
  rw [z1] at x2 z2
  rw [z2] at x3 z3
  rw [z3] at x4
  have c1 := b0.trans (b1.mono b0.size)
  have c2 := c1.trans (b2.mono c1.size)
  have c3 := c2.trans (b3.mono c2.size)
  exact ⟨c3.trans (b4.mono c3.size), (((x0.all b1).all b2).all b3).all b4, ((x1.all b2).all b3).all b4, (x2.all b3).all b4, x3.all b4, x4⟩
/-- Behind the copy. -/
theorem TuSt.copied {w wr w' : World} {r c n cap f1 s1 k1 f2 s2 k2 : Nat} {ao : Option Addr} {S T : List Nat} (h : TuSt w wr r c n cap f1 s1 k1 f2 s2 k2 ao S) (hb : Below (w.heap.size + 1 + 1 + 1 + 1) wr w') (hr : RowB w' (w.heap.size + 1 + 1 + 1 + 1) T) : TuSt w w' r c n cap f1 s1 k1 f2 s2 k2 ao T :=
  ⟨h.bel.trans (hb.mono (by omega)), h.m.below hb (by omega), h.u.below hb (by omega), h.l.below hb (by omega), h.res.below hb (by omega), hr⟩

theorem RowB.three {w : World} {b g : Nat} {S : List Nat} (h : RowB w b S) (hg : b ≠ g) (u u' u'' : Value) : RowB (((w.setCell ⟨g, 0, none⟩ u).setCell ⟨g, 1, none⟩ u').setCell ⟨g, 2, none⟩ u'') b S := by
  unfold RowB
  rw [Below.heap_setCell _ ⟨g, 2, none⟩ u'' b hg, Below.heap_setCell _ ⟨g, 1, none⟩ u' b hg, Below.heap_setCell _ ⟨g, 0, none⟩ u b hg]
  exact h
/-- What copy leaves of a list of numbers in a row that was made. -/
theorem copy_run (W : World) (g n cap : Nat) (ao : Option Addr) (S : List Nat) (h : RowB W g (List.replicate n 0)) (hS : BitsAt W ao cap (mxL S)) (hl : S.length = n) :
    ∃ w', (∀ ty, (Builtin.copy_ #[33, 33] ty #[.slice (some ⟨g, 0, none⟩) n n, .slice ao n cap]).run Tryz.prog W = .ok (.int .i64 (n : Int)) w') ∧ RowB w' g S ∧ Below g W w' := by
  rcases Nat.eq_zero_or_pos n with e | e
  · subst e
    obtain rfl : S = [] := List.eq_nil_of_length_eq_zero hl
    exact ⟨W, fun ty => run_copy_none W _ _ ty 23 _ _ 0 0 0 cap Tryz.underlying33 (by kernel_rfl) rfl, h, Below.refl _ _⟩
  · obtain ⟨b, off, rfl, hb, hc⟩ := hS.ne (by rw [mxL_len]; omega)
    have hcs : ∀ j v, (S.map bitV)[j]? = some v → W.cell? ((⟨b, off, none⟩ : Addr).add j) = some v := by
      intro j v hv
      rw [List.getElem?_map] at hv
      obtain ⟨x, hx, rfl⟩ := Option.map_eq_some_iff.1 hv
      have hj : j < S.length := (List.getElem?_eq_some_iff.1 hx).1
      have := hc j (by rw [mxL_len]; exact hj)
      rw [mxL_at] at this
      rw [show (⟨b, off, none⟩ : Addr).add j = ⟨b, off + j, none⟩ from by simp [Addr.add], this]
      rw [List.getD_eq_getElem?_getD, hx]
      rfl
    have hlen : (S.map bitV).length = n := by rw [List.length_map, hl]
    have run := fun ty => run_copy_row Tryz.prog W 33 33 ty 23 g 0 n n ⟨b, off, none⟩ n cap ((List.replicate n 0).map bitV).toArray 23 (S.map bitV) Tryz.underlying33 (by kernel_rfl) h (by rw [hlen]; exact (Nat.min_self n).symm) hcs (by rw [hlen]; simp) (fun v hv => by obtain ⟨x, _, rfl⟩ := List.mem_map.1 hv; rfl)
    refine ⟨_, fun ty => (run ty).trans (by rw [hlen]; rfl), ?_, below_setRow (Below.refl _ _) (Nat.le_refl _) _⟩
    unfold RowB
    rw [setRow_heap W g _ _ 23 _ h]
    congr 3
    simp

set_option maxRecDepth 20000 in
set_option maxHeartbeats 8000000 in
theorem turned_of (r c n cap f1 s1 k f2 s2 k2 C s : Nat) (ao : Option Addr) (TJ : Nat → List Nat) (P Q X Y U V : Nat → Nat) (w : World) (h36 : n ≤ 36) (h6 : k ≤ 6) (hS : BitsAt w ao cap (mxL (TJ 0))) (lJ : ∀ j, (TJ j).length = n)
    (hP : ∀ j, j < k → P j < n ∧ Q j < n ∧ P j ≠ Q j ∧ (TJ j)[P j]?.getD 0 = X j ∧ (TJ j)[Q j]?.getD 0 = Y j ∧ ((TJ j).set (P j) (U j)).set (Q j) (V j) = TJ (j + 1))
    (C1 : ∀ w' j, j < k → Calls Tryz.prog 85 #[.agg #[.int .i64 f1, .int .i64 s1, .int .i64 k], .int .i64 (j : Nat)] w' fun e w'' => e = .returned (.int .i64 (P j : Nat)) ∧ Below w'.heap.size w' w'')
    (C2 : ∀ w' j, j < k → Calls Tryz.prog 85 #[.agg #[.int .i64 f2, .int .i64 s2, .int .i64 k2], .int .i64 (j : Nat)] w' fun e w'' => e = .returned (.int .i64 (Q j : Nat)) ∧ Below w'.heap.size w' w'')
    (C3 : ∀ w' j, Below w.heap.size w w' → j < k → Calls Tryz.prog 86 #[.int .u64 (X j : Nat), .int .u64 (Y j : Nat), .int .u64 C, .int .u64 s] w' fun e w'' => e = .returned (.tuple #[.int .u64 (U j : Nat), .int .u64 (V j : Nat)]) ∧ Below w'.heap.size w' w'') :
    Calls Tryz.prog 48 #[.agg #[.int .i64 r, .int .i64 c, .slice ao n cap], .agg #[.int .i64 f1, .int .i64 s1, .int .i64 k], .agg #[.int .i64 f2, .int .i64 s2, .int .i64 k2], .int .u64 C, .int .u64 s] w fun e w' => ∃ g, e = .returned (.agg #[.int .i64 r, .int .i64 c, .slice (some ⟨g, 0, none⟩) n n]) ∧ w.heap.size ≤ g ∧ RowB w' g (TJ k) ∧ Below w.heap.size w w' := by
  have ST := hide (TuSt.start w r c n cap f1 s1 k f2 s2 k2 ao)
  have hmk := run_make_row' (P := Tryz.prog) 33 23 (.int .u64 0) 8 Tryz.underlying33 (by kernel_rfl) rfl .i64 .i64 n (by omega) (by omega)
  have HP := hide hP; have K1 := hide C1; have K2 := hide C2; have K3 := hide C3; have LJ := hide lJ; have HS := hide hS
  obtain ⟨w5, hcp, hr5, hb5⟩ := copy_run _ (w.heap.size + 1 + 1 + 1 + 1) n cap ao (TJ 0) (unhide ST).row (hS.below (unhide ST).bel) (lJ 0)
  have ST5 := hide ((unhide ST).copied hb5 hr5)
  clear hP C1 C2 C3 lJ hS hr5 hb5
  have y0 := (unhide ST).m.c0; have y1 := (unhide ST).m.c1; have y2 := (unhide ST).m.c2
  have q0 := (unhide ST5).u.c0; have q1 := (unhide ST5).u.c1; have q2 := (unhide ST5).u.c2
  go_enter Tryz.func48, Tryz.ntmps48
  go_wp2_with fail
  clear hmk hcp y0 y1 y2 q0 q1 q2 ST
  go_loopw [25] (fun a wr => ∃ j : Nat, j ≤ k ∧ a = .int .i64 j ∧ Hid (TuSt w wr r c n cap f1 s1 k f2 s2 k2 ao (TJ j))) (fun a _ => k - (intOf a).toNat)
  case atStart => exact ⟨0, Nat.zero_le _, rfl, ST5⟩
  case round =>
    clear ST5
    obtain ⟨j, hj, rfl, hS⟩ := hrel
    by_cases hlt : j < k
    · have hjI : (j : Int) < (k : Int) := by omega
      obtain ⟨hp, hq, hne, hx, hy, hset⟩ := unhide HP j hlt
      have KP := hide (fun w' => unhide K1 w' j hlt); have KQ := hide (fun w' => unhide K2 w' j hlt); have KT := hide (fun w' hb => unhide K3 w' j hb hlt)
      have LL := hide (unhide LJ j); have HX := hide hx; have HY := hide hy; have HN := hide hset
      generalize hTT : TJ j = TT at *
      generalize hTN : TJ (j + 1) = TN at *
      clear HP K1 K2 K3 LJ hx hy hset
      generalize P j = p at *
      generalize Q j = q at *
      generalize X j = x at *
      generalize Y j = y at *
      generalize U j = u at *
      generalize V j = v at *
      have hpI : (p : Int) < (n : Int) := by omega
      have hqI : (q : Int) < (n : Int) := by omega
      go_wp2_with fail
      refine at_world (fun W => TuSt w W r c n cap f1 s1 k f2 s2 k2 ao TT) (unhide hS) ?_
      clear hS
      intro W st
      have ST := hide st
      have HK := hide (fun w' (h : Below W.heap.size W w') => (show Below W.heap.size W w' ∧ (w'.cell? ⟨w.heap.size + 1, 0, none⟩ = some (.int .i64 f1) ∧ w'.cell? ⟨w.heap.size + 1, 1, none⟩ = some (.int .i64 s1) ∧ w'.cell? ⟨w.heap.size + 1, 2, none⟩ = some (.int .i64 k)) ∧ (w'.cell? ⟨w.heap.size + 1 + 1, 0, none⟩ = some (.int .i64 f2) ∧ w'.cell? ⟨w.heap.size + 1 + 1, 1, none⟩ = some (.int .i64 s2) ∧ w'.cell? ⟨w.heap.size + 1 + 1, 2, none⟩ = some (.int .i64 k2)) from
        have y := st.all h; ⟨h, ⟨y.u.c0, y.u.c1, y.u.c2⟩, y.l.c0, y.l.c1, y.l.c2⟩))
      clear st
      go_region_held3 (fun w' => Below W.heap.size W w' ∧ (w'.cell? ⟨w.heap.size + 1, 0, none⟩ = some (.int .i64 f1) ∧ w'.cell? ⟨w.heap.size + 1, 1, none⟩ = some (.int .i64 s1) ∧ w'.cell? ⟨w.heap.size + 1, 2, none⟩ = some (.int .i64 k)) ∧ (w'.cell? ⟨w.heap.size + 1 + 1, 0, none⟩ = some (.int .i64 f2) ∧ w'.cell? ⟨w.heap.size + 1 + 1, 1, none⟩ = some (.int .i64 s2) ∧ w'.cell? ⟨w.heap.size + 1 + 1, 2, none⟩ = some (.int .i64 k2)))
        (first | exact unhide HK _ (Below.refl _ _).drew | exact unhide HK _ (by assumption) | fail "KK")
        (first | (go_at_call 85; refine (unhide KP _).mono ?_; rintro e w6 ⟨rfl, hb5⟩; have hB5 : Below W.heap.size W w6 := Below.trans (And.left (by assumption)) (hb5.mono (Below.size (And.left (by assumption)))); clear hb5 KP) | (go_at_call 85; refine (unhide KQ _).mono ?_; rintro e w7 ⟨rfl, hb5⟩; have hB5 : Below W.heap.size W w7 := Below.trans (And.left (by assumption)) (hb5.mono (Below.size (And.left (by assumption)))); clear hb5 KQ) | fail "NO ARM")
      all_goals
        have ST := hide ((unhide ST).all (And.left (by assumption)))
        clear HK
        go_wp2_with fail
        refine at_world (fun W => TuSt w W r c n cap f1 s1 k f2 s2 k2 ao TT) (unhide ST) ?_
        clear ST
        rintro W0 st
        have ST := hide (st.all ((Below.refl W0.heap.size W0).drew))
        clear st
        have c1 := (unhide ST).row.cell p (by rw [unhide LL]; exact hp)
        have c2 := (unhide ST).row.cell q (by rw [unhide LL]; exact hq)
        rw [unhide HX] at c1
        rw [unhide HY] at c2
        go_region_with (first
          | (go_at_call 86; refine (unhide KT _ (unhide ST).bel).mono ?_; rintro e w8 ⟨rfl, hb⟩; clear c1 c2; have S8 := (unhide ST).all hb; have d1 := S8.row.cell p (by rw [unhide LL]; exact hp); have d2 := S8.row.cell q (by rw [unhide LL]; exact hq); have f1' := S8.row.free p; have f2' := S8.row.free q; have S9 := S8.set p u; have d3 := S9.row.cell q (by rw [List.length_set, unhide LL]; exact hq); have f3' := S9.row.free q; have P9 := hide (S9.set q v); clear S8 S9 hb ST KT)
          | fail "NO ARM")
        all_goals
          clear d1 d2 d3 f1' f2' f3'
          go_wp2_with fail
          go_round
          case rel => exact ⟨j + 1, by omega, by go_num, by rw [hTN, ← unhide HN]; exact P9⟩
          case measure => simp [intOf]; omega
    · have hjj : j = k := by omega
      subst hjj
      obtain ⟨h6, h1, h2, h3, h4, h5⟩ := unhide hS
      have y0 := h1.c0; have y1 := h1.c1; have y2 := h1.c2
      have r0 := h4.c0; have r1 := h4.c1; have r2 := h4.c2
      have f0 := h4.free 0; have f1 := h4.free 1; have f2 := h4.free 2
      have XP := h4.put (.int .i64 r) (.int .i64 c) (.slice (some ⟨w.heap.size + 1 + 1 + 1 + 1, 0, none⟩) n n)
      have z0 := XP.c0; have z1 := XP.c1; have z2 := XP.c2
      have RW := hide (h5.three (g := w.heap.size + 1 + 1 + 1) (by omega) (.int .i64 r) (.int .i64 c) (.slice (some ⟨w.heap.size + 1 + 1 + 1 + 1, 0, none⟩) n n))
      have BP := hide (below_putM h6 (b := w.heap.size + 1 + 1 + 1) (by omega) (.int .i64 r) (.int .i64 c) (.slice (some ⟨w.heap.size + 1 + 1 + 1 + 1, 0, none⟩) n n))
      clear XP h1 h2 h3 h4 h5 h6 hS
      go_wp2_with fail
      exact bodyPost_ret (v := .agg #[.int .i64 r, .int .i64 c, .slice (some ⟨w.heap.size + 1 + 1 + 1 + 1, 0, none⟩) n n]) (by simp [results, Tryz.results48, go_sem, z0, z1, z2]) rfl ⟨_, rfl, by omega, unhide RW, unhide BP⟩

end Go.Proofs.YtceofkjefmilfaaGreatDoor

/- Package givens: Rows, Cols (mkes.py). -/
namespace Go.Proofs.YtceofkjefmilfaaGreatDoor
open Go.RowKit
attribute [local go_sem ↓] Go.wp_at_zero Go.wp_at_succ

/-- What holds in Rows and Cols. -/
def GsSt (w W : World) (r c n cap : Nat) (ao : Option Addr) : Prop := Below w.heap.size w W ∧ BoxM W w.heap.size (.int .i64 r) (.int .i64 c) (.slice ao n cap) ∧ BoxM W (w.heap.size + 1) (.int .i64 0) (.int .i64 0) (.slice none 0 0)
theorem GsSt.all {w W W' : World} {r c n cap : Nat} {ao : Option Addr} (h : GsSt w W r c n cap ao) (hb : Below W.heap.size W W') : GsSt w W' r c n cap ao := ⟨h.1.trans (hb.mono h.1.size), h.2.1.all hb, h.2.2.all hb⟩

set_option maxRecDepth 20000 in
set_option maxHeartbeats 4000000 in
theorem gRows_err (r c : Int) (ao : Option Addr) (n cap : Nat) (i k : Int) (C s : Nat) (er : Int) (w : World) (her : er = 1 ∨ er = 7)
    (C1 : ∀ w', Calls Tryz.prog 47 #[.agg #[.int .i64 r, .int .i64 c, .slice ao n cap], .int .i64 r, .int .i64 i, .int .i64 k] w' fun e w'' => e = .returned (.int .i64 er) ∧ Below w'.heap.size w' w'') :
    Calls Tryz.prog 13 #[.agg #[.int .i64 r, .int .i64 c, .slice ao n cap], .int .i64 i, .int .i64 k, .int .u64 C, .int .u64 s] w fun e w' => ∃ v, e = .returned (.tuple #[v, .int .i64 er]) ∧ NewM w.heap.size w' 0 0 [] v ∧ Below w.heap.size w w' := by
  have K := hide (C1 ((w.alloc (.cells #[.int .i64 r, .int .i64 c, .slice ao n cap] 35)).alloc (.cells #[.int .i64 0, .int .i64 0, .slice none 0 0] 35)))
  simp only [size_alloc9] at K
  have KB := hide (boxes2 w (.int .i64 r) (.int .i64 c) (.slice ao n cap) (.int .i64 0) (.int .i64 0) (.slice none 0 0))
  clear C1
  rcases her with rfl | rfl
  all_goals
    go_enter Tryz.func13, Tryz.ntmps13
    go_wp2_with fail
    refine Calls.mono (unhide K) ?_
    rintro e w1 ⟨rfl, hb1⟩
    obtain ⟨hB, hA, hX⟩ := unhide KB w1 hb1
    clear K KB hb1 hA
    have f0 := hX.free 0; have f1 := hX.free 1; have f2 := hX.free 2
    have s0 := hX.c0; have s1 := hX.c1; have s2 := hX.c2
    have XP := hX.put (.int .i64 0) (.int .i64 0) (.slice none 0 0)
    have z0 := XP.c0; have z1 := XP.c1; have z2 := XP.c2
    have BP := hide (below_putM hB (b := w.heap.size + 1) (by omega) (.int .i64 0) (.int .i64 0) (.slice none 0 0))
    clear XP hX hB
    go_wp2
    refine bodyPost_ret (v := .tuple #[.agg #[.int .i64 0, .int .i64 0, .slice none 0 0], _]) (by simp [results, Tryz.results13, go_sem, z0, z1, z2]) rfl ⟨_, rfl, NewM.zero _ _, unhide BP⟩

set_option maxRecDepth 20000 in
set_option maxHeartbeats 4000000 in
theorem gRows_of (r c n cap i k C s u0 u1 u2 l0 l1 l2 : Nat) (ao : Option Addr) (S : List Nat) (w : World) (hl : S.length = n) (hS : ∀ x ∈ S, x < 18446744073709551616)
    (C1 : ∀ w', Calls Tryz.prog 47 #[.agg #[.int .i64 r, .int .i64 c, .slice ao n cap], .int .i64 r, .int .i64 i, .int .i64 k] w' fun e w'' => e = .returned (.int .i64 0) ∧ Below w'.heap.size w' w'')
    (C2 : ∀ w', Calls Tryz.prog 49 #[.agg #[.int .i64 r, .int .i64 c, .slice ao n cap], .int .i64 i] w' fun e w'' => e = .returned (.agg #[.int .i64 u0, .int .i64 u1, .int .i64 u2]) ∧ Below w'.heap.size w' w'')
    (C3 : ∀ w', Calls Tryz.prog 49 #[.agg #[.int .i64 r, .int .i64 c, .slice ao n cap], .int .i64 k] w' fun e w'' => e = .returned (.agg #[.int .i64 l0, .int .i64 l1, .int .i64 l2]) ∧ Below w'.heap.size w' w'')
    (C4 : ∀ w', Below w.heap.size w w' → Calls Tryz.prog 48 #[.agg #[.int .i64 r, .int .i64 c, .slice ao n cap], .agg #[.int .i64 u0, .int .i64 u1, .int .i64 u2], .agg #[.int .i64 l0, .int .i64 l1, .int .i64 l2], .int .u64 C, .int .u64 s] w' fun e w'' => ∃ g, e = .returned (.agg #[.int .i64 r, .int .i64 c, .slice (some ⟨g, 0, none⟩) n n]) ∧ w'.heap.size ≤ g ∧ RowB w'' g S ∧ Below w'.heap.size w' w'') :
    Calls Tryz.prog 13 #[.agg #[.int .i64 r, .int .i64 c, .slice ao n cap], .int .i64 i, .int .i64 k, .int .u64 C, .int .u64 s] w fun e w' => ∃ v, e = .returned (.tuple #[v, .int .i64 0]) ∧ NewM w.heap.size w' r c S v ∧ Below w.heap.size w w' := by
  have K := hide (C1 ((w.alloc (.cells #[.int .i64 r, .int .i64 c, .slice ao n cap] 35)).alloc (.cells #[.int .i64 0, .int .i64 0, .slice none 0 0] 35)))
  simp only [size_alloc9] at K
  have KB := hide (boxes2 w (.int .i64 r) (.int .i64 c) (.slice ao n cap) (.int .i64 0) (.int .i64 0) (.slice none 0 0))
  have K2 := hide C2; have K3 := hide C3; have K4 := hide C4; have HL := hide hl; have HS := hide hS
  clear C1 C2 C3 C4 hl hS
  go_enter Tryz.func13, Tryz.ntmps13
  go_wp2_with fail
  refine Calls.mono (unhide K) ?_
  rintro e w1 ⟨rfl, hb1⟩
  obtain ⟨hB, hA, hX⟩ := unhide KB w1 hb1
  clear K KB hb1
  have ST := hide (show GsSt w w1 r c n cap ao from ⟨hB, hA, hX⟩)
  have a0 := hA.c0; have a1 := hA.c1; have a2 := hA.c2
  clear hB hA hX
  go_wp2_with fail
  clear a0 a1 a2
  refine at_world (fun W => GsSt w W r c n cap ao) (unhide ST) ?_
  clear ST
  rintro W0 st
  have ST := hide (st.all ((Below.refl W0.heap.size W0).drew))
  clear st
  have a0 := (unhide ST).2.1.c0; have a1 := (unhide ST).2.1.c1; have a2 := (unhide ST).2.1.c2
  go_region_with (first
    | (go_at_call 49; refine (unhide K2 _).mono ?_; rintro e w4 ⟨rfl, hb⟩; clear a0 a1 a2; have S4 := (unhide ST).all hb; have a0 := S4.2.1.c0; have a1 := S4.2.1.c1; have a2 := S4.2.1.c2; replace ST := hide S4; clear S4 hb K2)
    | (go_at_call 49; refine (unhide K3 _).mono ?_; rintro e w5 ⟨rfl, hb⟩; clear a0 a1 a2; have S4 := (unhide ST).all hb; have a0 := S4.2.1.c0; have a1 := S4.2.1.c1; have a2 := S4.2.1.c2; replace ST := hide S4; clear S4 hb K3)
    | (go_at_call 48; refine (unhide K4 _ (unhide ST).1).mono ?_; rintro e w6 ⟨g, rfl, hg, hr, hb⟩; clear a0 a1 a2; have S4 := (unhide ST).all hb; have f0 := S4.2.2.free 0; have f1 := S4.2.2.free 1; have f2 := S4.2.2.free 2; have s0 := S4.2.2.c0; have s1 := S4.2.2.c1; have s2 := S4.2.2.c2; have HG := hide (Nat.le_trans (unhide ST).1.size hg); have hr2 := hr.bits (unhide HS); have XP := S4.2.2.put (.int .i64 r) (.int .i64 c) (.slice (some ⟨g, 0, none⟩) n n); have z0 := XP.c0; have z1 := XP.c1; have z2 := XP.c2; have Q := hide (hr2.putM S4.2.2 (.int .i64 r) (.int .i64 c) (.slice (some ⟨g, 0, none⟩) n n)); have BP := hide (below_putM S4.1 (b := w.heap.size + 1) (by omega) (.int .i64 r) (.int .i64 c) (.slice (some ⟨g, 0, none⟩) n n)); clear S4 hb hg hr hr2 XP ST K4)
    | fail "NO ARM")
  all_goals
    go_wp2
    exact bodyPost_ret (v := .tuple #[.agg #[.int .i64 r, .int .i64 c, .slice (some ⟨g, 0, none⟩) n n], .int .i64 0]) (by simp [results, Tryz.results13, go_sem, z0, z1, z2]) rfl ⟨_, rfl, ⟨_, n, by rw [unhide HL], .inr ⟨g, 0, rfl, unhide HG⟩, by have := unhide Q; rwa [unhide HL] at this⟩, unhide BP⟩

set_option maxRecDepth 20000 in
set_option maxHeartbeats 4000000 in
theorem gCols_err (r c : Int) (ao : Option Addr) (n cap : Nat) (i k : Int) (C s : Nat) (er : Int) (w : World) (her : er = 1 ∨ er = 7)
    (C1 : ∀ w', Calls Tryz.prog 47 #[.agg #[.int .i64 r, .int .i64 c, .slice ao n cap], .int .i64 c, .int .i64 i, .int .i64 k] w' fun e w'' => e = .returned (.int .i64 er) ∧ Below w'.heap.size w' w'') :
    Calls Tryz.prog 14 #[.agg #[.int .i64 r, .int .i64 c, .slice ao n cap], .int .i64 i, .int .i64 k, .int .u64 C, .int .u64 s] w fun e w' => ∃ v, e = .returned (.tuple #[v, .int .i64 er]) ∧ NewM w.heap.size w' 0 0 [] v ∧ Below w.heap.size w w' := by
  have K := hide (C1 ((w.alloc (.cells #[.int .i64 r, .int .i64 c, .slice ao n cap] 35)).alloc (.cells #[.int .i64 0, .int .i64 0, .slice none 0 0] 35)))
  simp only [size_alloc9] at K
  have KB := hide (boxes2 w (.int .i64 r) (.int .i64 c) (.slice ao n cap) (.int .i64 0) (.int .i64 0) (.slice none 0 0))
  clear C1
  rcases her with rfl | rfl
  all_goals
    go_enter Tryz.func14, Tryz.ntmps14
    go_wp2_with fail
    refine Calls.mono (unhide K) ?_
    rintro e w1 ⟨rfl, hb1⟩
    obtain ⟨hB, hA, hX⟩ := unhide KB w1 hb1
    clear K KB hb1 hA
    have f0 := hX.free 0; have f1 := hX.free 1; have f2 := hX.free 2
    have s0 := hX.c0; have s1 := hX.c1; have s2 := hX.c2
    have XP := hX.put (.int .i64 0) (.int .i64 0) (.slice none 0 0)
    have z0 := XP.c0; have z1 := XP.c1; have z2 := XP.c2
    have BP := hide (below_putM hB (b := w.heap.size + 1) (by omega) (.int .i64 0) (.int .i64 0) (.slice none 0 0))
    clear XP hX hB
    go_wp2
    refine bodyPost_ret (v := .tuple #[.agg #[.int .i64 0, .int .i64 0, .slice none 0 0], _]) (by simp [results, Tryz.results14, go_sem, z0, z1, z2]) rfl ⟨_, rfl, NewM.zero _ _, unhide BP⟩

set_option maxRecDepth 20000 in
set_option maxHeartbeats 4000000 in
theorem gCols_of (r c n cap i k C s u0 u1 u2 l0 l1 l2 : Nat) (ao : Option Addr) (S : List Nat) (w : World) (hl : S.length = n) (hS : ∀ x ∈ S, x < 18446744073709551616)
    (C1 : ∀ w', Calls Tryz.prog 47 #[.agg #[.int .i64 r, .int .i64 c, .slice ao n cap], .int .i64 c, .int .i64 i, .int .i64 k] w' fun e w'' => e = .returned (.int .i64 0) ∧ Below w'.heap.size w' w'')
    (C2 : ∀ w', Calls Tryz.prog 50 #[.agg #[.int .i64 r, .int .i64 c, .slice ao n cap], .int .i64 i] w' fun e w'' => e = .returned (.agg #[.int .i64 u0, .int .i64 u1, .int .i64 u2]) ∧ Below w'.heap.size w' w'')
    (C3 : ∀ w', Calls Tryz.prog 50 #[.agg #[.int .i64 r, .int .i64 c, .slice ao n cap], .int .i64 k] w' fun e w'' => e = .returned (.agg #[.int .i64 l0, .int .i64 l1, .int .i64 l2]) ∧ Below w'.heap.size w' w'')
    (C4 : ∀ w', Below w.heap.size w w' → Calls Tryz.prog 48 #[.agg #[.int .i64 r, .int .i64 c, .slice ao n cap], .agg #[.int .i64 u0, .int .i64 u1, .int .i64 u2], .agg #[.int .i64 l0, .int .i64 l1, .int .i64 l2], .int .u64 C, .int .u64 s] w' fun e w'' => ∃ g, e = .returned (.agg #[.int .i64 r, .int .i64 c, .slice (some ⟨g, 0, none⟩) n n]) ∧ w'.heap.size ≤ g ∧ RowB w'' g S ∧ Below w'.heap.size w' w'') :
    Calls Tryz.prog 14 #[.agg #[.int .i64 r, .int .i64 c, .slice ao n cap], .int .i64 i, .int .i64 k, .int .u64 C, .int .u64 s] w fun e w' => ∃ v, e = .returned (.tuple #[v, .int .i64 0]) ∧ NewM w.heap.size w' r c S v ∧ Below w.heap.size w w' := by
  have K := hide (C1 ((w.alloc (.cells #[.int .i64 r, .int .i64 c, .slice ao n cap] 35)).alloc (.cells #[.int .i64 0, .int .i64 0, .slice none 0 0] 35)))
  simp only [size_alloc9] at K
  have KB := hide (boxes2 w (.int .i64 r) (.int .i64 c) (.slice ao n cap) (.int .i64 0) (.int .i64 0) (.slice none 0 0))
  have K2 := hide C2; have K3 := hide C3; have K4 := hide C4; have HL := hide hl; have HS := hide hS
  clear C1 C2 C3 C4 hl hS
  go_enter Tryz.func14, Tryz.ntmps14
  go_wp2_with fail
  refine Calls.mono (unhide K) ?_
  rintro e w1 ⟨rfl, hb1⟩
  obtain ⟨hB, hA, hX⟩ := unhide KB w1 hb1
  clear K KB hb1
  have ST := hide (show GsSt w w1 r c n cap ao from ⟨hB, hA, hX⟩)
  have a0 := hA.c0; have a1 := hA.c1; have a2 := hA.c2
  clear hB hA hX
  go_wp2_with fail
  clear a0 a1 a2
  refine at_world (fun W => GsSt w W r c n cap ao) (unhide ST) ?_
  clear ST
  rintro W0 st
  have ST := hide (st.all ((Below.refl W0.heap.size W0).drew))
  clear st
  have a0 := (unhide ST).2.1.c0; have a1 := (unhide ST).2.1.c1; have a2 := (unhide ST).2.1.c2
  go_region_with (first
    | (go_at_call 50; refine (unhide K2 _).mono ?_; rintro e w4 ⟨rfl, hb⟩; clear a0 a1 a2; have S4 := (unhide ST).all hb; have a0 := S4.2.1.c0; have a1 := S4.2.1.c1; have a2 := S4.2.1.c2; replace ST := hide S4; clear S4 hb K2)
    | (go_at_call 50; refine (unhide K3 _).mono ?_; rintro e w5 ⟨rfl, hb⟩; clear a0 a1 a2; have S4 := (unhide ST).all hb; have a0 := S4.2.1.c0; have a1 := S4.2.1.c1; have a2 := S4.2.1.c2; replace ST := hide S4; clear S4 hb K3)
    | (go_at_call 48; refine (unhide K4 _ (unhide ST).1).mono ?_; rintro e w6 ⟨g, rfl, hg, hr, hb⟩; clear a0 a1 a2; have S4 := (unhide ST).all hb; have f0 := S4.2.2.free 0; have f1 := S4.2.2.free 1; have f2 := S4.2.2.free 2; have s0 := S4.2.2.c0; have s1 := S4.2.2.c1; have s2 := S4.2.2.c2; have HG := hide (Nat.le_trans (unhide ST).1.size hg); have hr2 := hr.bits (unhide HS); have XP := S4.2.2.put (.int .i64 r) (.int .i64 c) (.slice (some ⟨g, 0, none⟩) n n); have z0 := XP.c0; have z1 := XP.c1; have z2 := XP.c2; have Q := hide (hr2.putM S4.2.2 (.int .i64 r) (.int .i64 c) (.slice (some ⟨g, 0, none⟩) n n)); have BP := hide (below_putM S4.1 (b := w.heap.size + 1) (by omega) (.int .i64 r) (.int .i64 c) (.slice (some ⟨g, 0, none⟩) n n)); clear S4 hb hg hr hr2 XP ST K4)
    | fail "NO ARM")
  all_goals
    go_wp2
    exact bodyPost_ret (v := .tuple #[.agg #[.int .i64 r, .int .i64 c, .slice (some ⟨g, 0, none⟩) n n], .int .i64 0]) (by simp [results, Tryz.results14, go_sem, z0, z1, z2]) rfl ⟨_, rfl, ⟨_, n, by rw [unhide HL], .inr ⟨g, 0, rfl, unhide HG⟩, by have := unhide Q; rwa [unhide HL] at this⟩, unhide BP⟩

end Go.Proofs.YtceofkjefmilfaaGreatDoor

/- Package givens: what Rows and Cols answer. -/
namespace Go.Proofs.YtceofkjefmilfaaGreatDoor
open Go.RowKit

theorem chk_none {l i k : Int} (g : ¬ (0 ≤ i ∧ i < l ∧ 0 ≤ k ∧ k < l ∧ ¬ i = k)) :
    (i < 0 ∧ (7 : Int) = 7) ∨ (0 ≤ i ∧ l ≤ i ∧ (7 : Int) = 7) ∨ (0 ≤ i ∧ i < l ∧ k < 0 ∧ (7 : Int) = 7) ∨ (0 ≤ i ∧ i < l ∧ 0 ≤ k ∧ l ≤ k ∧ (7 : Int) = 7) ∨ (0 ≤ i ∧ i < l ∧ 0 ≤ k ∧ k < l ∧ i = k ∧ (7 : Int) = 7) ∨ (0 ≤ i ∧ i < l ∧ 0 ≤ k ∧ k < l ∧ ¬ i = k ∧ (7 : Int) = 0) := by
  omega

theorem gRows_form (r c : Int) (ao : Option Addr) (n cap : Nat) (i k : Int) (C s : Nat) (w : World) (hn : n ≤ 35184372088830) (h : okB r c n = false) :
    Calls Tryz.prog 13 #[.agg #[.int .i64 r, .int .i64 c, .slice ao n cap], .int .i64 i, .int .i64 k, .int .u64 C, .int .u64 s] w fun e w' => ∃ v, e = .returned (.tuple #[v, .int .i64 1]) ∧ NewM w.heap.size w' 0 0 [] v ∧ Below w.heap.size w w' :=
  gRows_err r c ao n cap i k C s 1 w (.inl rfl) (fun w' => gcheck_no r c ao n cap r i k w' hn h)
theorem gCols_form (r c : Int) (ao : Option Addr) (n cap : Nat) (i k : Int) (C s : Nat) (w : World) (hn : n ≤ 35184372088830) (h : okB r c n = false) :
    Calls Tryz.prog 14 #[.agg #[.int .i64 r, .int .i64 c, .slice ao n cap], .int .i64 i, .int .i64 k, .int .u64 C, .int .u64 s] w fun e w' => ∃ v, e = .returned (.tuple #[v, .int .i64 1]) ∧ NewM w.heap.size w' 0 0 [] v ∧ Below w.heap.size w w' :=
  gCols_err r c ao n cap i k C s 1 w (.inl rfl) (fun w' => gcheck_no r c ao n cap c i k w' hn h)

theorem gRows_none (r c : Nat) (ao : Option Addr) (n cap : Nat) (i k : Int) (C s : Nat) (w : World) (hn : n ≤ 35184372088830) (h : okB (r : Int) (c : Int) n = true) (g : ¬ (0 ≤ i ∧ i < (r : Int) ∧ 0 ≤ k ∧ k < (r : Int) ∧ ¬ i = k)) :
    Calls Tryz.prog 13 #[.agg #[.int .i64 r, .int .i64 c, .slice ao n cap], .int .i64 i, .int .i64 k, .int .u64 C, .int .u64 s] w fun e w' => ∃ v, e = .returned (.tuple #[v, .int .i64 7]) ∧ NewM w.heap.size w' 0 0 [] v ∧ Below w.heap.size w w' :=
  gRows_err r c ao n cap i k C s 7 w (.inr rfl) (fun w' => gcheck_any r c ao n cap r i k 7 w' hn h (chk_none g))
theorem gCols_none (r c : Nat) (ao : Option Addr) (n cap : Nat) (i k : Int) (C s : Nat) (w : World) (hn : n ≤ 35184372088830) (h : okB (r : Int) (c : Int) n = true) (g : ¬ (0 ≤ i ∧ i < (c : Int) ∧ 0 ≤ k ∧ k < (c : Int) ∧ ¬ i = k)) :
    Calls Tryz.prog 14 #[.agg #[.int .i64 r, .int .i64 c, .slice ao n cap], .int .i64 i, .int .i64 k, .int .u64 C, .int .u64 s] w fun e w' => ∃ v, e = .returned (.tuple #[v, .int .i64 7]) ∧ NewM w.heap.size w' 0 0 [] v ∧ Below w.heap.size w w' :=
  gCols_err r c ao n cap i k C s 7 w (.inr rfl) (fun w' => gcheck_any r c ao n cap c i k 7 w' hn h (chk_none g))

theorem chk_ok {l i k : Nat} (hi : i < l) (hk : k < l) (hne : i ≠ k) :
    ((i : Int) < 0 ∧ (0 : Int) = 7) ∨ (0 ≤ (i : Int) ∧ (l : Int) ≤ i ∧ (0 : Int) = 7) ∨ (0 ≤ (i : Int) ∧ (i : Int) < l ∧ (k : Int) < 0 ∧ (0 : Int) = 7) ∨ (0 ≤ (i : Int) ∧ (i : Int) < l ∧ 0 ≤ (k : Int) ∧ (l : Int) ≤ k ∧ (0 : Int) = 7) ∨ (0 ≤ (i : Int) ∧ (i : Int) < l ∧ 0 ≤ (k : Int) ∧ (k : Int) < l ∧ (i : Int) = k ∧ (0 : Int) = 7) ∨ (0 ≤ (i : Int) ∧ (i : Int) < l ∧ 0 ≤ (k : Int) ∧ (k : Int) < l ∧ ¬ (i : Int) = k ∧ (0 : Int) = 0) := by
  omega

theorem at_el (c : Nat) (S : List Nat) (i k : Nat) : S[i * c + k]?.getD 0 = elM c S i k := by
  unfold elM
  rw [List.getD_eq_getElem?_getD]
theorem roM_lt {w : World} {ao : Option Addr} {cap r c : Nat} {S : List Nat} (h : Mx w ao cap r c S) (i k C s : Nat) : ∀ x ∈ roM r c S i k C s, x < 18446744073709551616 := by
  intro x hx
  unfold roM mkM at hx
  obtain ⟨p, _, rfl⟩ := List.mem_map.1 hx
  show (if _ then _ else if _ then _ else _) < _
  split
  · exact aV_lt _ _ (mV_lt _ _) (mV_lt _ _)
  · split
    · exact aV_lt _ _ (mV_lt _ _) (fN_lt _ (mV_lt _ _))
    · exact h.el_lt _ _

/-- Two rows turned. -/
theorem gRows_ok (r c cap i k C s : Nat) (ao : Option Addr) (S : List Nat) (w : World) (h : Mx w ao cap r c S) (hi : i < r) (hk : k < r) (hne : i ≠ k) (hC : C < 18446744073709551616) (hs : s < 18446744073709551616) (hT : Tab w) :
    Calls Tryz.prog 13 #[.agg #[.int .i64 r, .int .i64 c, .slice ao S.length cap], .int .i64 i, .int .i64 k, .int .u64 C, .int .u64 s] w fun e w' => ∃ v, e = .returned (.tuple #[v, .int .i64 0]) ∧ NewM w.heap.size w' r c (roM r c S i k C s) v ∧ Below w.heap.size w w' := by
  have h36 := h.small
  have r6 := h.2.2.1
  have c6 := h.2.2.2
  have bi : i * c ≤ 36 := Nat.mul_le_mul (show i ≤ 6 by omega) c6
  have bk : k * c ≤ 36 := Nat.mul_le_mul (show k ≤ 6 by omega) c6
  refine gRows_of r c S.length cap i k C s (i * c) 1 c (k * c) 1 c ao (roM r c S i k C s) w (by rw [roM_len, h.2.1]) (roM_lt h i k C s)
    (fun w' => gcheck_any r c ao S.length cap r i k 0 w' (by omega) (mx_ok h) (chk_ok hi hk hne))
    (fun w' => (growOf_of r c S.length cap i (i * c) ao w' (cast_mul10 i c) bi).mono (by rintro e w'' ⟨rfl, hb⟩; exact ⟨rfl, hb⟩))
    (fun w' => (growOf_of r c S.length cap k (k * c) ao w' (cast_mul10 k c) bk).mono (by rintro e w'' ⟨rfl, hb⟩; exact ⟨rfl, hb⟩))
    (fun w' hb => ?_)
  have hM := h.below hb
  rw [← roJ_all]
  refine turned_of r c S.length cap (i * c) 1 c (k * c) 1 c C s ao (fun j => roJ r c S i k C s j) (fun j => i * c + j) (fun j => k * c + j) (fun j => elM c S i j) (fun j => elM c S k j) (fun j => aV (mV C (elM c S i j)) (mV s (elM c S k j))) (fun j => aV (mV C (elM c S k j)) (fN (mV s (elM c S i j)))) w' h36 c6 (by show BitsAt w' ao cap (mxL (roJ r c S i k C s 0)); rw [roJ_0 r c S i k C s h.2.1]; exact hM.1) (fun j => by rw [roJ_len, h.2.1]) (fun j hj => ?_) (fun w'' j hj => ?_) (fun w'' j hj => ?_) (fun w'' j hb2 hj => gpair_any _ _ C s w'' (h.el_lt _ _) (h.el_lt _ _) hC hs ((hT.all hb).all hb2))
  · have p1 : i * c + j < S.length := by rw [h.2.1]; exact place_lt hi hj
    have p2 : k * c + j < S.length := by rw [h.2.1]; exact place_lt hk hj
    refine ⟨p1, p2, fun e => hne (Nat.eq_of_mul_eq_mul_right (show 0 < c by omega) (by have e' : i * c + j = k * c + j := e; omega)), ?_, ?_, roJ_set r c S hi hk hne hj⟩
    · show (roJ r c S i k C s j)[i * c + j]?.getD 0 = _
      rw [at_el]
      unfold roJ
      rw [el_mk r c _ hi hj, if_neg (Nat.lt_irrefl j)]
    · show (roJ r c S i k C s j)[k * c + j]?.getD 0 = _
      rw [at_el]
      unfold roJ
      rw [el_mk r c _ hk hj, if_neg (Nat.lt_irrefl j)]
  · have p1 : i * c + j < S.length := by rw [h.2.1]; exact place_lt hi hj
    exact gplace_of (i * c) 1 c j j (i * c + j) w'' (by simp) (by simp) (by omega)
  · have p2 : k * c + j < S.length := by rw [h.2.1]; exact place_lt hk hj
    exact gplace_of (k * c) 1 c j j (k * c + j) w'' (by simp) (by simp) (by omega)

/-- The first j rows of two columns turned. -/
def coJ (r c : Nat) (S : List Nat) (i k C s j : Nat) : List Nat := mkM r c (fun p q => if p < j then (if q = i then aV (mV C (elM c S p i)) (mV s (elM c S p k)) else if q = k then aV (mV C (elM c S p k)) (fN (mV s (elM c S p i))) else elM c S p q) else elM c S p q)
theorem coJ_len (r c : Nat) (S : List Nat) (i k C s j : Nat) : (coJ r c S i k C s j).length = r * c := mkM_len _ _ _
theorem coJ_0 (r c : Nat) (S : List Nat) (i k C s : Nat) (h : S.length = r * c) : coJ r c S i k C s 0 = S := by
  unfold coJ
  rw [← mkM_of r c S h]
  refine mkM_congr (fun p q _ _ => ?_)
  rw [mkM_of r c S h, if_neg (by omega)]
  rfl
theorem coJ_all (r c : Nat) (S : List Nat) {i k : Nat} (C s : Nat) (hi : i < c) (hk : k < c) : coJ r c S i k C s r = coM r c S i k C s := by
  unfold coJ coM
  rw [show tuM c r (roM c r (tuM r c S) i k C s) = mkM r c (fun p q => elM r (roM c r (tuM r c S) i k C s) q p) from rfl]
  refine mkM_congr (fun p q hp hq => ?_)
  rw [if_pos hp, el_ro c r (tuM r c S) i k C s hq hp]
  have el : ∀ {a}, a < c → elM r (tuM r c S) a p = elM c S p a := fun {a} ha => el_mk c r (fun k i => elM c S i k) ha hp
  rw [el hi, el hk, el hq]
theorem coJ_set (r c : Nat) (S : List Nat) {i k C s j : Nat} (hi : i < c) (hk : k < c) (hne : i ≠ k) (hj : j < r) :
    ((coJ r c S i k C s j).set (j * c + i) (aV (mV C (elM c S j i)) (mV s (elM c S j k)))).set (j * c + k) (aV (mV C (elM c S j k)) (fN (mV s (elM c S j i)))) = coJ r c S i k C s (j + 1) := by
  unfold coJ
  rw [mkM_set r c _ _ hj hi, mkM_set r c _ _ hj hk]
  refine mkM_congr (fun q p _ _ => ?_)
  by_cases q1 : q < j
  · rw [if_neg (fun e => by omega), if_neg (fun e => by omega), if_pos q1, if_pos (show q < j + 1 by omega)]
  · by_cases q2 : q = j
    · subst q2
      by_cases p2 : p = k
      · rw [if_pos ⟨rfl, p2⟩, if_pos (show q < q + 1 by omega), if_neg (fun e => hne (e.symm.trans p2)), if_pos p2]
      · rw [if_neg (fun e => p2 e.2)]
        by_cases p1 : p = i
        · rw [if_pos ⟨rfl, p1⟩, if_pos (show q < q + 1 by omega), if_pos p1]
        · rw [if_neg (fun e => p1 e.2), if_neg (show ¬ q < q by omega), if_pos (show q < q + 1 by omega), if_neg p1, if_neg p2]
    · rw [if_neg (fun e => q2 e.1), if_neg (fun e => q2 e.1), if_neg q1, if_neg (show ¬ q < j + 1 by omega)]
theorem coJ_lt {w : World} {ao : Option Addr} {cap r c : Nat} {S : List Nat} (h : Mx w ao cap r c S) (i k C s j : Nat) : ∀ x ∈ coJ r c S i k C s j, x < 18446744073709551616 := by
  intro x hx
  unfold coJ mkM at hx
  obtain ⟨p, _, rfl⟩ := List.mem_map.1 hx
  show (if _ then (if _ then _ else if _ then _ else _) else _) < _
  split
  · split
    · exact aV_lt _ _ (mV_lt _ _) (mV_lt _ _)
    · split
      · exact aV_lt _ _ (mV_lt _ _) (fN_lt _ (mV_lt _ _))
      · exact h.el_lt _ _
  · exact h.el_lt _ _

/-- Two columns turned. -/
theorem gCols_ok (r c cap i k C s : Nat) (ao : Option Addr) (S : List Nat) (w : World) (h : Mx w ao cap r c S) (hi : i < c) (hk : k < c) (hne : i ≠ k) (hC : C < 18446744073709551616) (hs : s < 18446744073709551616) (hT : Tab w) :
    Calls Tryz.prog 14 #[.agg #[.int .i64 r, .int .i64 c, .slice ao S.length cap], .int .i64 i, .int .i64 k, .int .u64 C, .int .u64 s] w fun e w' => ∃ v, e = .returned (.tuple #[v, .int .i64 0]) ∧ NewM w.heap.size w' r c (coM r c S i k C s) v ∧ Below w.heap.size w w' := by
  have h36 := h.small
  have r6 := h.2.2.1
  have c6 := h.2.2.2
  rw [← coJ_all r c S C s hi hk]
  refine gCols_of r c S.length cap i k C s i c r k c r ao (coJ r c S i k C s r) w (by rw [coJ_len, h.2.1]) (coJ_lt h i k C s r)
    (fun w' => gcheck_any r c ao S.length cap c i k 0 w' (by omega) (mx_ok h) (chk_ok hi hk hne))
    (fun w' => gcolOf_of r c S.length cap i ao w')
    (fun w' => gcolOf_of r c S.length cap k ao w')
    (fun w' hb => ?_)
  have hM := h.below hb
  refine turned_of r c S.length cap i c r k c r C s ao (fun j => coJ r c S i k C s j) (fun j => j * c + i) (fun j => j * c + k) (fun j => elM c S j i) (fun j => elM c S j k) (fun j => aV (mV C (elM c S j i)) (mV s (elM c S j k))) (fun j => aV (mV C (elM c S j k)) (fN (mV s (elM c S j i)))) w' h36 r6 (by show BitsAt w' ao cap (mxL (coJ r c S i k C s 0)); rw [coJ_0 r c S i k C s h.2.1]; exact hM.1) (fun j => by rw [coJ_len, h.2.1]) (fun j hj => ?_) (fun w'' j hj => ?_) (fun w'' j hj => ?_) (fun w'' j hb2 hj => gpair_any _ _ C s w'' (h.el_lt _ _) (h.el_lt _ _) hC hs ((hT.all hb).all hb2))
  · have p1 : j * c + i < S.length := by rw [h.2.1]; exact place_lt hj hi
    have p2 : j * c + k < S.length := by rw [h.2.1]; exact place_lt hj hk
    refine ⟨p1, p2, fun e => hne (by have e' : j * c + i = j * c + k := e; omega), ?_, ?_, coJ_set r c S hi hk hne hj⟩
    · show (coJ r c S i k C s j)[j * c + i]?.getD 0 = _
      rw [at_el]
      unfold coJ
      rw [el_mk r c _ hj hi, if_neg (Nat.lt_irrefl j)]
    · show (coJ r c S i k C s j)[j * c + k]?.getD 0 = _
      rw [at_el]
      unfold coJ
      rw [el_mk r c _ hj hk, if_neg (Nat.lt_irrefl j)]
  · have p1 : j * c + i < S.length := by rw [h.2.1]; exact place_lt hj hi
    exact gplace_of i c r j (j * c) (j * c + i) w'' (cast_mul10 j c) (by simp; omega) (by omega)
  · have p2 : j * c + k < S.length := by rw [h.2.1]; exact place_lt hj hk
    exact gplace_of k c r j (j * c) (j * c + k) w'' (cast_mul10 j c) (by simp; omega) (by omega)

end Go.Proofs.YtceofkjefmilfaaGreatDoor

