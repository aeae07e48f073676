/- Part 36 of the texts. -/
import Derived.Test.YtceofkjefmilfaaGreatDoorParte35
import Derived.Test.YtceofkjefmilfaaGreatDoorParte34
import Derived.Test.YtceofkjefmilfaaGreatDoorParte25
import Derived.Test.YtceofkjefmilfaaGreatDoorParte31
import Derived.Test.YtceofkjefmilfaaGreatDoorParte28
import Derived.Test.YtceofkjefmilfaaGreatDoorParte27
import Derived.Test.YtceofkjefmilfaaGreatDoorParte13
import Derived.Test.YtceofkjefmilfaaGreatDoorParte24
import Derived.Test.YtceofkjefmilfaaGreatDoorParte32
import Derived.Test.YtceofkjefmilfaaGreatDoorParte30
import Derived.Test.YtceofkjefmilfaaGreatDoorParte07
import Derived.Test.YtceofkjefmilfaaGreatDoorParte26
import Derived.Test.YtceofkjefmilfaaGreatDoorParte33
/- The reference of layer 11: Gradient by letters. -/
namespace Go.Proofs.YtceofkjefmilfaaGreatDoor
open Go.RowKit
attribute [local go_sem ↓] Go.wp_at_zero Go.wp_at_succ

theorem OwnD.made (w : World) (base : Nat) (lo : Int) (f : Nat → Int) (hb : base ≤ w.heap.size) : OwnD base (w.alloc (.cells #[] 52)) (.slice (some ⟨w.heap.size, 0, none⟩) 0 0) 0 lo f :=
  ⟨[], rfl, World.ownsRow_made w #[] 0 hb (by simp [maxLen]) (by simp), fun g hg => by cases hg; exact ⟨#[], _, heap_alloc_new w _, fun u hu => by simp at hu⟩, fun k hk => by omega⟩
theorem OwnD.congr {base : Nat} {w : World} {v : Value} {n : Nat} {lo : Int} {f g : Nat → Int} (h : OwnD base w v n lo f) (he : ∀ k, k < n → f k = g k) : OwnD base w v n lo g := by
  obtain ⟨D, h1, h2, h3, h4⟩ := h
  exact ⟨D, h1, h2, h3, fun k hk => by rw [← he k hk]; exact h4 k hk⟩

end Go.Proofs.YtceofkjefmilfaaGreatDoor

/- The laws of layer 12: awake; GivensTurns, GivensOne walked by what givens.Turn answers. -/
namespace Go.Proofs.YtceofkjefmilfaaGreatDoor
open Go.RowKit
attribute [local go_sem ↓] Go.wp_at_zero Go.wp_at_succ

theorem w12_facts : ¬ fK 4616189618054758400 = 0 ∧ ¬ fK 4613937818241073152 = 0 ∧ eX (max (fR 4613937818241073152) (fR 4616189618054758400)) = 2 ∧ aV (mV (xV 4613937818241073152 (-2)) (xV 4613937818241073152 (-2))) (mV (xV 4616189618054758400 (-2)) (xV 4616189618054758400 (-2))) = 4609715693590413312 ∧ xV 4608308318706860032 2 = 4617315517961601024 := by decide +kernel

theorem gvR_345 : gvR 4613937818241073152 4616189618054758400 = 4617315517961601024 := by
  obtain ⟨h1, h2, h3, h4, h5⟩ := w12_facts
  unfold gvR
  rw [if_neg h1, if_neg h2]
  unfold gvN gvK
  rw [h3, h4, w9_root, h5]
theorem fin_345 : fFin 4613937818241073152 = true ∧ fFin 4616189618054758400 = true := by decide +kernel

set_option maxRecDepth 20000 in
set_option maxHeartbeats 4000000 in
theorem awake12_of (c s : Nat) (w : World)
    (C1 : ∀ w', Below w.heap.size w w' → Calls Tryz.prog 8 #[.int .u64 4613937818241073152, .int .u64 4616189618054758400] w' fun e w'' => e = .returned (.tuple #[.int .u64 (c : Nat), .int .u64 (s : Nat), .int .u64 4617315517961601024, .int .i64 0]) ∧ Below w'.heap.size w' w'') :
    Calls Tryz.prog 10 #[] w fun e w' => e = .returned (.bool true) ∧ Below w.heap.size w w' := by
  have K1 := hide C1
  clear C1
  go_enter Tryz.func10, Tryz.ntmps10
  go_wp2_with fail
  refine (unhide K1 _ (Below.refl _ _)).mono ?_
  rintro e w1 ⟨rfl, hb⟩
  have BB := hide hb
  clear hb K1
  go_wp2
  go_ret
  exact ⟨rfl, unhide BB⟩

end Go.Proofs.YtceofkjefmilfaaGreatDoor

/- The law MatrixParts, walked. -/
namespace Go.Proofs.YtceofkjefmilfaaGreatDoor
open Go.RowKit
attribute [local go_sem ↓] Go.wp_at_zero Go.wp_at_succ

/-- A matrix that was answered: its box, its numbers, from block H on. -/
structure AnsAt (wr : World) (H g : Nat) (p q : Nat) (so : Option Addr) (sd : Nat) (S : List Nat) : Prop where
  box : BoxM wr g (.int .i64 p) (.int .i64 q) (.slice so S.length sd)
  bits : BitsAt wr so sd (mxL S)
  new : NewB H so (mxL S)
theorem AnsAt.all {wr w' : World} {H g p q : Nat} {so : Option Addr} {sd : Nat} {S : List Nat} (h : AnsAt wr H g p q so sd S) (hb : Below wr.heap.size wr w') : AnsAt w' H g p q so sd S := ⟨h.box.all hb, h.bits.below hb, h.new⟩
theorem AnsAt.put {wr : World} {H g p q : Nat} {so : Option Addr} {sd : Nat} {S : List Nat} (h : AnsAt wr H g p q so sd S) {b k : Nat} {z0 : Int} (hc : wr.cell? ⟨b, k, none⟩ = some (.int .u64 z0)) (hb : b < H) (z : Int) : AnsAt (wr.setCell ⟨b, k, none⟩ (.int .u64 z)) H g p q so sd S :=
  ⟨h.box.other (p := ⟨b, k, none⟩) (h.box.away hc) _, h.bits.far h.new hb k _, h.new⟩

theorem Mx.from {w : World} {ao : Option Addr} {cap p q : Nat} {I : List Int} (h : BitsAt w ao cap I) (ho : okB (p : Int) (q : Int) I.length = true) : Mx w ao cap p q (natL I) := by
  obtain ⟨p', q', e1, e2, hM, _⟩ := Mx.of h ho
  obtain rfl : p = p' := by omega
  obtain rfl : q = q' := by omega
  exact hM

end Go.Proofs.YtceofkjefmilfaaGreatDoor

/- The law GivensRows: told. -/
namespace Go.Proofs.YtceofkjefmilfaaGreatDoor
open Go.RowKit
attribute [local go_sem ↓] Go.wp_at_zero Go.wp_at_succ

set_option maxRecDepth 20000 in
set_option maxHeartbeats 2000000 in
theorem told12_ok (r c : Int) (ao bo : Option Addr) (cap d : Nat) (S : List Nat) (w : World) (h : BitsAt w ao cap (mxL S)) (h2 : BitsAt w bo d (mxL S)) (hl : S.length ≤ 1000000) :
    Calls Tryz.prog 16 #[.agg #[.int .i64 r, .int .i64 c, .slice ao S.length cap], .int .i64 0, .agg #[.int .i64 r, .int .i64 c, .slice bo S.length d], .int .i64 0] w fun e w' => e = .returned (.bool true) ∧ Below w.heap.size w w' := by
  have b0 := below_alloc9 w (.cells #[.int .i64 r, .int .i64 c, .slice ao S.length cap] 35)
  have b1 := below_alloc9 (w.alloc (.cells #[.int .i64 r, .int .i64 c, .slice ao S.length cap] 35)) (.cells #[.int .i64 r, .int .i64 c, .slice bo S.length d] 35)
  have bb := b0.trans (b1.mono b0.size)
  have K := hide (rsame_any r c ao bo cap d S _ (h.below bb) (h2.below bb) hl)
  have HB := hide bb
  clear b0 b1 bb h h2
  generalize S.length = n at *
  go_enter Tryz.func16, Tryz.ntmps16
  go_wp2_with fail
  refine Calls.mono (unhide K) ?_
  rintro e w1 ⟨rfl, hb1⟩
  clear K
  go_wp2
  go_ret
  exact ⟨rfl, (unhide HB).trans (hb1.mono (unhide HB).size)⟩

set_option maxRecDepth 20000 in
set_option maxHeartbeats 2000000 in
theorem told12_err (p q : Int) (bo : Option Addr) (m d cap : Nat) (ao : Option Addr) (f : Int) (w : World) (hf : f = 1 ∨ f = 7) :
    Calls Tryz.prog 16 #[.agg #[.int .i64 0, .int .i64 0, .slice ao 0 cap], .int .i64 f, .agg #[.int .i64 p, .int .i64 q, .slice bo m d], .int .i64 f] w fun e w' => e = .returned (.bool true) ∧ Below w.heap.size w w' := by
  have b0 := below_alloc9 w (.cells #[.int .i64 0, .int .i64 0, .slice ao 0 cap] 35)
  have b1 := below_alloc9 (w.alloc (.cells #[.int .i64 0, .int .i64 0, .slice ao 0 cap] 35)) (.cells #[.int .i64 p, .int .i64 q, .slice bo m d] 35)
  have bb := b0.trans (b1.mono b0.size)
  have K := hide (fun w' => rsame_any 0 0 ao none cap 0 [] w' (BitsAt.nilAt w' _ _) (BitsAt.nilAt w' _ _) (by simp))
  simp only [List.length_nil] at K
  have HB := hide bb
  clear b0 b1 bb
  rcases hf with rfl | rfl
  all_goals
    go_enter Tryz.func16, Tryz.ntmps16
    go_wp2_with fail
    refine (unhide K _).mono ?_
    rintro e w1 ⟨rfl, hb1⟩
    clear K
    go_wp2
    go_ret
    exact ⟨rfl, (unhide HB).trans (hb1.mono (unhide HB).size)⟩

end Go.Proofs.YtceofkjefmilfaaGreatDoor

/- The law MatrixStacks, walked (mknk.py). -/
namespace Go.Proofs.YtceofkjefmilfaaGreatDoor
open Go.RowKit
attribute [local go_sem ↓] Go.wp_at_zero Go.wp_at_succ

theorem BoxM.three {w : World} {b g : Nat} {x y z : Value} (h : BoxM w b x y z) (hg : b ≠ g) (u u' u'' : Value) : BoxM (((w.setCell ⟨g, 0, none⟩ u).setCell ⟨g, 1, none⟩ u').setCell ⟨g, 2, none⟩ u'') b x y z :=
  ((h.other (p := ⟨g, 0, none⟩) hg u).other (p := ⟨g, 1, none⟩) hg u').other (p := ⟨g, 2, none⟩) hg u''
theorem CopyB.three {base H : Nat} {w : World} {po : Option Addr} {n g : Nat} (h : CopyB base H w po n) (hg : H ≤ g) (u u' u'' : Value) : CopyB base H (((w.setCell ⟨g, 0, none⟩ u).setCell ⟨g, 1, none⟩ u').setCell ⟨g, 2, none⟩ u'') po n := by
  rcases h with h | ⟨b, h1, h2, h3, cur, h4, h5⟩
  · exact .inl h
  · refine .inr ⟨b, h1, h2, h3, cur, ?_, h5⟩
    have ne : b ≠ g := by omega
    rw [Below.heap_setCell _ ⟨g, 2, none⟩ u'' b ne, Below.heap_setCell _ ⟨g, 1, none⟩ u' b ne, Below.heap_setCell _ ⟨g, 0, none⟩ u b ne]
    exact h4

/-- What holds while the law's two copies are spoiled, and behind it. -/
structure SkSt (w wr : World) (H gp gq gs gt : Nat) (r c p q : Int) (ao bo : Option Addr) (n cap m d : Nat) (po qo : Option Addr) (pc qc s1 s2 t1 t2 : Nat) (so : Option Addr) (sd : Nat) (S : List Nat) (ro : Option Addr) (rd : Nat) (T : List Nat) : Prop where
  bel : Below w.heap.size w wr
  a : BoxM wr w.heap.size (.int .i64 r) (.int .i64 c) (.slice ao n cap)
  b : BoxM wr (w.heap.size + 1) (.int .i64 p) (.int .i64 q) (.slice bo m d)
  pb : BoxM wr gp (.int .i64 r) (.int .i64 c) (.slice po n pc)
  qb : BoxM wr gq (.int .i64 p) (.int .i64 q) (.slice qo m qc)
  cp : CopyB w.heap.size H wr po n
  cq : CopyB w.heap.size H wr qo m
  s : AnsAt wr H gs s1 s2 so sd S
  t : AnsAt wr H gt t1 t2 ro rd T
theorem SkSt.all {w wr : World} {H gp gq gs gt : Nat} {r c p q : Int} {ao bo : Option Addr} {n cap m d : Nat} {po qo : Option Addr} {pc qc s1 s2 t1 t2 : Nat} {so : Option Addr} {sd : Nat} {S : List Nat} {ro : Option Addr} {rd : Nat} {T : List Nat} {w' : World} (h : SkSt w wr H gp gq gs gt r c p q ao bo n cap m d po qo pc qc s1 s2 t1 t2 so sd S ro rd T) (hb : Below wr.heap.size wr w') : SkSt w w' H gp gq gs gt r c p q ao bo n cap m d po qo pc qc s1 s2 t1 t2 so sd S ro rd T :=
  ⟨h.bel.trans (hb.mono h.bel.size), h.a.all hb, h.b.all hb, h.pb.all hb, h.qb.all hb, h.cp.below hb, h.cq.below hb, h.s.all hb, h.t.all hb⟩
theorem SkSt.set {w wr : World} {H gp gq gs gt : Nat} {r c p q : Int} {ao bo : Option Addr} {n cap m d : Nat} {po qo : Option Addr} {pc qc s1 s2 t1 t2 : Nat} {so : Option Addr} {sd : Nat} {S : List Nat} {ro : Option Addr} {rd : Nat} {T : List Nat} (h : SkSt w wr H gp gq gs gt r c p q ao bo n cap m d po qo pc qc s1 s2 t1 t2 so sd S ro rd T) {g j : Nat} {z0 : Int} (cz : wr.cell? ⟨g, j, none⟩ = some (.int .u64 z0)) (e2 : w.heap.size ≤ g) (e3 : g < H) (z : Int) : SkSt w (wr.setCell ⟨g, j, none⟩ (.int .u64 z)) H gp gq gs gt r c p q ao bo n cap m d po qo pc qc s1 s2 t1 t2 so sd S ro rd T :=
  ⟨h.bel.setCell (p := ⟨g, j, none⟩) e2 _, h.a.other (p := ⟨g, j, none⟩) (h.a.away cz) _, h.b.other (p := ⟨g, j, none⟩) (h.b.away cz) _, h.pb.other (p := ⟨g, j, none⟩) (h.pb.away cz) _, h.qb.other (p := ⟨g, j, none⟩) (h.qb.away cz) _, h.cp.set g j z, h.cq.set g j z, h.s.put cz e3 z, h.t.put cz e3 z⟩
/-- Stores into a box that lies above all of it. -/
theorem SkSt.box {w wr : World} {H gp gq gs gt : Nat} {r c p q : Int} {ao bo : Option Addr} {n cap m d : Nat} {po qo : Option Addr} {pc qc s1 s2 t1 t2 : Nat} {so : Option Addr} {sd : Nat} {S : List Nat} {ro : Option Addr} {rd : Nat} {T : List Nat} (h : SkSt w wr H gp gq gs gt r c p q ao bo n cap m d po qo pc qc s1 s2 t1 t2 so sd S ro rd T) {g : Nat} {x y : Int} {xo : Option Addr} {xn xd : Nat} (hx : BoxM wr g (.int .i64 x) (.int .i64 y) (.slice xo xn xd)) (h0 : w.heap.size + 1 < g) (h1 : gp ≠ g) (h2 : gq ≠ g) (h3 : gs ≠ g) (h4 : gt ≠ g) (hc : H ≤ g) (u u' u'' : Value) : SkSt w (((wr.setCell ⟨g, 0, none⟩ u).setCell ⟨g, 1, none⟩ u').setCell ⟨g, 2, none⟩ u'') H gp gq gs gt r c p q ao bo n cap m d po qo pc qc s1 s2 t1 t2 so sd S ro rd T :=
  ⟨below_putM h.bel (by omega) u u' u'', h.a.three (by omega) u u' u'', h.b.three (by omega) u u' u'', h.pb.three h1 u u' u'', h.qb.three h2 u u' u'', h.cp.three hc u u' u'', h.cq.three hc u u' u'', ⟨h.s.box.three h3 u u' u'', h.s.bits.putM hx u u' u'', h.s.new⟩, ⟨h.t.box.three h4 u u' u'', h.t.bits.putM hx u u' u'', h.t.new⟩⟩

end Go.Proofs.YtceofkjefmilfaaGreatDoor

