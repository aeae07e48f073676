/- Part 27 of the texts. -/
import Derived.Test.YtfkndkaneffgdaaGreatDoorPartC26
/- Package matrix: Turn, Zeros, Eye. -/
namespace Go.Proofs.YtfkndkaneffgdaaGreatDoor
open Go.RowKit
attribute [local go_sem ↓] Go.wp_at_zero Go.wp_at_succ

theorem NewM.putM {H : Nat} {w : World} {r c : Nat} {S : List Nat} {v : Value} (h : NewM H w r c S v) {g : Nat} {x y : Int} {a : Option Addr} {n d : Nat} (hx : BoxM w g (.int .i64 x) (.int .i64 y) (.slice a n d)) (u u' u'' : Value) :
    NewM H (((w.setCell ⟨g, 0, none⟩ u).setCell ⟨g, 1, none⟩ u').setCell ⟨g, 2, none⟩ u'') r c S v := by
  obtain ⟨ao, cap, h1, h2, h3⟩ := h
  exact ⟨ao, cap, h1, h2, h3.putM hx u u' u''⟩
end Go.Proofs.YtfkndkaneffgdaaGreatDoor

/- Package matrix: Turn, Part, Stack, Beside, Mul, Sub, Zeros, Eye: their errors and their answers, by letters (mkn6.py). -/
namespace Go.Proofs.YtfkndkaneffgdaaGreatDoor
open Go.RowKit
attribute [local go_sem ↓] Go.wp_at_zero Go.wp_at_succ

theorem boxes1 (w : World) (x y z : Value) (w1 : World) (h : Below (w.heap.size + 1) (w.alloc (.cells #[x, y, z] 24)) w1) :
    Below w.heap.size w w1 ∧ BoxM w1 w.heap.size x y z := by
  have b0 := below_alloc9 w (.cells #[x, y, z] 24)
  exact ⟨b0.trans (h.mono (by omega)), (BoxM.new w x y z).below h (by omega)⟩
theorem boxes2 (w : World) (x y z x' y' z' : Value) (w1 : World) (h : Below (w.heap.size + 1 + 1) ((w.alloc (.cells #[x, y, z] 24)).alloc (.cells #[x', y', z'] 24)) w1) :
    Below w.heap.size w w1 ∧ BoxM w1 w.heap.size x y z ∧ BoxM w1 (w.heap.size + 1) x' y' z' := by
  have s0 := size_alloc9 w (.cells #[x, y, z] 24)
  have h' : Below ((w.alloc (.cells #[x, y, z] 24)).heap.size + 1) ((w.alloc (.cells #[x, y, z] 24)).alloc (.cells #[x', y', z'] 24)) w1 := by rw [s0]; exact h
  obtain ⟨h1, h2⟩ := boxes1 _ x' y' z' w1 h'
  rw [s0] at h1 h2
  obtain ⟨h3, h4⟩ := boxes1 w x y z w1 h1
  exact ⟨h3, h4, h2⟩
theorem boxes3 (w : World) (x y z x' y' z' x2 y2 z2 : Value) (w1 : World) (h : Below (w.heap.size + 1 + 1 + 1) (((w.alloc (.cells #[x, y, z] 24)).alloc (.cells #[x', y', z'] 24)).alloc (.cells #[x2, y2, z2] 24)) w1) :
    Below w.heap.size w w1 ∧ BoxM w1 w.heap.size x y z ∧ BoxM w1 (w.heap.size + 1) x' y' z' ∧ BoxM w1 (w.heap.size + 1 + 1) x2 y2 z2 := by
  have s0 := size_alloc9 w (.cells #[x, y, z] 24)
  have h' : Below ((w.alloc (.cells #[x, y, z] 24)).heap.size + 1 + 1) (((w.alloc (.cells #[x, y, z] 24)).alloc (.cells #[x', y', z'] 24)).alloc (.cells #[x2, y2, z2] 24)) w1 := by rw [s0]; exact h
  obtain ⟨h1, h2, h3⟩ := boxes2 _ x' y' z' x2 y2 z2 w1 h'
  rw [s0] at h1 h2 h3
  obtain ⟨h4, h5⟩ := boxes1 w x y z w1 h1
  exact ⟨h4, h5, h2, h3⟩

end Go.Proofs.YtfkndkaneffgdaaGreatDoor

/- Package matrix: the functions of two places, by letters. -/
namespace Go.Proofs.YtfkndkaneffgdaaGreatDoor
open Go.RowKit
attribute [local go_sem ↓] Go.wp_at_zero Go.wp_at_succ

set_option maxRecDepth 20000 in
set_option maxHeartbeats 2000000 in
theorem eye1_any (i k : Nat) (w : World) :
    Calls Tryz.prog 77 #[.int .i64 i, .int .i64 k] w fun e w' => e = .returned (.int .u64 ((if k = i then 4607182418800017408 else 0 : Nat) : Int)) ∧ Below w.heap.size w w' := by
  by_cases h : k = i
  · rw [if_pos h]
    subst h
    go_enter Tryz.func77, Tryz.ntmps77
    go_wp2
    go_ret
    exact ⟨rfl, Below.refl _ _⟩
  · rw [if_neg h]
    have e1 : decide ((i : Int) = (k : Int)) = false := decide_eq_false (by omega)
    go_enter Tryz.func77, Tryz.ntmps77
    go_wp2
    go_ret
    exact ⟨rfl, Below.refl _ _⟩

set_option maxRecDepth 20000 in
set_option maxHeartbeats 2000000 in
theorem part1_of (r c n cap i k a b x bx bi bk : Nat) (ao : Option Addr) (w : World) (ha : a + i ≤ 6) (hb : b + k ≤ 6) (hX : BoxM w bx (.int .i64 r) (.int .i64 c) (.slice ao n cap)) (hi : w.cell? ⟨bi, 0, none⟩ = some (.int .i64 (a : Nat))) (hk : w.cell? ⟨bk, 0, none⟩ = some (.int .i64 (b : Nat)))
    (C : Calls Tryz.prog 61 #[.agg #[.int .i64 r, .int .i64 c, .slice ao n cap], .int .i64 ((a : Int) + (i : Int)), .int .i64 ((b : Int) + (k : Int))] w fun e w' => e = .returned (.int .u64 (x : Nat)) ∧ Below w.heap.size w w') :
    Calls Tryz.prog 60 #[.int .i64 i, .int .i64 k, .pointer (some ⟨bx, 0, none⟩), .pointer (some ⟨bi, 0, none⟩), .pointer (some ⟨bk, 0, none⟩)] w fun e w' => e = .returned (.int .u64 (x : Nat)) ∧ Below w.heap.size w w' := by
  have K := hide C
  have p0 := hX.c0; have p1 := hX.c1; have p2 := hX.c2
  clear C hX
  go_enter Tryz.func60, Tryz.ntmps60
  go_wp2_with fail
  refine Calls.mono (unhide K) ?_
  rintro e w1 ⟨rfl, hb1⟩
  clear K
  go_wp2
  go_ret
  exact ⟨rfl, hb1⟩

end Go.Proofs.YtfkndkaneffgdaaGreatDoor

/- Package matrix: Part, Zeros, Eye, Mul: their errors and their answers, by letters (mkn8.py). -/
namespace Go.Proofs.YtfkndkaneffgdaaGreatDoor
open Go.RowKit
attribute [local go_sem ↓] Go.wp_at_zero Go.wp_at_succ

theorem boxesP (w : World) (x y z u v : Value) (w1 : World) (h : Below (w.heap.size + 1 + 1 + 1 + 1) ((((w.alloc (.cells #[x, y, z] 24)).alloc (.cells #[u] 3)).alloc (.cells #[v] 3)).alloc (.cells #[.int .i64 0, .int .i64 0, .slice none 0 0] 24)) w1) :
    Below w.heap.size w w1 ∧ BoxM w1 w.heap.size x y z ∧ (w1.cell? ⟨w.heap.size + 1, 0, none⟩ = some u ∧ w1.cell? ⟨w.heap.size + 1 + 1, 0, none⟩ = some v) ∧ BoxM w1 (w.heap.size + 1 + 1 + 1) (.int .i64 0) (.int .i64 0) (.slice none 0 0) := by
  have b0 := below_alloc9 w (.cells #[x, y, z] 24)
  have x0 := BoxM.new w x y z
  have s0 := size_alloc9 w (.cells #[x, y, z] 24)
  generalize w.alloc (.cells #[x, y, z] 24) = wa at *
  have b1 := below_alloc9 wa (.cells #[u] 3)
  have c1 := new_cell wa u 3
  have s1 := size_alloc9 wa (.cells #[u] 3)
  have x1 := x0.all b1
  generalize wa.alloc (.cells #[u] 3) = wb at *
  have b2 := below_alloc9 wb (.cells #[v] 3)
  have c2 := new_cell wb v 3
  have s2 := size_alloc9 wb (.cells #[v] 3)
  have x2 := x1.all b2
  have d1 := cell_keep c1 b2
  generalize wb.alloc (.cells #[v] 3) = wc at *
  have b3 := below_alloc9 wc (.cells #[.int .i64 0, .int .i64 0, .slice none 0 0] 24)
  have x4 := BoxM.new wc (.int .i64 0) (.int .i64 0) (.slice none 0 0)
  have s3 := size_alloc9 wc (.cells #[.int .i64 0, .int .i64 0, .slice none 0 0] 24)
  have x3 := x2.all b3
  have e1 := cell_keep d1 b3
  have e2 := cell_keep c2 b3
  generalize wc.alloc (.cells #[.int .i64 0, .int .i64 0, .slice none 0 0] 24) = wd at *
  rw [s2, s1, s0] at x4
  rw [s0] at e1
  rw [s1, s0] at e2
  have hd : wd.heap.size = w.heap.size + 1 + 1 + 1 + 1 := by omega
  rw [← hd] at h
  have bb : Below w.heap.size w wd := ((b0.trans (b1.mono (by omega))).trans (b2.mono (by omega))).trans (b3.mono (by omega))
  exact ⟨bb.trans (h.mono (by omega)), x3.all h, ⟨cell_keep e1 h, cell_keep e2 h⟩, x4.all h⟩

set_option maxRecDepth 20000 in
set_option maxHeartbeats 4000000 in
theorem mpart_of (r c : Int) (ao : Option Addr) (n cap : Nat) (i k a b : Int) (x y : Nat) (S : List Nat) (w : World) (hn : n ≤ 35184372088830) (h : okB r c n = true) (L1 : ∀ w', Calls Tryz.prog 58 #[.int .i64 i, .int .i64 a, .int .i64 r] w' fun x w'' => x = .returned (.bool true) ∧ w' = w'') (L2 : ∀ w', Calls Tryz.prog 58 #[.int .i64 k, .int .i64 b, .int .i64 c] w' fun x w'' => x = .returned (.bool true) ∧ w' = w'')
    (C : ∀ w1, Below w.heap.size w w1 → BoxM w1 w.heap.size (.int .i64 r) (.int .i64 c) (.slice ao n cap) → w1.cell? ⟨w.heap.size + 1, 0, none⟩ = some (.int .i64 i) → w1.cell? ⟨w.heap.size + 1 + 1, 0, none⟩ = some (.int .i64 k) → Calls Tryz.prog 59 #[.int .i64 a, .int .i64 b, .func (.func 60) #[] #[.pointer (some ⟨w.heap.size, 0, none⟩), .pointer (some ⟨w.heap.size + 1, 0, none⟩), .pointer (some ⟨w.heap.size + 1 + 1, 0, none⟩)]] w1 fun e w'' => ∃ v, e = .returned v ∧ NewM w1.heap.size w'' x y S v ∧ Below w1.heap.size w1 w'') :
    Calls Tryz.prog 31 #[.agg #[.int .i64 r, .int .i64 c, .slice ao n cap], .int .i64 i, .int .i64 k, .int .i64 a, .int .i64 b] w fun e w' => ∃ v, e = .returned (.tuple #[v, .int .i64 0]) ∧ NewM w.heap.size w' x y S v ∧ Below w.heap.size w w' := by
  have M1 := hide L1; have M2 := hide L2
  clear L1 L2
  have K := hide (right1_any r c ao n cap ((((w.alloc (.cells #[.int .i64 r, .int .i64 c, .slice ao n cap] 24)).alloc (.cells #[.int .i64 i] 3)).alloc (.cells #[.int .i64 k] 3)).alloc (.cells #[.int .i64 0, .int .i64 0, .slice none 0 0] 24)) hn)
  rw [h] at K
  simp only [size_alloc9] at K
  have KB := hide (boxesP w (.int .i64 r) (.int .i64 c) (.slice ao n cap) (.int .i64 i) (.int .i64 k))
  have KT := hide (fun w1 (hB : Below w.heap.size w w1) (hA : BoxM w1 w.heap.size (.int .i64 r) (.int .i64 c) (.slice ao n cap)) (ci : w1.cell? ⟨w.heap.size + 1, 0, none⟩ = some (.int .i64 i)) (ck : w1.cell? ⟨w.heap.size + 1 + 1, 0, none⟩ = some (.int .i64 k)) (hX : BoxM w1 (w.heap.size + 1 + 1 + 1) (.int .i64 0) (.int .i64 0) (.slice none 0 0)) => (C w1 hB hA ci ck).mono (R' := fun e w'' => ∃ v, e = .returned v ∧ NewM w.heap.size w'' x y S v ∧ Below w.heap.size w w'' ∧ BoxM w'' (w.heap.size + 1 + 1 + 1) (.int .i64 0) (.int .i64 0) (.slice none 0 0)) (by
    rintro e w'' ⟨v, rfl, h1, h2⟩
    exact ⟨v, rfl, h1.least hB.size, hB.trans (h2.mono hB.size), hX.all h2⟩))
  clear h C
  go_enter Tryz.func31, Tryz.ntmps31
  go_wp2_with fail
  refine Calls.mono (unhide K) ?_
  rintro e w1 ⟨rfl, hb1⟩
  obtain ⟨hB, hA, ⟨ci, ck⟩, hX⟩ := unhide KB w1 hb1
  have p0 := hA.c0; have p1 := hA.c1; have p2 := hA.c2
  have KC := hide (unhide KT w1 hB hA ci ck hX)
  clear K KB KT hb1 hA hX hB
  go_wp2_with fail
  refine (unhide M1 _).mono ?_
  rintro e w9 ⟨rfl, rfl⟩
  clear M1
  go_wp2_with fail
  refine (unhide M2 _).mono ?_
  rintro e w9 ⟨rfl, rfl⟩
  clear M2
  go_wp2_with fail
  refine Calls.mono (unhide KC) ?_
  clear KC
  rintro e w2 ⟨v, rfl, ⟨ro, rd, rfl, n1, q1⟩, hb2, hX⟩
  have f0 := hX.free 0; have f1 := hX.free 1; have f2 := hX.free 2
  have XP := hX.put (.int .i64 x) (.int .i64 y) (.slice ro S.length rd)
  have z0 := XP.c0; have z1 := XP.c1; have z2 := XP.c2
  have s0 := hX.c0; have s1 := hX.c1; have s2 := hX.c2
  have Q := hide (q1.putM hX (.int .i64 x) (.int .i64 y) (.slice ro S.length rd))
  have BP := hide (below_putM hb2 (b := w.heap.size + 1 + 1 + 1) (by omega) (.int .i64 x) (.int .i64 y) (.slice ro S.length rd))
  clear XP q1 hb2 hX
  go_wp2
  exact bodyPost_ret (v := .tuple #[.agg #[.int .i64 x, .int .i64 y, .slice ro S.length rd], .int .i64 0]) (by simp [results, Tryz.results31, go_sem, z0, z1, z2]) rfl ⟨_, rfl, ⟨ro, rd, rfl, n1, unhide Q⟩, unhide BP⟩

set_option maxRecDepth 20000 in
set_option maxHeartbeats 4000000 in
theorem meye_of (r : Int) (x y : Nat) (S : List Nat) (w : World) (h : rgB r r = true)
    (C : ∀ w1, Below w.heap.size w w1 → Calls Tryz.prog 59 #[.int .i64 r, .int .i64 r, .func (.func 77) #[] #[]] w1 fun e w'' => ∃ v, e = .returned v ∧ NewM w1.heap.size w'' x y S v ∧ Below w1.heap.size w1 w'') :
    Calls Tryz.prog 45 #[.int .i64 r] w fun e w' => ∃ v, e = .returned (.tuple #[v, .int .i64 0]) ∧ NewM w.heap.size w' x y S v ∧ Below w.heap.size w w' := by
  have K := hide (fun w' => inRange_any r r w')
  rw [h] at K
  have KT := hide ((C _ (below_alloc9 w (.cells #[.int .i64 0, .int .i64 0, .slice none 0 0] 24))).mono (R' := fun e w'' => ∃ v, e = .returned v ∧ NewM w.heap.size w'' x y S v ∧ Below w.heap.size w w'' ∧ BoxM w'' w.heap.size (.int .i64 0) (.int .i64 0) (.slice none 0 0)) (by
    rintro e w'' ⟨v, rfl, h1, h2⟩
    have b := below_alloc9 w (.cells #[.int .i64 0, .int .i64 0, .slice none 0 0] 24)
    exact ⟨v, rfl, h1.least b.size, b.trans (h2.mono b.size), (BoxM.new w (.int .i64 0) (.int .i64 0) (.slice none 0 0)).all h2⟩))
  clear h C
  go_enter Tryz.func45, Tryz.ntmps45
  go_wp2_with fail
  refine (unhide K _).mono ?_
  rintro e w1 ⟨rfl, rfl⟩
  clear K
  go_wp2_with fail
  refine Calls.mono (unhide KT) ?_
  clear KT
  rintro e w2 ⟨v, rfl, ⟨ro, rd, rfl, n1, q1⟩, hb2, hX⟩
  have f0 := hX.free 0; have f1 := hX.free 1; have f2 := hX.free 2
  have XP := hX.put (.int .i64 x) (.int .i64 y) (.slice ro S.length rd)
  have z0 := XP.c0; have z1 := XP.c1; have z2 := XP.c2
  have s0 := hX.c0; have s1 := hX.c1; have s2 := hX.c2
  have Q := hide (q1.putM hX (.int .i64 x) (.int .i64 y) (.slice ro S.length rd))
  have BP := hide (below_putM hb2 (b := w.heap.size) (by omega) (.int .i64 x) (.int .i64 y) (.slice ro S.length rd))
  clear XP q1 hb2 hX
  go_wp2
  exact bodyPost_ret (v := .tuple #[.agg #[.int .i64 x, .int .i64 y, .slice ro S.length rd], .int .i64 0]) (by simp [results, Tryz.results45, go_sem, z0, z1, z2]) rfl ⟨_, rfl, ⟨ro, rd, rfl, n1, unhide Q⟩, unhide BP⟩

end Go.Proofs.YtfkndkaneffgdaaGreatDoor

/- Package matrix: what its functions answer. -/
namespace Go.Proofs.YtfkndkaneffgdaaGreatDoor
open Go.RowKit
set_option maxRecDepth 20000 in
theorem cfPart1 (args : Array Value) (w : World) : (callFunc 60 args).run Tryz.prog w = .ok (.enter 60 args) w := by
  simp only [callFunc, go_sem]
  rfl

set_option maxRecDepth 20000 in
theorem cfEye1 (args : Array Value) (w : World) : (callFunc 77 args).run Tryz.prog w = .ok (.enter 77 args) w := by
  simp only [callFunc, go_sem]
  rfl

theorem mPart_ok (r c cap i k a b : Nat) (ao : Option Addr) (S : List Nat) (w : World) (h : Mx w ao cap r c S) (hi : i + a ≤ r) (hk : k + b ≤ c) :
    Calls Tryz.prog 31 #[.agg #[.int .i64 r, .int .i64 c, .slice ao S.length cap], .int .i64 i, .int .i64 k, .int .i64 a, .int .i64 b] w fun e w' => ∃ v, e = .returned (.tuple #[v, .int .i64 0]) ∧ NewM w.heap.size w' a b (paM c S i k a b) v ∧ Below w.heap.size w w' := by
  have h6 := h.2.2.1
  have c6 := h.2.2.2
  refine mpart_of r c ao S.length cap i k a b a b (paM c S i k a b) w (by have := h.small; omega) (mx_ok h) (fun w' => ?_) (fun w' => ?_) ?_
  · have := lies_any i a r w' (by omega) (by omega)
    rwa [decide_eq_true (by omega)] at this
  · have := lies_any k b c w' (by omega) (by omega)
    rwa [decide_eq_true (by omega)] at this
  · intro w1 hB hA ci ck
    refine build_any 60 _ a b _ w1 cfPart1 (by omega) (by omega) (fun x y _ _ => h.el_lt _ _) ?_
    intro w' x y hb hx hy
    have hb' : Below w.heap.size w w' := hB.trans (hb.mono hB.size)
    refine part1_of r c S.length cap x y i k _ w.heap.size (w.heap.size + 1) (w.heap.size + 1 + 1) ao w' (by omega) (by omega) (hA.all hb) (cell_keep ci hb) (cell_keep ck hb) ?_
    rw [show (i : Int) + (x : Int) = ((i + x : Nat) : Int) by simp, show (k : Int) + (y : Int) = ((k + y : Nat) : Int) by simp]
    exact mat_any r c cap (i + x) (k + y) ao S w' (h.below hb') (by omega) (by omega)

theorem mEye_ok (n : Nat) (w : World) (hn : n ≤ 6) :
    Calls Tryz.prog 45 #[.int .i64 n] w fun e w' => ∃ v, e = .returned (.tuple #[v, .int .i64 0]) ∧ NewM w.heap.size w' n n (eyM n) v ∧ Below w.heap.size w w' :=
  meye_of n n n _ w (decide_eq_true (by omega)) (fun w1 _ => build_any 77 #[] n n _ w1 cfEye1 hn hn (fun i k _ _ => by split <;> decide) (fun w' i k _ _ _ => eye1_any i k w'))

end Go.Proofs.YtfkndkaneffgdaaGreatDoor

