/- Part 19 of the texts. -/
import Derived.Test.YtheepcdlakjdcabDoorPart18
import Derived.Test.YtheepcdlakjdcabDoorPart15
import Derived.Test.YtheepcdlakjdcabDoorPart16
import Derived.Test.YtheepcdlakjdcabDoorPart04
import Derived.Test.YtheepcdlakjdcabDoorPart09
import Derived.BigQuiet
import Derived.Test.YtheepcdlakjdcabDoorPart10
import Derived.Test.YtheepcdlakjdcabDoorPart17
import Derived.Deep.RegionHeld3
import Derived.Test.YtheepcdlakjdcabDoorPart14
import Derived.Laws.BitsLemmas
import Derived.Laws.Cover2
import Derived.Laws.Externs
import Derived.Laws.FloatArith
import Derived.Test.YtheepcdlakjdcabDoorPart01
import Derived.Deep.OwnRows
import Derived.Test.YtheepcdlakjdcabDoorPart13
import Derived.Test.YtheepcdlakjdcabDoorPart12
import Derived.OwnWalk
import Derived.Deep.AppendLies
/- Package vector: operations without flags; the reference's with Go's own float64. -/
namespace Go.Proofs.YtheepcdlakjdcabDoor
open Go.RowKit

set_option maxRecDepth 20000 in
set_option maxHeartbeats 2000000 in
theorem vadd_any (a b : Nat) (w : World) (ha : a < 18446744073709551616) (hb : b < 18446744073709551616) (hT : Tab w) :
    Calls Tryd.prog 37 #[.int .u64 a, .int .u64 b] w fun r w' => r = .returned (.int .u64 (aV a b : Nat)) ∧ Below w.heap.size w w' := by
  have K := hide (sadd_any a b w ha hb hT)
  clear ha hb hT
  generalize aV a b = o at *
  generalize aF a b = f at *
  go_enter Tryd.func37, Tryd.ntmps37
  go_wp2_with fail
  refine Calls.mono (unhide K) ?_
  rintro e w1 ⟨rfl, hb1⟩
  clear K
  go_wp2
  go_ret
  exact ⟨rfl, hb1⟩

set_option maxRecDepth 20000 in
set_option maxHeartbeats 2000000 in
theorem vmul_any (a b : Nat) (w : World) (ha : a < 18446744073709551616) (hb : b < 18446744073709551616) (hT : Tab w) :
    Calls Tryd.prog 38 #[.int .u64 a, .int .u64 b] w fun r w' => r = .returned (.int .u64 (mV a b : Nat)) ∧ Below w.heap.size w w' := by
  have K := hide (tmul_any a b w ha hb hT)
  clear ha hb hT
  generalize mV a b = o at *
  generalize mF a b = f at *
  go_enter Tryd.func38, Tryd.ntmps38
  go_wp2_with fail
  refine Calls.mono (unhide K) ?_
  rintro e w1 ⟨rfl, hb1⟩
  clear K
  go_wp2
  go_ret
  exact ⟨rfl, hb1⟩

set_option maxRecDepth 20000 in
set_option maxHeartbeats 2000000 in
theorem vfit_any (ao bo : Option Addr) (n m c d : Nat) (w : World) :
    Calls Tryd.prog 33 #[.slice ao n c, .slice bo m d] w fun r w' => r = .returned (.bool (decide (n ≤ 64 ∧ n = m))) ∧ w = w' := by
  by_cases h1 : n ≤ 64
  · have h1I : (n : Int) ≤ 64 := by omega
    by_cases h2 : n = m
    · rw [decide_eq_true (And.intro h1 h2)]
      subst h2
      go_enter Tryd.func33, Tryd.ntmps33
      go_wp2
      go_ret
      exact ⟨rfl, rfl⟩
    · rw [decide_eq_false (fun h => h2 h.2)]
      have h2I : decide ((n : Int) = (m : Int)) = false := decide_eq_false (by omega)
      go_enter Tryd.func33, Tryd.ntmps33
      go_wp2
      go_ret
      exact ⟨by simp; omega, rfl⟩
  · rw [decide_eq_false (fun h => h1 h.1)]
    have h1I : (64 : Int) < (n : Int) := by omega
    go_enter Tryd.func33, Tryd.ntmps33
    go_wp2
    go_ret
    exact ⟨by simp, rfl⟩

end Go.Proofs.YtheepcdlakjdcabDoor

/- Package vector: gather and each, of any function value. -/
namespace Go.Proofs.YtheepcdlakjdcabDoor
open Go.RowKit

set_option maxRecDepth 20000 in
set_option maxHeartbeats 4000000 in
theorem gatherB_any (fn : Nat) (caps : Array Value) (n : Nat) (f : Nat → Nat) (w : World)
    (hcf : ∀ args w, (callFunc fn args).run Tryd.prog w = .ok (.enter fn args) w) (hn : n ≤ 35184372088830)
    (hstep : ∀ w' k, Below w.heap.size w w' → k < n → Calls Tryd.prog fn (#[.int .u64 (f k : Nat), .int .i64 (k : Nat)] ++ caps) w' fun e w'' => e = .returned (.int .u64 (f (k + 1) : Nat)) ∧ Below w'.heap.size w' w'') :
    Calls Tryd.prog 35 #[.int .i64 n, .int .u64 (f 0 : Nat), .func (.func fn) #[] caps] w fun e w' => e = .returned (.int .u64 (f n : Nat)) ∧ Below w.heap.size w w' := by
  have HS := hide hstep
  clear hstep
  go_enter Tryd.func35, Tryd.ntmps35
  go_wp2_with fail
  go_loopw [7, 11] (fun t i wr => ∃ k : Nat, k ≤ n ∧ i = .int .i64 k ∧ t = .int .u64 (f k : Nat) ∧ Hid (Below w.heap.size w wr)) (fun _ i _ => n - (intOf i).toNat)
  case atStart => exact ⟨0, Nat.zero_le _, rfl, rfl, Below.refl _ _⟩
  case round =>
    obtain ⟨k, hk, rfl, rfl, hB⟩ := hrel
    by_cases hlt : k < n
    · have hkI : (k : Int) < (n : Int) := by omega
      have C := hide (fun w' h => unhide HS w' k h hlt)
      obtain ⟨o, eo⟩ : ∃ o, f (k + 1) = o := ⟨_, rfl⟩
      rw [eo] at C
      have eV := hide eo
      clear eo
      go_wp2_with fail
      refine (unhide C _ hB.out).mono ?_
      rintro e w2 ⟨rfl, hb2⟩
      have B2 : Hid (Below w.heap.size w w2) := hB.out.trans (hb2.mono hB.out.size)
      clear hb2 C
      go_wp2_with fail
      go_round
      case rel => exact ⟨k + 1, by omega, by go_num, by rw [unhide eV], B2⟩
      case measure => simp [intOf]; omega
    · have hkk : k = n := by omega
      subst hkk
      go_wp2_with fail
      exact bodyPost_ret (v := .int .u64 (f k : Nat)) (by simp [results, Tryd.results35, go_sem]) rfl ⟨rfl, hB.out⟩

/-- A row of bits in a block of its own. -/
def bitV (x : Nat) : Value := .int .u64 (x : Int)
def RowB (w : World) (g : Nat) (S : List Nat) : Prop := w.heap[g]? = some (.cells (S.map bitV).toArray 35 (0, 0))

theorem RowB.cell {w : World} {g : Nat} {S : List Nat} (h : RowB w g S) (j : Nat) (hj : j < S.length) : w.cell? ⟨g, j, none⟩ = some (.int .u64 ((S[j]?.getD 0 : Nat) : Int)) := by
  rw [cell_of_row w g j _ _ _ h]
  simp [bitV, hj]
theorem RowB.free {w : World} {g : Nat} {S : List Nat} (h : RowB w g S) (j : Nat) : w.frozen? ⟨g, j, none⟩ = false := frozen_of_row w g j _ _ h
theorem RowB.set {w : World} {g : Nat} {S : List Nat} (h : RowB w g S) (j x : Nat) : RowB (w.setCell ⟨g, j, none⟩ (.int .u64 (x : Int))) g (S.set j x) := by
  unfold RowB
  rw [heap_setCell_same w g j _ _ _ h]
  simp [bitV, List.map_set]
theorem RowB.lt {w : World} {g : Nat} {S : List Nat} (h : RowB w g S) : g < w.heap.size := (Array.getElem?_eq_some_iff.1 h).1
theorem RowB.below {w w' : World} {g : Nat} {S : List Nat} (h : RowB w g S) {B : Nat} (hb : Below B w w') (hg : g < B) : RowB w' g S := by
  unfold RowB; rw [hb.block g hg]; exact h
theorem RowB.made (w : World) (n : Nat) : RowB (w.alloc (.cells (madeCells #[.int .u64 0] n) 35)) w.heap.size (List.replicate n 0) := by
  unfold RowB
  rw [heap_alloc_new w _]
  have : madeCells #[Value.int .u64 0] n = ((List.replicate n 0).map bitV).toArray := by
    apply Array.toList_inj.1
    refine List.ext_getElem (by simp [madeCells]) fun i h1 h2 => ?_
    simp [madeCells, bitV, Nat.mod_one]
  rw [this]

end Go.Proofs.YtheepcdlakjdcabDoor

/- Package vector: the functions that gather and each are handed, by letters. -/
namespace Go.Proofs.YtheepcdlakjdcabDoor
open Go.RowKit
attribute [local go_sem ↓] Go.wp_at_zero Go.wp_at_succ

theorem cell_keep {w w' : World} {p : Addr} {v : Value} (h : w.cell? p = some v) (hb : Below w.heap.size w w') : w'.cell? p = some v := by
  rw [hb.cell (World.block_lt_of_cell? w _ h)]; exact h

set_option maxRecDepth 20000 in
set_option maxHeartbeats 4000000 in
theorem dot1_of (s x y p o k n m c d bx by' : Nat) (b1 o1 b2 o2 : Nat) (w : World) (hk : k < n) (hm : k < m)
    (h1 : w.cell? ⟨bx, 0, none⟩ = some (.slice (some ⟨b1, o1, none⟩) n c)) (h2 : w.cell? ⟨by', 0, none⟩ = some (.slice (some ⟨b2, o2, none⟩) m d))
    (h3 : w.cell? ⟨b1, o1 + k, none⟩ = some (.int .u64 (x : Nat))) (h4 : w.cell? ⟨b2, o2 + k, none⟩ = some (.int .u64 (y : Nat)))
    (C1 : ∀ w', Below w.heap.size w w' → Calls Tryd.prog 38 #[.int .u64 x, .int .u64 y] w' fun r w'' => r = .returned (.int .u64 (p : Nat)) ∧ Below w'.heap.size w' w'')
    (C2 : ∀ w', Below w.heap.size w w' → Calls Tryd.prog 37 #[.int .u64 s, .int .u64 p] w' fun r w'' => r = .returned (.int .u64 (o : Nat)) ∧ Below w'.heap.size w' w'') :
    Calls Tryd.prog 36 #[.int .u64 s, .int .i64 k, .pointer (some ⟨bx, 0, none⟩), .pointer (some ⟨by', 0, none⟩)] w fun e w' => e = .returned (.int .u64 (o : Nat)) ∧ Below w.heap.size w w' := by
  have K1 := hide C1; have K2 := hide C2
  have hkI : (k : Int) < (n : Int) := by omega
  have hkJ : (k : Int) < (m : Int) := by omega
  have HK := hide (fun w' (h : Below w.heap.size w w') => (show Below w.heap.size w w' ∧ w'.cell? ⟨bx, 0, none⟩ = some (.slice (some ⟨b1, o1, none⟩) n c) ∧ w'.cell? ⟨by', 0, none⟩ = some (.slice (some ⟨b2, o2, none⟩) m d) ∧ w'.cell? ⟨b1, o1 + k, none⟩ = some (.int .u64 (x : Nat)) ∧ w'.cell? ⟨b2, o2 + k, none⟩ = some (.int .u64 (y : Nat)) from
    ⟨h, cell_keep h1 h, cell_keep h2 h, cell_keep h3 h, cell_keep h4 h⟩))
  clear C1 C2 h1 h2 h3 h4
  go_enter Tryd.func36, Tryd.ntmps36
  go_wp2_with fail
  go_region_held3 (fun w' => Below w.heap.size w w' ∧ w'.cell? ⟨bx, 0, none⟩ = some (.slice (some ⟨b1, o1, none⟩) n c) ∧ w'.cell? ⟨by', 0, none⟩ = some (.slice (some ⟨b2, o2, none⟩) m d) ∧ w'.cell? ⟨b1, o1 + k, none⟩ = some (.int .u64 (x : Nat)) ∧ w'.cell? ⟨b2, o2 + k, none⟩ = some (.int .u64 (y : Nat)))
    (first | exact unhide HK _ (Below.refl _ _).drew | exact unhide HK _ (by assumption) | fail "KK")
    (first | (go_at_call 38; refine (unhide K1 _ (And.left (by assumption))).mono ?_; rintro e w1 ⟨rfl, hb1⟩; have hB1 : Below w.heap.size w w1 := Below.trans (And.left (by assumption)) (hb1.mono (Below.size (And.left (by assumption)))); clear hb1) | (go_at_call 37; refine (unhide K2 _ (And.left (by assumption))).mono ?_; rintro e w2 ⟨rfl, hb2⟩; have hB2 : Below w.heap.size w w2 := Below.trans (And.left (by assumption)) (hb2.mono (Below.size (And.left (by assumption)))); clear hb2) | fail "NO ARM")
  go_wp2
  go_ret
  exact ⟨rfl, And.left (by assumption)⟩

end Go.Proofs.YtheepcdlakjdcabDoor

/- Contracts of vector's dot, Dot, Axpy, Times, Biggest, Finite. -/
namespace Go.Proofs.YtheepcdlakjdcabDoor
open Go.RowKit
attribute [local go_sem ↓] Go.wp_at_zero Go.wp_at_succ

theorem new_cell (w : World) (x : Value) (t : TypeId) : (w.alloc (.cells #[x] t)).cell? ⟨w.heap.size, 0, none⟩ = some x := by
  rw [cell_of_row _ _ 0 _ _ _ (heap_alloc_new w _)]; rfl
theorem size_alloc9 (w : World) (o : Obj) : (w.alloc o).heap.size = w.heap.size + 1 := by simp
theorem below_alloc9 (w : World) (o : Obj) : Below w.heap.size w (w.alloc o) := (Below.refl _ _).alloc (Nat.le_refl _) o
theorem BitsAt.lt {w : World} {ao : Option Addr} {cap : Nat} {I : List Int} (h : BitsAt w ao cap I) (j : Nat) : atB I j < 18446744073709551616 := (h.wf j).2

/-- A sum of products, in order; the greatest number; are all finite: of the first k places. -/
def dtK (I J : List Int) : Nat → Nat
  | 0 => 0
  | k + 1 => aV (dtK I J k) (mV (atB I k) (atB J k))
theorem dtK_lt (I J : List Int) (k : Nat) : dtK I J k < 18446744073709551616 := by
  induction k with
  | zero => show 0 < 18446744073709551616; omega
  | succ k ih => exact aV_lt _ _ ih (mV_lt _ _)
set_option maxRecDepth 20000 in
set_option maxHeartbeats 4000000 in
theorem dot_of (ao bo : Option Addr) (n m c d r : Nat) (w : World)
    (C : Calls Tryd.prog 35 #[.int .i64 n, .int .u64 0, .func (.func 36) #[] #[.pointer (some ⟨w.heap.size, 0, none⟩), .pointer (some ⟨w.heap.size + 1, 0, none⟩)]] ((w.alloc (.cells #[.slice ao n c] 22)).alloc (.cells #[.slice bo m d] 22)) fun e w'' => e = .returned (.int .u64 (r : Nat)) ∧ Below w.heap.size w w'') :
    Calls Tryd.prog 34 #[.slice ao n c, .slice bo m d] w fun e w' => e = .returned (.int .u64 (r : Nat)) ∧ Below w.heap.size w w' := by
  have K := hide C
  clear C
  go_enter Tryd.func34, Tryd.ntmps34
  go_wp2_with fail
  refine Calls.mono (unhide K) ?_
  rintro e w1 ⟨rfl, hb1⟩
  clear K
  go_wp2
  go_ret
  exact ⟨rfl, hb1⟩

set_option maxRecDepth 20000 in
theorem cfDot1 (args : Array Value) (w : World) : (callFunc 36 args).run Tryd.prog w = .ok (.enter 36 args) w := by
  simp only [callFunc, go_sem]
  rfl

theorem dot_any (ao bo : Option Addr) (c d : Nat) (I J : List Int) (w : World) (hI : BitsAt w ao c I) (hJ : BitsAt w bo d J) (hl : I.length = J.length) (hn : I.length ≤ 35184372088830) (hT : Tab w) :
    Calls Tryd.prog 34 #[.slice ao I.length c, .slice bo J.length d] w fun e w' => e = .returned (.int .u64 (dtK I J I.length : Nat)) ∧ Below w.heap.size w w' := by
  refine dot_of _ _ _ _ _ _ _ w ?_
  have b1 := below_alloc9 w (.cells #[.slice ao I.length c] 22)
  have x1 := new_cell w (.slice ao I.length c) 22
  have s1 := size_alloc9 w (.cells #[.slice ao I.length c] 22)
  generalize w.alloc (.cells #[.slice ao I.length c] 22) = w1 at *
  have b2 := below_alloc9 w1 (.cells #[.slice bo J.length d] 22)
  have x2 := new_cell w1 (.slice bo J.length d) 22
  have y1 := cell_keep x1 b2
  generalize w1.alloc (.cells #[.slice bo J.length d] 22) = w2 at *
  have bb : Below w.heap.size w w2 := b1.trans (b2.mono b1.size)
  rw [s1] at x2
  refine Calls.mono (gatherB_any 36 #[.pointer (some ⟨w.heap.size, 0, none⟩), .pointer (some ⟨w.heap.size + 1, 0, none⟩)] I.length (dtK I J) w2 cfDot1 hn ?_) ?_
  · intro w' k hb hk
    have hb' : Below w.heap.size w w' := bb.trans (hb.mono bb.size)
    obtain ⟨g1, o1, e1, _, z1⟩ := (hI.below hb').ne (by omega)
    obtain ⟨g2, o2, e2, _, z2⟩ := (hJ.below hb').ne (by omega)
    have u1 := cell_keep y1 hb
    have u2 := cell_keep x2 hb
    rw [e1] at u1
    rw [e2] at u2
    have T' := hT.all hb'
    exact dot1_of (dtK I J k) (atB I k) (atB J k) (mV (atB I k) (atB J k)) (dtK I J (k + 1)) k I.length J.length c d w.heap.size (w.heap.size + 1) g1 o1 g2 o2 w' hk (by omega) u1 u2 (z1 k hk) (z2 k (by omega))
      (fun w'' h => vmul_any _ _ w'' (hI.lt k) (hJ.lt k) (T'.all h)) (fun w'' h => vadd_any _ _ w'' (dtK_lt I J k) (mV_lt _ _) (T'.all h))
  · rintro e w' ⟨rfl, hb⟩
    exact ⟨rfl, bb.trans (hb.mono bb.size)⟩

set_option maxRecDepth 20000 in
set_option maxHeartbeats 4000000 in
theorem dotF_ok (ao bo : Option Addr) (n m c d r : Nat) (w : World)
    (F : ∀ w', Calls Tryd.prog 33 #[.slice ao n c, .slice bo m d] w' fun e w'' => e = .returned (.bool true) ∧ w' = w'')
    (C : Calls Tryd.prog 34 #[.slice ao n c, .slice bo m d] w fun e w'' => e = .returned (.int .u64 (r : Nat)) ∧ Below w.heap.size w w'') :
    Calls Tryd.prog 25 #[.slice ao n c, .slice bo m d] w fun e w' => e = .returned (.tuple #[.int .u64 (r : Nat), .int .i64 0]) ∧ Below w.heap.size w w' := by
  have K := hide C; have L := hide F
  clear C F
  go_enter Tryd.func25, Tryd.ntmps25
  go_wp2_with fail
  refine (unhide L _).mono ?_
  rintro e w1 ⟨rfl, rfl⟩
  go_wp2_with fail
  refine Calls.mono (unhide K) ?_
  rintro e w1 ⟨rfl, hb1⟩
  clear K L
  go_wp2
  exact bodyPost_ret (v := .tuple #[.int .u64 (r : Nat), .int .i64 0]) (by simp [results, Tryd.results25, go_sem]) rfl ⟨rfl, hb1⟩

set_option maxRecDepth 20000 in
set_option maxHeartbeats 4000000 in
theorem dotF_no (ao bo : Option Addr) (n m c d : Nat) (w : World)
    (F : ∀ w', Calls Tryd.prog 33 #[.slice ao n c, .slice bo m d] w' fun e w'' => e = .returned (.bool false) ∧ w' = w'') :
    Calls Tryd.prog 25 #[.slice ao n c, .slice bo m d] w fun e w' => e = .returned (.tuple #[.int .u64 0, .int .i64 3]) ∧ Below w.heap.size w w' := by
  have L := hide F
  clear F
  go_enter Tryd.func25, Tryd.ntmps25
  go_wp2_with fail
  refine (unhide L _).mono ?_
  rintro e w1 ⟨rfl, rfl⟩
  clear L
  go_wp2
  exact bodyPost_ret (v := .tuple #[.int .u64 0, .int .i64 3]) (by simp [results, Tryd.results25, go_sem]) rfl ⟨rfl, Below.refl _ _⟩

/-- Do two lists go together? -/
def goB (I J : List Int) : Bool := decide (I.length ≤ 64 ∧ I.length = J.length)

theorem vDot_any (ao bo : Option Addr) (c d : Nat) (I J : List Int) (w : World) (hI : BitsAt w ao c I) (hJ : BitsAt w bo d J) (hT : Tab w) :
    Calls Tryd.prog 25 #[.slice ao I.length c, .slice bo J.length d] w fun e w' => e = .returned (.tuple #[.int .u64 (if goB I J = true then dtK I J I.length else 0 : Nat), .int .i64 (if goB I J = true then 0 else 3)]) ∧ Below w.heap.size w w' := by
  have F := fun w' => vfit_any ao bo I.length J.length c d w'
  cases h : goB I J
  · unfold goB at h
    rw [h] at F
    exact dotF_no ao bo _ _ c d w F
  · unfold goB at h
    rw [h] at F
    have h' := of_decide_eq_true h
    exact dotF_ok ao bo _ _ c d _ w F (dot_any ao bo c d I J w hI hJ h'.2 (by omega) hT)

theorem RowB.bits {w : World} {g : Nat} {S : List Nat} (h : RowB w g S) (hf : ∀ x ∈ S, x < 18446744073709551616) : BitsAt w (some ⟨g, 0, none⟩) S.length (S.map (fun x : Nat => (x : Int))) := by
  refine ⟨by simp, ?_, .inr ⟨g, 0, rfl, h.lt, fun i hi => ?_⟩⟩
  · intro x hx
    obtain ⟨y, hy, rfl⟩ := List.mem_map.1 hx
    have := hf y hy
    omega
  · have hi' : i < S.length := by simpa using hi
    rw [Nat.zero_add, h.cell i hi']
    simp [hi']
end Go.Proofs.YtheepcdlakjdcabDoor

/- Lists of bits that a call itself makes; the reference's Times and Axpy. -/
namespace Go.Proofs.YtheepcdlakjdcabDoor
open Go.RowKit
attribute [local go_sem ↓] Go.wp_at_zero Go.wp_at_succ

theorem infoBits : (Tryd.prog.info? 35).map (fun i => (i.zero, i.size, i.bytes)) = some (some (.int .u64 0), 1, 8) := by kernel_rfl

/-- v is a list S of the call's own. -/
def OwnB (base : Nat) (w : World) (v : Value) (S : List Nat) : Prop := w.ownsRow base 35 1 v S.length (S.map bitV) ∧ ∀ x ∈ S, x < 18446744073709551616
theorem OwnB.below {base : Nat} {w w' : World} {v : Value} {S : List Nat} (h : OwnB base w v S) (hb : Below w.heap.size w w') : OwnB base w' v S :=
  ⟨h.1.kept (row := none) ⟨hb.os, hb.tape, hb.output, hb.size, fun k hk _ => hb.block k hk⟩ (by cases hv : v.ownBlock <;> simp), h.2⟩
theorem OwnB.bits {base : Nat} {w : World} {v : Value} {S : List Nat} (h : OwnB base w v S) : ∃ ao cap, v = .slice ao S.length cap ∧ BitsAt w ao cap (S.map (fun x : Nat => (x : Int))) := by
  have hl : (S.map bitV).length = S.length := by simp
  have hf : ∀ x ∈ S.map (fun x : Nat => (x : Int)), 0 ≤ x ∧ x ≤ 18446744073709551615 := by
    intro x hx
    obtain ⟨y, hy, rfl⟩ := List.mem_map.1 hx
    have := h.2 y hy
    omega
  rcases h.1.2 with ⟨hv, h0⟩ | ⟨g, cap, cur, hv, hg, hh, hc, hm, hs, ht⟩
  · have : S = [] := List.length_eq_zero_iff.1 (by omega)
    subst this
    exact ⟨none, 0, hv, ⟨by simp, by simp, .inl rfl⟩⟩
  · refine ⟨some ⟨g, 0, none⟩, cap, hv, ⟨by simp; omega, hf, .inr ⟨g, 0, rfl, (Array.getElem?_eq_some_iff.1 hh).1, fun i hi => ?_⟩⟩⟩
    have hi' : i < S.length := by simpa using hi
    have q : (S.map bitV)[i]? = some (.int .u64 ((S[i] : Nat) : Int)) := by
      rw [List.getElem?_map, List.getElem?_eq_getElem hi']; rfl
    rw [← ht, List.getElem?_take, if_pos (by omega)] at q
    rw [cell_of_row w g _ _ _ _ hh, Nat.zero_add]
    have e : (S.map (fun x : Nat => (x : Int)))[i]?.getD 0 = ((S[i] : Nat) : Int) := by simp [hi']
    rw [e]
    simpa using q
theorem OwnB.nil (w : World) (base : Nat) (h : base ≤ w.heap.size) : OwnB base (w.alloc (.cells #[] 35)) (.slice (some ⟨w.heap.size, 0, none⟩) 0 0) [] :=
  ⟨World.ownsRow_made w #[] 0 h (by simp [maxLen]) (by simp), by simp⟩
theorem OwnB.snoc {base : Nat} {w : World} {v : Value} {S : List Nat} {x n : Nat} (hn : n = S.length) (h : w.ownsRow base 35 1 v (n + 1) (S.map bitV ++ [.int .u64 (x : Int)])) (hS : ∀ x ∈ S, x < 18446744073709551616) (hx : x < 18446744073709551616) : OwnB base w v (S ++ [x]) := by
  subst hn
  refine ⟨by simpa [bitV] using h, fun y hy => ?_⟩
  rcases List.mem_append.1 hy with h1 | h1
  · exact hS y h1
  · simp at h1; subst h1; exact hx

/-- The first k places of what f makes. -/
def fsL (f : Nat → Nat) (k : Nat) : List Nat := (List.range k).map f
theorem fsL_len (f : Nat → Nat) (k : Nat) : (fsL f k).length = k := by simp [fsL]
theorem fsL_succ (f : Nat → Nat) (k : Nat) : fsL f (k + 1) = fsL f k ++ [f k] := by simp [fsL, List.range_succ]
end Go.Proofs.YtheepcdlakjdcabDoor

