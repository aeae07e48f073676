/- Part 38 of the texts. -/
import Derived.Test.YtimejpbmehegeaaGreatDoorParte35
import Derived.Test.YtimejpbmehegeaaGreatDoorParte33
import Derived.Deep.CutRange
import Derived.Test.YtimejpbmehegeaaGreatDoorParte08
import Derived.Test.YtimejpbmehegeaaGreatDoorParte37
import Derived.Test.YtimejpbmehegeaaGreatDoorParte29
import Derived.Deep.RegionHeld3
import Derived.Test.YtimejpbmehegeaaGreatDoorParte30
import Derived.Test.YtimejpbmehegeaaGreatDoorParte31
import Derived.Test.YtimejpbmehegeaaGreatDoorParte32
import Derived.Test.YtimejpbmehegeaaGreatDoorParte34
import Derived.Deep.RegionLaw
import Derived.Test.YtimejpbmehegeaaGreatDoorParte16
import Derived.Test.YtimejpbmehegeaaGreatDoorParte18
import Derived.Test.YtimejpbmehegeaaGreatDoorParte19
import Derived.Deep.Cut
import Derived.BigQuiet
import Derived.Test.YtimejpbmehegeaaGreatDoorParte09
import Derived.Lib.BitFns
import Derived.Test.YtimejpbmehegeaaGreatDoorParte07
import Derived.Test.YtimejpbmehegeaaGreatDoorParte10
import Derived.Maps.Own
import Derived.Maps.OwnOps
import Derived.Maps.OwnSet
import Derived.DeepKeys4
import Derived.Test.YtimejpbmehegeaaGreatDoorParte11
import Derived.WalkSmall
import Derived.Test.YtimejpbmehegeaaGreatDoorParte01
import Derived.OwnWalk
import Derived.Test.YtimejpbmehegeaaGreatDoorParte36
import Derived.Deep.RegionWith
/- The reference of layer 11: Orthogonal by letters. -/
namespace Go.Proofs.YtimejpbmehegeaaGreatDoor
open Go.RowKit
attribute [local go_sem ↓] Go.wp_at_zero Go.wp_at_succ
theorem Box3.ex {w : World} {b : Nat} {x y z : Value} (h : Box3 w b x y z) : ∃ g, g = b ∧ Box3 w g x y z := ⟨b, rfl, h⟩
end Go.Proofs.YtimejpbmehegeaaGreatDoor

/- The reference of layer 11: Check, Square, Tame. The law's told, one, awake. -/
namespace Go.Proofs.YtimejpbmehegeaaGreatDoor
open Go.RowKit
attribute [local go_sem ↓] Go.wp_at_zero Go.wp_at_succ
set_option maxRecDepth 20000 in
set_option maxHeartbeats 4000000 in
theorem r11check_any (r c : Int) (ao : Option Addr) (cap : Nat) (I : List Int) (w : World) (hI : BitsAt w ao cap I) (hn : I.length ≤ 35184372088830) :
    Calls Tryz.prog 32 #[.agg #[.int .i64 r, .int .i64 c, .slice ao I.length cap]] w fun e w' => e = .returned (.int .i64 (ckE r c I)) ∧ Below w.heap.size w w' := by
  have K1 := hide (fun w' => rright_any r c ao I.length cap w')
  have K2 := hide (fun w' (h : BitsAt w' ao cap I) => r9finite_any ao cap I w' h hn)
  have BB := hide (below_alloc9 w (.cells #[.int .i64 r, .int .i64 c, .slice ao I.length cap] 36))
  have X0 := hide (BoxM.new w (.int .i64 r) (.int .i64 c) (.slice ao I.length cap))
  have HI := hide hI
  unfold ckE
  generalize okB r c I.length = b at *
  generalize fnK I I.length = f at *
  generalize I.length = n at *
  clear hI
  cases b
  · clear K2
    go_enter Tryz.func32, Tryz.ntmps32
    go_wp2_with fail
    refine (unhide K1 _).mono ?_
    rintro e w1 ⟨rfl, hb1⟩
    have PB := hide ((unhide BB).trans (hb1.mono (unhide BB).size))
    clear hb1 K1 X0
    go_wp2
    go_ret
    exact ⟨rfl, unhide PB⟩
  · cases f
    all_goals
      go_enter Tryz.func32, Tryz.ntmps32
      go_wp2_with fail
      refine (unhide K1 _).mono ?_
      rintro e w1 ⟨rfl, hb1⟩
      replace BB := hide ((unhide BB).trans (hb1.mono (unhide BB).size)); replace X0 := hide ((unhide X0).all hb1)
      clear hb1 K1
      have y2 := (unhide X0).c2
      go_wp2_with fail
      refine (unhide K2 _ ((unhide HI).below (unhide BB))).mono ?_
      rintro e w2 ⟨rfl, hb1⟩
      replace BB := hide ((unhide BB).trans (hb1.mono (unhide BB).size))
      clear hb1 K2 y2
      go_wp2
      go_ret
      exact ⟨rfl, unhide BB⟩

set_option maxRecDepth 20000 in
set_option maxHeartbeats 4000000 in
theorem r11tame_any (r c : Int) (ao : Option Addr) (cap : Nat) (I : List Int) (K : Int) (w : World) (hI : BitsAt w ao cap I) (hn : I.length ≤ 35184372088830) (hK : -5000 ≤ K ∧ K ≤ 5000) :
    Calls Tryz.prog 38 #[.agg #[.int .i64 r, .int .i64 c, .slice ao I.length cap], .int .i64 K] w fun e w' => e = .returned (.bool (okB r c I.length && tmK K I I.length)) ∧ Below w.heap.size w w' := by
  have K1 := hide (fun w' => rright_any r c ao I.length cap w')
  have K2 := hide (fun w' (h : BitsAt w' ao cap I) => r9tame_any ao cap I K w' h hn hK)
  have BB := hide (below_alloc9 w (.cells #[.int .i64 r, .int .i64 c, .slice ao I.length cap] 36))
  have X0 := hide (BoxM.new w (.int .i64 r) (.int .i64 c) (.slice ao I.length cap))
  have HI := hide hI
  generalize okB r c I.length = b at *
  generalize tmK K I I.length = f at *
  generalize I.length = n at *
  clear hI hK
  cases b
  · clear K2
    go_enter Tryz.func38, Tryz.ntmps38
    go_wp2_with fail
    refine (unhide K1 _).mono ?_
    rintro e w1 ⟨rfl, hb1⟩
    have PB := hide ((unhide BB).trans (hb1.mono (unhide BB).size))
    clear hb1 K1 X0
    go_wp2
    go_ret
    exact ⟨rfl, unhide PB⟩
  · go_enter Tryz.func38, Tryz.ntmps38
    go_wp2_with fail
    refine (unhide K1 _).mono ?_
    rintro e w1 ⟨rfl, hb1⟩
    replace BB := hide ((unhide BB).trans (hb1.mono (unhide BB).size)); replace X0 := hide ((unhide X0).all hb1)
    clear hb1 K1
    have y2 := (unhide X0).c2
    go_wp2_with fail
    refine (unhide K2 _ ((unhide HI).below (unhide BB))).mono ?_
    rintro e w2 ⟨rfl, hb1⟩
    replace BB := hide ((unhide BB).trans (hb1.mono (unhide BB).size))
    clear hb1 K2 y2
    go_wp2
    go_ret
    exact ⟨rfl, unhide BB⟩

set_option maxRecDepth 20000 in
set_option maxHeartbeats 4000000 in
theorem r11square_of (r c : Int) (ao : Option Addr) (n cap : Nat) (lo z : Int) (w : World)
    (C : ∀ w', Below w.heap.size w w' → Calls Tryz.prog 25 #[.slice ao n cap] w' fun e w'' => ∃ v, e = .returned v ∧ IsLv w'' v lo z ∧ Below w'.heap.size w' w'') :
    Calls Tryz.prog 39 #[.agg #[.int .i64 r, .int .i64 c, .slice ao n cap]] w fun e w' => ∃ v, e = .returned v ∧ IsLv w' v lo z ∧ Below w.heap.size w w' := by
  obtain ⟨x0, x1, bb⟩ := boxes1D w r c ao n cap
  have X0 := hide x0; have X1 := hide x1; have BB := hide bb; have K := hide C
  clear x0 x1 bb C
  have y2 := (unhide X0).c2
  go_enter Tryz.func39, Tryz.ntmps39
  go_wp2_with fail
  refine (unhide K _ (unhide BB)).mono ?_
  rintro e w2 ⟨v, rfl, ⟨n5, a5, c5, L5, rfl, i5⟩, hb1⟩
  have Q5 : IsLv w2 (.agg #[.bool n5, .slice a5 L5.length c5, .int .i64 (oE z lo)]) lo z := ⟨n5, a5, c5, L5, rfl, i5⟩
  generalize L5.length = l5 at *
  generalize oE z lo = X5 at *
  have xe := (unhide X1).all hb1
  have r0 := xe.c0; have r1 := xe.c1; have r2 := xe.c2; have f0 := xe.free 0; have f1 := xe.free 1; have f2 := xe.free 2
  have xp := xe.put (.bool n5) (.slice a5 l5 c5) (.int .i64 X5)
  have z0 := xp.c0; have z1 := xp.c1; have z2 := xp.c2
  have HV := hide (IsDy.put3 Q5 xe (.bool n5) (.slice a5 l5 c5) (.int .i64 X5))
  have HB := hide (below_put3 ((unhide BB).trans (hb1.mono (unhide BB).size)) (show w.heap.size ≤ w.heap.size + 1 by omega) (.bool n5) (.slice a5 l5 c5) (.int .i64 X5))
  clear i5 Q5 xe xp hb1 BB X0 X1 K y2
  go_wp2
  exact bodyPost_ret (v := .agg #[.bool n5, .slice a5 l5 c5, .int .i64 X5]) (by simp [results, Tryz.results39, go_sem, z0, z1, z2]) rfl ⟨_, rfl, unhide HV, unhide HB⟩

theorem sqK_sm (S : List Nat) : ∀ k, sqK (mxL S) k = smI (fun p => fZ (S.getD p 0) * fZ (S.getD p 0)) k
  | 0 => rfl
  | k + 1 => by
    show sqK (mxL S) k + fZ (atB (mxL S) k) * fZ (atB (mxL S) k) = smI _ k + _
    rw [sqK_sm S k, mxL_at]
theorem fnK_all {I : List Int} : ∀ n, fnK I n = true ↔ ∀ k, k < n → fFin (atB I k) = true
  | 0 => ⟨fun _ k hk => by omega, fun _ => rfl⟩
  | n + 1 => by
    show (fnK I n && fFin (atB I n)) = true ↔ _
    rw [Bool.and_eq_true, fnK_all n]
    constructor
    · rintro ⟨h1, h2⟩ k hk
      by_cases e : k = n
      · subst e; exact h2
      · exact h1 k (by omega)
    · exact fun h => ⟨fun k hk => h k (by omega), h n (by omega)⟩
theorem fin_all {S : List Nat} (h : fnK (mxL S) S.length = true) : ∀ x ∈ S, fFin x = true := fun x hx => by
  obtain ⟨i, hi, rfl⟩ := List.getElem_of_mem hx
  have := (fnK_all _).1 h i hi
  rw [mxL_at] at this
  rwa [List.getD_eq_getElem?_getD, List.getElem?_eq_getElem hi] at this
theorem all_fin {S : List Nat} (h : ∀ x ∈ S, fFin x = true) : fnK (mxL S) S.length = true := (fnK_all _).2 fun k hk => by
  rw [mxL_at, List.getD_eq_getElem?_getD, List.getElem?_eq_getElem hk]
  exact h _ (List.getElem_mem hk)

/-- Of a matrix that may be asked. -/
theorem r11square_any (r c cap : Nat) (ao : Option Addr) (S : List Nat) (w : World) (h : Mx w ao cap r c S) (hf : ∀ x ∈ S, fFin x = true) :
    Calls Tryz.prog 39 #[.agg #[.int .i64 r, .int .i64 c, .slice ao S.length cap]] w fun e w' => ∃ v, e = .returned v ∧ IsLv w' v (-2148) (sqZ S) ∧ Below w.heap.size w w' := by
  refine r11square_of r c ao S.length cap (-2148) (sqZ S) w (fun w' hb => ?_)
  have := r9squares_any ao cap (mxL S) w' (h.1.below hb) (by rw [mxL_len]; have := h.small; omega) (by rw [mxL_len]; exact all_fin hf)
  rw [mxL_len, sqK_sm] at this
  exact this

end Go.Proofs.YtimejpbmehegeaaGreatDoor

/- The law GivensOne, walked by what givens.Turn answers. -/
namespace Go.Proofs.YtimejpbmehegeaaGreatDoor
open Go.RowKit
attribute [local go_sem ↓] Go.wp_at_zero Go.wp_at_succ

/-- Two numbers laid in a row. -/
theorem two_bits (w : World) (a b : Nat) (ha : a < 18446744073709551616) (hb : b < 18446744073709551616) : BitsAt (w.alloc (.cells #[.int .u64 (a : Nat), .int .u64 (b : Nat)] 24)) (some ⟨w.heap.size, 0, none⟩) 2 [(a : Int), (b : Int)] := by
  have h : RowB (w.alloc (.cells #[.int .u64 (a : Nat), .int .u64 (b : Nat)] 24)) w.heap.size [a, b] := heap_alloc_new w _
  exact h.bits (fun x hx => by simp at hx; rcases hx with rfl | rfl; exact ha; exact hb)

end Go.Proofs.YtimejpbmehegeaaGreatDoor

/- The mirror of 3 and 4; the law's awake. -/
namespace Go.Proofs.YtimejpbmehegeaaGreatDoor
open Go.RowKit
attribute [local go_sem ↓] Go.wp_at_zero Go.wp_at_succ

theorem w13_facts : bgF 0 [4613937818241073152, 4616189618054758400] = 4616189618054758400 ∧ fFin 4616189618054758400 = true ∧ eX 4616189618054758400 = 2 ∧ ssV 2 0 [4613937818241073152, 4616189618054758400] = 4609715693590413312 ∧ xV 4608308318706860032 2 = 4617315517961601024 ∧ ldS [4613937818241073152, 4616189618054758400] = false ∧ fN 4617315517961601024 = 13840687554816376832 ∧ fN 13840687554816376832 = 4617315517961601024 ∧ aV 4613937818241073152 4617315517961601024 = 4620693217682128896 ∧ ngt [4616189618054758400] = false ∧ fFin 13840687554816376832 = true ∧ fFin 4620693217682128896 = true ∧ fFin 4613937818241073152 = true := by decide +kernel
theorem w13_quo : dV 4616189618054758400 4620693217682128896 = 4602678819172646912 := by decide +kernel

theorem nr_345 : nrV [4613937818241073152, 4616189618054758400] = 4617315517961601024 := by
  obtain ⟨h1, h2, h3, h4, h5, _⟩ := w13_facts
  unfold nrV
  rw [h1, if_neg (by rw [h2]; decide), h3, h4, w9_root, h5]
theorem hm_345 : hmB 4613937818241073152 [4616189618054758400] = 13840687554816376832 ∧ hmD 4613937818241073152 [4616189618054758400] = 4620693217682128896 := by
  obtain ⟨_, _, _, _, _, h6, h7, h8, h9, _⟩ := w13_facts
  have e : hmB 4613937818241073152 [4616189618054758400] = 13840687554816376832 := by
    unfold hmB
    rw [h6, if_neg (by decide), nr_345, h7]
  refine ⟨e, ?_⟩
  unfold hmD
  rw [e, h8, h9]
theorem mr_345 : mrB [4613937818241073152, 4616189618054758400] = 13840687554816376832 ∧ mrV [4613937818241073152, 4616189618054758400] = [4607182418800017408, 4602678819172646912] ∧ mrK [4613937818241073152, 4616189618054758400] = true := by
  obtain ⟨_, _, _, _, _, _, _, _, _, h10, h11, h12, _⟩ := w13_facts
  obtain ⟨e1, e2⟩ := hm_345
  refine ⟨?_, ?_, ?_⟩
  · show (if ngt [4616189618054758400] = true then 4613937818241073152 else hmB 4613937818241073152 [4616189618054758400]) = _
    rw [if_neg (by rw [h10]; decide), e1]
  · show 4607182418800017408 :: [if ngt [4616189618054758400] = true then 0 else dV 4616189618054758400 (hmD 4613937818241073152 [4616189618054758400])] = _
    rw [if_neg (by rw [h10]; decide), e2, w13_quo]
  · show (ngt [4616189618054758400] || (fFin (hmB 4613937818241073152 [4616189618054758400]) && fFin (hmD 4613937818241073152 [4616189618054758400]))) = true
    rw [e1, e2, h11, h12, Bool.and_self, Bool.or_true]

set_option maxRecDepth 20000 in
set_option maxHeartbeats 4000000 in
theorem awake13_of (t : Nat) (w : World)
    (C1 : ∀ w' ao, Below w.heap.size w w' → BitsAt w' ao 2 [((4613937818241073152 : Nat) : Int), ((4616189618054758400 : Nat) : Int)] → Calls Tryz.prog 8 #[.slice ao 2 2] w' fun e w'' => ∃ vo vc, e = .returned (.tuple #[.slice vo 2 vc, .int .u64 (t : Nat), .int .u64 13840687554816376832, .int .i64 0]) ∧ BitsAt w'' vo vc (mxL [4607182418800017408, 4602678819172646912]) ∧ Below w'.heap.size w' w'') :
    Calls Tryz.prog 12 #[] w fun e w' => e = .returned (.bool true) ∧ Below w.heap.size w w' := by
  have K1 := hide C1
  have TB := hide (two_bits w 4613937818241073152 4616189618054758400 (by decide) (by decide))
  have BB := hide (below_alloc9 w (.cells #[.int .u64 ((4613937818241073152 : Nat) : Int), .int .u64 ((4616189618054758400 : Nat) : Int)] 24))
  clear C1
  go_enter Tryz.func12, Tryz.ntmps12
  go_wp2_with fail
  refine (unhide K1 _ _ (unhide BB) (unhide TB)).mono ?_
  rintro e w1 ⟨vo, vc, rfl, bv, hb⟩
  obtain ⟨b, off, rfl, _, hc⟩ := bv.ne (by decide)
  have c1 : w1.cell? ⟨b, off + 1, none⟩ = some (.int .u64 4602678819172646912) := hc 1 (by decide)
  replace BB := hide ((unhide BB).trans (hb.mono (unhide BB).size))
  clear hb K1 TB bv hc
  go_wp2
  go_ret
  exact ⟨rfl, unhide BB⟩

end Go.Proofs.YtimejpbmehegeaaGreatDoor

/- Contracts of the reference's zero, pivot. -/
namespace Go.Proofs.YtimejpbmehegeaaGreatDoor
open Go.RowKit
attribute [local go_sem ↓] Go.wp_at_zero Go.wp_at_succ

/-- Is the number 0? -/
def nilAt (N : List Rw) (i c : Nat) : Prop := (nmAt (rwAt N i).R c).L.length = 0

end Go.Proofs.YtimejpbmehegeaaGreatDoor

