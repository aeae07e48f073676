/- Part 32 of the texts. -/
import Derived.Test.YtimejpbmehegeaaGreatDoorParta08
import Derived.Test.YtimejpbmehegeaaGreatDoorParta29
import Derived.Test.YtimejpbmehegeaaGreatDoorParta30
import Derived.Deep.RegionLaw
import Derived.Test.YtimejpbmehegeaaGreatDoorParta16
import Derived.Test.YtimejpbmehegeaaGreatDoorParta17
import Derived.Test.YtimejpbmehegeaaGreatDoorParta18
import Derived.Deep.Cut
import Derived.BigQuiet
import Derived.Test.YtimejpbmehegeaaGreatDoorParta27
import Derived.Deep.CutRange
import Derived.Test.YtimejpbmehegeaaGreatDoorParta31
import Derived.Test.YtimejpbmehegeaaGreatDoorParta28
import Derived.Test.YtimejpbmehegeaaGreatDoorParta05
import Derived.Maps.AppendAt
import Derived.Test.YtimejpbmehegeaaGreatDoorParta09
import Derived.Lib.BitFns
import Derived.Test.YtimejpbmehegeaaGreatDoorParta07
import Derived.Test.YtimejpbmehegeaaGreatDoorParta10
import Derived.Test.YtimejpbmehegeaaGreatDoorParta01
import Derived.Maps.Own
import Derived.Maps.OwnOps
import Derived.Maps.OwnSet
import Derived.DeepKeys4
import Derived.WalkSmall
import Derived.OwnWalk
import Derived.Test.YtimejpbmehegeaaGreatDoorParta02
import Derived.Deep.RegionWith
import Derived.Deep.RegionHeld3
import Derived.Deep.AppendLies
/- The reference of layer 11: Check, Square, Tame. The law's told, one, awake. -/
namespace Go.Proofs.YtimejpbmehegeaaGreatDoor
open Go.RowKit
attribute [local go_sem ↓] Go.wp_at_zero Go.wp_at_succ
theorem fnK_all {I : List Int} : ∀ n, fnK I n = true ↔ ∀ k, k < n → fFin (atB I k) = true
  | 0 => ⟨fun _ k hk => by omega, fun _ => rfl⟩
  | n + 1 => by
    show (fnK I n && fFin (atB I n)) = true ↔ _
    rw [Bool.and_eq_true, fnK_all n]
    constructor
    · rintro ⟨h1, h2⟩ k hk
      by_cases e : k = n
      · subst e; exact h2
      · exact h1 k (by omega)
    · exact fun h => ⟨fun k hk => h k (by omega), h n (by omega)⟩
end Go.Proofs.YtimejpbmehegeaaGreatDoor

/- The law GivensOne, walked by what givens.Turn answers. -/
namespace Go.Proofs.YtimejpbmehegeaaGreatDoor
open Go.RowKit
attribute [local go_sem ↓] Go.wp_at_zero Go.wp_at_succ

/-- Two numbers laid in a row. -/
theorem two_bits (w : World) (a b : Nat) (ha : a < 18446744073709551616) (hb : b < 18446744073709551616) : BitsAt (w.alloc (.cells #[.int .u64 (a : Nat), .int .u64 (b : Nat)] 24)) (some ⟨w.heap.size, 0, none⟩) 2 [(a : Int), (b : Int)] := by
  have h : RowB (w.alloc (.cells #[.int .u64 (a : Nat), .int .u64 (b : Nat)] 24)) w.heap.size [a, b] := heap_alloc_new w _
  exact h.bits (fun x hx => by simp at hx; rcases hx with rfl | rfl; exact ha; exact hb)

end Go.Proofs.YtimejpbmehegeaaGreatDoor

/- The mirror of 3 and 4; the law's awake. -/
namespace Go.Proofs.YtimejpbmehegeaaGreatDoor
open Go.RowKit
attribute [local go_sem ↓] Go.wp_at_zero Go.wp_at_succ

theorem w13_facts : bgF 0 [4613937818241073152, 4616189618054758400] = 4616189618054758400 ∧ fFin 4616189618054758400 = true ∧ eX 4616189618054758400 = 2 ∧ ssV 2 0 [4613937818241073152, 4616189618054758400] = 4609715693590413312 ∧ xV 4608308318706860032 2 = 4617315517961601024 ∧ ldS [4613937818241073152, 4616189618054758400] = false ∧ fN 4617315517961601024 = 13840687554816376832 ∧ fN 13840687554816376832 = 4617315517961601024 ∧ aV 4613937818241073152 4617315517961601024 = 4620693217682128896 ∧ ngt [4616189618054758400] = false ∧ fFin 13840687554816376832 = true ∧ fFin 4620693217682128896 = true ∧ fFin 4613937818241073152 = true := by decide +kernel
theorem w13_quo : dV 4616189618054758400 4620693217682128896 = 4602678819172646912 := by decide +kernel

theorem nr_345 : nrV [4613937818241073152, 4616189618054758400] = 4617315517961601024 := by
  obtain ⟨h1, h2, h3, h4, h5, _⟩ := w13_facts
  unfold nrV
  rw [h1, if_neg (by rw [h2]; decide), h3, h4, w9_root, h5]
theorem hm_345 : hmB 4613937818241073152 [4616189618054758400] = 13840687554816376832 ∧ hmD 4613937818241073152 [4616189618054758400] = 4620693217682128896 := by
  obtain ⟨_, _, _, _, _, h6, h7, h8, h9, _⟩ := w13_facts
  have e : hmB 4613937818241073152 [4616189618054758400] = 13840687554816376832 := by
    unfold hmB
    rw [h6, if_neg (by decide), nr_345, h7]
  refine ⟨e, ?_⟩
  unfold hmD
  rw [e, h8, h9]
theorem mr_345 : mrB [4613937818241073152, 4616189618054758400] = 13840687554816376832 ∧ mrV [4613937818241073152, 4616189618054758400] = [4607182418800017408, 4602678819172646912] ∧ mrK [4613937818241073152, 4616189618054758400] = true := by
  obtain ⟨_, _, _, _, _, _, _, _, _, h10, h11, h12, _⟩ := w13_facts
  obtain ⟨e1, e2⟩ := hm_345
  refine ⟨?_, ?_, ?_⟩
  · show (if ngt [4616189618054758400] = true then 4613937818241073152 else hmB 4613937818241073152 [4616189618054758400]) = _
    rw [if_neg (by rw [h10]; decide), e1]
  · show 4607182418800017408 :: [if ngt [4616189618054758400] = true then 0 else dV 4616189618054758400 (hmD 4613937818241073152 [4616189618054758400])] = _
    rw [if_neg (by rw [h10]; decide), e2, w13_quo]
  · show (ngt [4616189618054758400] || (fFin (hmB 4613937818241073152 [4616189618054758400]) && fFin (hmD 4613937818241073152 [4616189618054758400]))) = true
    rw [e1, e2, h11, h12, Bool.and_self, Bool.or_true]

set_option maxRecDepth 20000 in
set_option maxHeartbeats 4000000 in
theorem awake13_of (t : Nat) (w : World)
    (C1 : ∀ w' ao, Below w.heap.size w w' → BitsAt w' ao 2 [((4613937818241073152 : Nat) : Int), ((4616189618054758400 : Nat) : Int)] → Calls Tryz.prog 8 #[.slice ao 2 2] w' fun e w'' => ∃ vo vc, e = .returned (.tuple #[.slice vo 2 vc, .int .u64 (t : Nat), .int .u64 13840687554816376832, .int .i64 0]) ∧ BitsAt w'' vo vc (mxL [4607182418800017408, 4602678819172646912]) ∧ Below w'.heap.size w' w'') :
    Calls Tryz.prog 12 #[] w fun e w' => e = .returned (.bool true) ∧ Below w.heap.size w w' := by
  have K1 := hide C1
  have TB := hide (two_bits w 4613937818241073152 4616189618054758400 (by decide) (by decide))
  have BB := hide (below_alloc9 w (.cells #[.int .u64 ((4613937818241073152 : Nat) : Int), .int .u64 ((4616189618054758400 : Nat) : Int)] 24))
  clear C1
  go_enter Tryz.func12, Tryz.ntmps12
  go_wp2_with fail
  refine (unhide K1 _ _ (unhide BB) (unhide TB)).mono ?_
  rintro e w1 ⟨vo, vc, rfl, bv, hb⟩
  obtain ⟨b, off, rfl, _, hc⟩ := bv.ne (by decide)
  have c1 : w1.cell? ⟨b, off + 1, none⟩ = some (.int .u64 4602678819172646912) := hc 1 (by decide)
  replace BB := hide ((unhide BB).trans (hb.mono (unhide BB).size))
  clear hb K1 TB bv hc
  go_wp2
  go_ret
  exact ⟨rfl, unhide BB⟩

end Go.Proofs.YtimejpbmehegeaaGreatDoor

/- Contracts of the reference's zero, pivot. -/
namespace Go.Proofs.YtimejpbmehegeaaGreatDoor
open Go.RowKit
attribute [local go_sem ↓] Go.wp_at_zero Go.wp_at_succ

/-- Is the number 0? -/
def nilAt (N : List Rw) (i c : Nat) : Prop := (nmAt (rwAt N i).R c).L.length = 0

end Go.Proofs.YtimejpbmehegeaaGreatDoor

/- The reference of layer 13: Make. -/
namespace Go.Proofs.YtimejpbmehegeaaGreatDoor
open Go.RowKit
attribute [local go_sem ↓] Go.wp_at_zero Go.wp_at_succ

/-- What holds in the reference's Make: the list v is the call's own, the result's box is empty yet. -/
def HmSt (w wr : World) (v : Value) (S : List Nat) : Prop := OwnB (w.heap.size + 1) wr v S ∧ BoxT 29 wr w.heap.size (.slice none 0 0) (.int .u64 0) (.int .u64 0) ∧ Below w.heap.size w wr
theorem HmSt.all {w wr w' : World} {v : Value} {S : List Nat} (h : HmSt w wr v S) (hb : Below wr.heap.size wr w') : HmSt w w' v S := ⟨h.1.below hb, h.2.1.all hb, h.2.2.trans (hb.mono h.2.2.size)⟩
theorem HmSt.push {w wr : World} {v : Value} {S : List Nat} (h : HmSt w wr v S) (x : Nat) (hx : x < 18446744073709551616) (hl : S.length ≤ 1000000) (ty : TypeId) :
    ∃ v' w', (Builtin.append_ #[22, 22] ty #[v, .slice (some ⟨wr.heap.size, 0, none⟩) 1 1]).run Tryz.prog (wr.alloc (.cells #[.int .u64 (x : Int)] 24)) = .ok v' w' ∧ HmSt w w' v' (S ++ [x]) := by
  obtain ⟨h1, h2, h3⟩ := h
  obtain ⟨v', w', e1, e2, e3, _⟩ := h1.push x hx hl (by have := h2.lt; omega) ty
  exact ⟨v', w', e1, e2, h2.below e3 (by omega), h3.trans (e3.mono (by omega))⟩
theorem HmSt.start (w : World) : HmSt w ((w.alloc (.cells #[.slice none 0 0, .int .u64 0, .int .u64 0] 29)).alloc (.cells #[.int .u64 4607182418800017408] 24)) (.slice (some ⟨w.heap.size + 1, 0, none⟩) 1 1) [4607182418800017408] := by
  have b0 := below_alloc9 w (.cells #[.slice none 0 0, .int .u64 0, .int .u64 0] 29)
  have s0 := size_alloc9 w (.cells #[.slice none 0 0, .int .u64 0, .int .u64 0] 29)
  have x0 := BoxT.new 29 w (.slice none 0 0) (.int .u64 0) (.int .u64 0)
  generalize w.alloc (.cells #[.slice none 0 0, .int .u64 0, .int .u64 0] 29) = w0 at *
  have b1 := below_alloc9 w0 (.cells #[.int .u64 4607182418800017408] 24)
  have r1 : (w0.alloc (.cells #[.int .u64 4607182418800017408] 24)).heap[w0.heap.size]? = some (.cells #[.int .u64 4607182418800017408] 24 (0, 0)) := heap_alloc_new w0 _
  rw [s0] at r1
  refine ⟨⟨⟨rfl, .inr ⟨w.heap.size + 1, 1, #[.int .u64 4607182418800017408], rfl, Nat.le_refl _, r1, Nat.le_refl _, by unfold maxLen; omega, rfl, rfl⟩⟩, fun x hx => by simp at hx; subst hx; decide⟩, x0.all b1, b0.trans (b1.mono b0.size)⟩

/-- The list behind j steps. -/
def mkJ (g : Nat → Nat) (j : Nat) : List Nat := 4607182418800017408 :: fsL g (j - 1)
theorem mkJ_1 (g : Nat → Nat) : mkJ g 1 = [4607182418800017408] := rfl
theorem mkJ_len (g : Nat → Nat) {j : Nat} (hj : 1 ≤ j) : (mkJ g j).length = j := by
  show (fsL g (j - 1)).length + 1 = j
  rw [fsL_len]
  omega
theorem mkJ_succ (g : Nat → Nat) {j : Nat} (hj : 1 ≤ j) : mkJ g (j + 1) = mkJ g j ++ [g (j - 1)] := by
  obtain ⟨i, rfl⟩ : ∃ i, j = i + 1 := ⟨j - 1, by omega⟩
  show 4607182418800017408 :: fsL g (i + 1) = (4607182418800017408 :: fsL g i) ++ [g i]
  rw [fsL_succ]
  rfl

set_option maxRecDepth 20000 in
set_option maxHeartbeats 4000000 in
theorem rmake13_noughts (ao : Option Addr) (n c a : Nat) (w : World) (hn1 : 1 ≤ n) (hn : n ≤ 64)
    (X0 : ∀ w', Below w.heap.size w w' → ∃ b off, ao = some ⟨b, off, none⟩ ∧ w'.cell? ⟨b, off, none⟩ = some (.int .u64 (a : Nat)))
    (C1 : ∀ w', Below w.heap.size w w' → Calls Tryz.prog 48 #[.slice ao n c] w' fun e w'' => e = .returned (.bool true) ∧ Below w'.heap.size w' w'') :
    Calls Tryz.prog 10 #[.slice ao n c] w fun e w' => ∃ vo vc, e = .returned (.tuple #[.agg #[.slice vo n vc, .int .u64 0, .int .u64 (a : Nat)], .bool true]) ∧ BitsAt w' vo vc (mxL (mkJ (fun _ => 0) n)) ∧ Below w.heap.size w w' := by
  have ST := hide (HmSt.start w)
  have K1 := hide C1; have KX := hide X0
  clear C1 X0
  have hnI : (1 : Int) ≤ (n : Int) := by omega
  go_enter Tryz.func10, Tryz.ntmps10
  go_wp2_with fail
  refine (unhide K1 _ (unhide ST).2.2).mono ?_
  rintro e w1 ⟨rfl, hb⟩
  replace ST := hide ((unhide ST).all hb)
  clear hb K1
  go_wp2_with fail
  go_loopw [4, 5] (fun v i wr => ∃ j : Nat, 1 ≤ j ∧ j ≤ n ∧ i = .int .i64 j ∧ Hid (HmSt w wr v (mkJ (fun _ => 0) j))) (fun _ i _ => n - (intOf i).toNat)
  case atStart => exact ⟨1, Nat.le_refl _, hn1, rfl, by rw [mkJ_1]; exact ST⟩
  case round =>
    clear ST
    obtain ⟨j, hj1, hj, rfl, hS⟩ := hrel
    by_cases hlt : j < n
    · have hjI : (j : Int) < (n : Int) := by omega
      obtain ⟨v3, w3, run3, st3⟩ := (unhide hS).push 0 (by decide) (by rw [mkJ_len _ hj1]; omega) 22
      have RUN := hide run3
      have S3 := hide (show HmSt w w3 v3 (mkJ (fun _ => 0) (j + 1)) from by rw [mkJ_succ _ hj1]; exact st3)
      clear run3 st3 hS
      go_wp2_with (at_builtin; refine wpList_append_ran _ rfl _ _ 22 rfl _ _ _ _ rfl rfl (unhide RUN) ?_; clear RUN)
      go_round
      case rel => exact ⟨j + 1, by omega, by omega, by go_num, S3⟩
      case measure => simp [intOf]; omega
    · have hjj : j = n := by omega
      subst hjj
      obtain ⟨b, off, rfl, ca⟩ := unhide KX _ (unhide hS).2.2
      obtain ⟨h1, h2, h3⟩ := unhide hS
      obtain ⟨vo, vc, e1, q1⟩ := h1.bits
      rw [mkJ_len _ hj1] at e1
      subst e1
      have r0 := h2.c0; have r1 := h2.c1; have r2 := h2.c2
      have f0 := h2.free 0; have f1 := h2.free 1; have f2 := h2.free 2
      have XP := h2.put (.slice vo j vc) (.int .u64 0) (.int .u64 (a : Nat))
      have z0 := XP.c0; have z1 := XP.c1; have z2 := XP.c2
      have Q := hide (((q1.far h1.newB (show w.heap.size < w.heap.size + 1 by omega) 0 (.slice vo j vc)).far h1.newB (show w.heap.size < w.heap.size + 1 by omega) 1 (.int .u64 0)).far h1.newB (show w.heap.size < w.heap.size + 1 by omega) 2 (.int .u64 (a : Nat)))
      have BP := hide (below_put3 h3 (Nat.le_refl _) (.slice vo j vc) (.int .u64 0) (.int .u64 (a : Nat)))
      clear hS h1 q1 XP h2 h3
      go_wp2_with fail
      exact bodyPost_ret (v := .tuple #[.agg #[.slice vo j vc, .int .u64 0, .int .u64 (a : Nat)], .bool true]) (by simp [results, Tryz.results10, go_sem, z0, z1, z2]) rfl ⟨vo, vc, rfl, unhide Q, unhide BP⟩

set_option maxRecDepth 20000 in
set_option maxHeartbeats 8000000 in
theorem rmake13_bad (ao : Option Addr) (n c b0 bm b d : Nat) (sg f1 f2 : Bool) (X : Nat → Nat) (w : World) (hn1 : 1 ≤ n) (hn : n ≤ 64) (hf : f1 = false ∨ (f1 = true ∧ f2 = false))
    (X0 : ∀ w', Below w.heap.size w w' → ∃ b off, ao = some ⟨b, off, none⟩ ∧ ∀ j, j < n → w'.cell? ⟨b, off + j, none⟩ = some (.int .u64 (X j : Nat)))
    (C1 : ∀ w', Below w.heap.size w w' → Calls Tryz.prog 48 #[.slice ao n c] w' fun e w'' => e = .returned (.bool false) ∧ Below w'.heap.size w' w'')
    (C2 : ∀ w', Below w.heap.size w w' → Calls Tryz.prog 30 #[.slice ao n c] w' fun e w'' => e = .returned (.int .u64 (b0 : Nat)) ∧ Below w'.heap.size w' w'')
    (C3 : ∀ w', Below w.heap.size w w' → Calls Tryz.prog 49 #[.slice ao n c] w' fun e w'' => ∃ p : Nat, e = .returned (.int .i64 (p : Nat)) ∧ p < n ∧ fS (X p) = sg ∧ Below w'.heap.size w' w'')
    (C4 : ∀ w' p, fS (X p) = sg → Calls Tryz.prog 21 #[.int .u64 (X p : Nat)] w' fun e w'' => e = .returned (.bool sg) ∧ w' = w'')
    (C5 : ∀ w', Calls Tryz.prog 22 #[.int .u64 b0] w' fun e w'' => e = .returned (.int .u64 (bm : Nat)) ∧ w' = w'')
    (hb : (sg = true ∧ b = b0) ∨ (sg = false ∧ b = bm))
    (C6 : ∀ w', Calls Tryz.prog 50 #[.int .u64 (X 0 : Nat), .int .u64 b] w' fun e w'' => e = .returned (.int .u64 (d : Nat)) ∧ Below w'.heap.size w' w'')
    (C7 : ∀ w', Calls Tryz.prog 20 #[.int .u64 b] w' fun e w'' => e = .returned (.bool f1) ∧ w' = w'')
    (C8 : ∀ w', Calls Tryz.prog 20 #[.int .u64 d] w' fun e w'' => e = .returned (.bool f2) ∧ w' = w'') :
    Calls Tryz.prog 10 #[.slice ao n c] w fun e w' => e = .returned (.tuple #[.agg #[.slice none 0 0, .int .u64 0, .int .u64 0], .bool false]) ∧ Below w.heap.size w w' := by
  have ST := hide (HmSt.start w)
  have KX := hide X0; have K1 := hide C1; have K2 := hide C2; have K3 := hide C3; have K4 := hide C4; have K5 := hide C5; have K6 := hide C6; have K7 := hide C7; have K8 := hide C8
  clear X0 C1 C2 C3 C4 C5 C6 C7 C8
  have hnI : (1 : Int) ≤ (n : Int) := by omega
  rcases hb with ⟨rfl, rfl⟩ | ⟨rfl, rfl⟩
  · go_enter Tryz.func10, Tryz.ntmps10
    go_wp2_with fail
    refine (unhide K1 _ (unhide ST).2.2).mono ?_
    rintro e w1 ⟨rfl, hb⟩
    replace ST := hide ((unhide ST).all hb)
    clear hb K1
    go_wp2_with fail
    refine (unhide K2 _ (unhide ST).2.2).mono ?_
    rintro e w2 ⟨rfl, hb⟩
    replace ST := hide ((unhide ST).all hb)
    clear hb K2
    go_wp2_with fail
    refine (unhide K3 _ (unhide ST).2.2).mono ?_
    rintro e w3 ⟨p, rfl, hp, hs, hb⟩
    replace ST := hide ((unhide ST).all hb)
    obtain ⟨bb, off, rfl, hcs⟩ := unhide KX _ (unhide ST).2.2
    have cp := hcs p hp
    have K4' := hide (fun w' => unhide K4 w' p hs)
    have hpI : (p : Int) < (n : Int) := by omega
    generalize X p = x at *
    clear hb K3 hcs hs K4
    go_wp2_with fail
    refine (unhide K4' _).mono ?_
    rintro e w4 ⟨rfl, rfl⟩
    clear K4' cp
    obtain ⟨bb', off', ee, hcs⟩ := unhide KX _ (unhide ST).2.2
    simp only [Option.some.injEq, Addr.mk.injEq] at ee
    obtain ⟨rfl, rfl, _⟩ := ee
    have c0 := hcs 0 (by omega)
    rw [Nat.add_zero] at c0
    clear hcs
    generalize hX0 : X 0 = a at *
    go_wp2_with fail
    refine (unhide K6 _).mono ?_
    rintro e w5 ⟨rfl, hb⟩
    replace ST := hide ((unhide ST).all hb)
    clear hb K6 c0
    go_wp2_with fail
    refine (unhide K7 _).mono ?_
    rintro e w6 ⟨rfl, rfl⟩
    rcases hf with rfl | ⟨rfl, rfl⟩
    · obtain ⟨h1, h2, h3⟩ := unhide ST
      have r0 := h2.c0; have r1 := h2.c1; have r2 := h2.c2
      have f0 := h2.free 0; have f1' := h2.free 1; have f2' := h2.free 2
      have XP := h2.put (.slice none 0 0) (.int .u64 0) (.int .u64 0)
      have z0 := XP.c0; have z1 := XP.c1; have z2 := XP.c2
      have BP := hide (below_put3 h3 (Nat.le_refl _) (.slice none 0 0) (.int .u64 0) (.int .u64 0))
      clear h1 h2 h3 XP ST
      go_wp2_with fail
      exact bodyPost_ret (v := .tuple #[.agg #[.slice none 0 0, .int .u64 0, .int .u64 0], .bool false]) (by simp [results, Tryz.results10, go_sem, z0, z1, z2]) rfl ⟨rfl, unhide BP⟩
    · go_wp2_with fail
      refine (unhide K8 _).mono ?_
      rintro e w6 ⟨rfl, rfl⟩
      obtain ⟨h1, h2, h3⟩ := unhide ST
      have r0 := h2.c0; have r1 := h2.c1; have r2 := h2.c2
      have f0 := h2.free 0; have f1' := h2.free 1; have f2' := h2.free 2
      have XP := h2.put (.slice none 0 0) (.int .u64 0) (.int .u64 0)
      have z0 := XP.c0; have z1 := XP.c1; have z2 := XP.c2
      have BP := hide (below_put3 h3 (Nat.le_refl _) (.slice none 0 0) (.int .u64 0) (.int .u64 0))
      clear h1 h2 h3 XP ST
      go_wp2_with fail
      exact bodyPost_ret (v := .tuple #[.agg #[.slice none 0 0, .int .u64 0, .int .u64 0], .bool false]) (by simp [results, Tryz.results10, go_sem, z0, z1, z2]) rfl ⟨rfl, unhide BP⟩
  · go_enter Tryz.func10, Tryz.ntmps10
    go_wp2_with fail
    refine (unhide K1 _ (unhide ST).2.2).mono ?_
    rintro e w1 ⟨rfl, hb⟩
    replace ST := hide ((unhide ST).all hb)
    clear hb K1
    go_wp2_with fail
    refine (unhide K2 _ (unhide ST).2.2).mono ?_
    rintro e w2 ⟨rfl, hb⟩
    replace ST := hide ((unhide ST).all hb)
    clear hb K2
    go_wp2_with fail
    refine (unhide K3 _ (unhide ST).2.2).mono ?_
    rintro e w3 ⟨p, rfl, hp, hs, hb⟩
    replace ST := hide ((unhide ST).all hb)
    obtain ⟨bb, off, rfl, hcs⟩ := unhide KX _ (unhide ST).2.2
    have cp := hcs p hp
    have K4' := hide (fun w' => unhide K4 w' p hs)
    have hpI : (p : Int) < (n : Int) := by omega
    generalize X p = x at *
    clear hb K3 hcs hs K4
    go_wp2_with fail
    refine (unhide K4' _).mono ?_
    rintro e w4 ⟨rfl, rfl⟩
    clear K4' cp
    go_wp2_with fail
    refine (unhide K5 _).mono ?_
    rintro e w4 ⟨rfl, rfl⟩
    obtain ⟨bb', off', ee, hcs⟩ := unhide KX _ (unhide ST).2.2
    simp only [Option.some.injEq, Addr.mk.injEq] at ee
    obtain ⟨rfl, rfl, _⟩ := ee
    have c0 := hcs 0 (by omega)
    rw [Nat.add_zero] at c0
    clear hcs
    generalize hX0 : X 0 = a at *
    go_wp2_with fail
    refine (unhide K6 _).mono ?_
    rintro e w5 ⟨rfl, hb⟩
    replace ST := hide ((unhide ST).all hb)
    clear hb K6 c0
    go_wp2_with fail
    refine (unhide K7 _).mono ?_
    rintro e w6 ⟨rfl, rfl⟩
    rcases hf with rfl | ⟨rfl, rfl⟩
    · obtain ⟨h1, h2, h3⟩ := unhide ST
      have r0 := h2.c0; have r1 := h2.c1; have r2 := h2.c2
      have f0 := h2.free 0; have f1' := h2.free 1; have f2' := h2.free 2
      have XP := h2.put (.slice none 0 0) (.int .u64 0) (.int .u64 0)
      have z0 := XP.c0; have z1 := XP.c1; have z2 := XP.c2
      have BP := hide (below_put3 h3 (Nat.le_refl _) (.slice none 0 0) (.int .u64 0) (.int .u64 0))
      clear h1 h2 h3 XP ST
      go_wp2_with fail
      exact bodyPost_ret (v := .tuple #[.agg #[.slice none 0 0, .int .u64 0, .int .u64 0], .bool false]) (by simp [results, Tryz.results10, go_sem, z0, z1, z2]) rfl ⟨rfl, unhide BP⟩
    · go_wp2_with fail
      refine (unhide K8 _).mono ?_
      rintro e w6 ⟨rfl, rfl⟩
      obtain ⟨h1, h2, h3⟩ := unhide ST
      have r0 := h2.c0; have r1 := h2.c1; have r2 := h2.c2
      have f0 := h2.free 0; have f1' := h2.free 1; have f2' := h2.free 2
      have XP := h2.put (.slice none 0 0) (.int .u64 0) (.int .u64 0)
      have z0 := XP.c0; have z1 := XP.c1; have z2 := XP.c2
      have BP := hide (below_put3 h3 (Nat.le_refl _) (.slice none 0 0) (.int .u64 0) (.int .u64 0))
      clear h1 h2 h3 XP ST
      go_wp2_with fail
      exact bodyPost_ret (v := .tuple #[.agg #[.slice none 0 0, .int .u64 0, .int .u64 0], .bool false]) (by simp [results, Tryz.results10, go_sem, z0, z1, z2]) rfl ⟨rfl, unhide BP⟩

set_option maxRecDepth 20000 in
set_option maxHeartbeats 8000000 in
theorem rmake13_ok (ao : Option Addr) (n c b0 bm b d e0 T : Nat) (sg f1 f2 : Bool) (X g : Nat → Nat) (w : World) (hn1 : 1 ≤ n) (hn : n ≤ 64) (hf1 : f1 = true) (hf2 : f2 = true) (hg : ∀ j, j + 1 < n → g j < 18446744073709551616)
    (X0 : ∀ w', Below w.heap.size w w' → ∃ b off, ao = some ⟨b, off, none⟩ ∧ ∀ j, j < n → w'.cell? ⟨b, off + j, none⟩ = some (.int .u64 (X j : Nat)))
    (C1 : ∀ w', Below w.heap.size w w' → Calls Tryz.prog 48 #[.slice ao n c] w' fun e w'' => e = .returned (.bool false) ∧ Below w'.heap.size w' w'')
    (C2 : ∀ w', Below w.heap.size w w' → Calls Tryz.prog 30 #[.slice ao n c] w' fun e w'' => e = .returned (.int .u64 (b0 : Nat)) ∧ Below w'.heap.size w' w'')
    (C3 : ∀ w', Below w.heap.size w w' → Calls Tryz.prog 49 #[.slice ao n c] w' fun e w'' => ∃ p : Nat, e = .returned (.int .i64 (p : Nat)) ∧ p < n ∧ fS (X p) = sg ∧ Below w'.heap.size w' w'')
    (C4 : ∀ w' p, fS (X p) = sg → Calls Tryz.prog 21 #[.int .u64 (X p : Nat)] w' fun e w'' => e = .returned (.bool sg) ∧ w' = w'')
    (C5 : ∀ w', Calls Tryz.prog 22 #[.int .u64 b0] w' fun e w'' => e = .returned (.int .u64 (bm : Nat)) ∧ w' = w'')
    (hb : (sg = true ∧ b = b0) ∨ (sg = false ∧ b = bm))
    (C6 : ∀ w', Calls Tryz.prog 50 #[.int .u64 (X 0 : Nat), .int .u64 b] w' fun e w'' => e = .returned (.int .u64 (d : Nat)) ∧ Below w'.heap.size w' w'')
    (C7 : ∀ w', Calls Tryz.prog 20 #[.int .u64 b] w' fun e w'' => e = .returned (.bool f1) ∧ w' = w'')
    (C8 : ∀ w', Calls Tryz.prog 20 #[.int .u64 d] w' fun e w'' => e = .returned (.bool f2) ∧ w' = w'')
    (C9 : ∀ j, 1 ≤ j → j < n → ∀ w', Calls Tryz.prog 51 #[.int .u64 (X j : Nat), .int .u64 d] w' fun e w'' => e = .returned (.int .u64 (g (j - 1) : Nat)) ∧ Below w'.heap.size w' w'')
    (CX : ∀ w', Calls Tryz.prog 50 #[.int .u64 b, .int .u64 (X 0 : Nat)] w' fun e w'' => e = .returned (.int .u64 (e0 : Nat)) ∧ Below w'.heap.size w' w'')
    (CY : ∀ w', Calls Tryz.prog 51 #[.int .u64 e0, .int .u64 b] w' fun e w'' => e = .returned (.int .u64 (T : Nat)) ∧ Below w'.heap.size w' w'') :
    Calls Tryz.prog 10 #[.slice ao n c] w fun e w' => ∃ vo vc, e = .returned (.tuple #[.agg #[.slice vo n vc, .int .u64 (T : Nat), .int .u64 (b : Nat)], .bool true]) ∧ BitsAt w' vo vc (mxL (mkJ g n)) ∧ Below w.heap.size w w' := by
  subst hf1 hf2
  have ST := hide (HmSt.start w)
  have KX := hide X0; have K1 := hide C1; have K2 := hide C2; have K3 := hide C3; have K4 := hide C4; have K5 := hide C5; have K6 := hide C6; have K7 := hide C7; have K8 := hide C8
  clear X0 C1 C2 C3 C4 C5 C6 C7 C8
  have hnI : (1 : Int) ≤ (n : Int) := by omega
  have K9 := hide C9; have KX2 := hide CX; have KY := hide CY; have HG := hide hg
  clear C9 CX CY hg
  rcases hb with ⟨rfl, rfl⟩ | ⟨rfl, rfl⟩
  · go_enter Tryz.func10, Tryz.ntmps10
    go_wp2_with fail
    refine (unhide K1 _ (unhide ST).2.2).mono ?_
    rintro e w1 ⟨rfl, hb⟩
    replace ST := hide ((unhide ST).all hb)
    clear hb K1
    go_wp2_with fail
    refine (unhide K2 _ (unhide ST).2.2).mono ?_
    rintro e w2 ⟨rfl, hb⟩
    replace ST := hide ((unhide ST).all hb)
    clear hb K2
    go_wp2_with fail
    refine (unhide K3 _ (unhide ST).2.2).mono ?_
    rintro e w3 ⟨p, rfl, hp, hs, hb⟩
    replace ST := hide ((unhide ST).all hb)
    obtain ⟨bb, off, rfl, hcs⟩ := unhide KX _ (unhide ST).2.2
    have cp := hcs p hp
    have K4' := hide (fun w' => unhide K4 w' p hs)
    have hpI : (p : Int) < (n : Int) := by omega
    generalize X p = x at *
    clear hb K3 hcs hs K4
    go_wp2_with fail
    refine (unhide K4' _).mono ?_
    rintro e w4 ⟨rfl, rfl⟩
    clear K4' cp
    obtain ⟨bb', off', ee, hcs⟩ := unhide KX _ (unhide ST).2.2
    simp only [Option.some.injEq, Addr.mk.injEq] at ee
    obtain ⟨rfl, rfl, _⟩ := ee
    have c0 := hcs 0 (by omega)
    rw [Nat.add_zero] at c0
    clear hcs
    generalize hX0 : X 0 = a at *
    go_wp2_with fail
    refine (unhide K6 _).mono ?_
    rintro e w5 ⟨rfl, hb⟩
    replace ST := hide ((unhide ST).all hb)
    clear hb K6 c0
    go_wp2_with fail
    refine (unhide K7 _).mono ?_
    rintro e w6 ⟨rfl, rfl⟩
    go_wp2_with fail
    refine (unhide K8 _).mono ?_
    rintro e w6 ⟨rfl, rfl⟩
    go_wp2_with fail
    go_loopw [4, 8] (fun v i wr => ∃ j : Nat, 1 ≤ j ∧ j ≤ n ∧ i = .int .i64 j ∧ Hid (HmSt w wr v (mkJ g j))) (fun _ i _ => n - (intOf i).toNat)
    case atStart => exact ⟨1, Nat.le_refl _, hn1, rfl, by rw [mkJ_1]; exact ST⟩
    case round =>
      clear ST
      obtain ⟨j, hj1, hj, rfl, hS⟩ := hrel
      obtain ⟨bb', off', ee, hcs⟩ := unhide KX _ (unhide hS).2.2
      simp only [Option.some.injEq, Addr.mk.injEq] at ee
      obtain ⟨rfl, rfl, _⟩ := ee
      by_cases hlt : j < n
      · have hjI : (j : Int) < (n : Int) := by omega
        have cj := hcs j hlt
        have KD := hide (unhide K9 j hj1 hlt)
        have GL := hide (unhide HG (j - 1) (by omega))
        have GS := hide (mkJ_succ g hj1)
        generalize g (j - 1) = o at *
        generalize X j = xj at *
        clear hcs
        go_wp2_with fail
        refine (unhide KD _).mono ?_
        rintro e w7 ⟨rfl, hb⟩
        obtain ⟨v3, w8, run3, st3⟩ := ((unhide hS).all hb).push o (unhide GL) (by rw [mkJ_len _ hj1]; omega) 22
        have RUN := hide run3
        have S3 := hide (show HmSt w w8 v3 (mkJ g (j + 1)) from by rw [unhide GS]; exact st3)
        clear run3 st3 hS hb cj KD
        go_wp2_with (at_builtin; refine wpList_append_ran _ rfl _ _ 22 rfl _ _ _ _ rfl rfl (unhide RUN) ?_; clear RUN)
        go_round
        case rel => exact ⟨j + 1, by omega, by omega, by go_num, S3⟩
        case measure => simp [intOf]; omega
      · have hjj : j = n := by omega
        subst hjj
        have c0 := hcs 0 (by omega)
        rw [Nat.add_zero, hX0] at c0
        clear hcs
        go_wp2_with fail
        refine (unhide KX2 _).mono ?_
        rintro e w7 ⟨rfl, hb⟩
        replace hS := hide ((unhide hS).all hb)
        clear hb KX2 c0
        go_wp2_with fail
        refine (unhide KY _).mono ?_
        rintro e w8 ⟨rfl, hb⟩
        obtain ⟨h1, h2, h3⟩ := (unhide hS).all hb
        obtain ⟨vo, vc, e1, q1⟩ := h1.bits
        rw [mkJ_len _ hj1] at e1
        subst e1
        have r0 := h2.c0; have r1 := h2.c1; have r2 := h2.c2
        have f0 := h2.free 0; have f1' := h2.free 1; have f2' := h2.free 2
        have XP := h2.put (.slice vo j vc) (.int .u64 (T : Nat)) (.int .u64 (b : Nat))
        have z0 := XP.c0; have z1 := XP.c1; have z2 := XP.c2
        have Q := hide (((q1.far h1.newB (show w.heap.size < w.heap.size + 1 by omega) 0 (.slice vo j vc)).far h1.newB (show w.heap.size < w.heap.size + 1 by omega) 1 (.int .u64 (T : Nat))).far h1.newB (show w.heap.size < w.heap.size + 1 by omega) 2 (.int .u64 (b : Nat)))
        have BP := hide (below_put3 h3 (Nat.le_refl _) (.slice vo j vc) (.int .u64 (T : Nat)) (.int .u64 (b : Nat)))
        clear hS h1 q1 XP h2 h3 hb KY
        go_wp2_with fail
        exact bodyPost_ret (v := .tuple #[.agg #[.slice vo j vc, .int .u64 (T : Nat), .int .u64 (b : Nat)], .bool true]) (by simp [results, Tryz.results10, go_sem, z0, z1, z2]) rfl ⟨vo, vc, rfl, unhide Q, unhide BP⟩
  · go_enter Tryz.func10, Tryz.ntmps10
    go_wp2_with fail
    refine (unhide K1 _ (unhide ST).2.2).mono ?_
    rintro e w1 ⟨rfl, hb⟩
    replace ST := hide ((unhide ST).all hb)
    clear hb K1
    go_wp2_with fail
    refine (unhide K2 _ (unhide ST).2.2).mono ?_
    rintro e w2 ⟨rfl, hb⟩
    replace ST := hide ((unhide ST).all hb)
    clear hb K2
    go_wp2_with fail
    refine (unhide K3 _ (unhide ST).2.2).mono ?_
    rintro e w3 ⟨p, rfl, hp, hs, hb⟩
    replace ST := hide ((unhide ST).all hb)
    obtain ⟨bb, off, rfl, hcs⟩ := unhide KX _ (unhide ST).2.2
    have cp := hcs p hp
    have K4' := hide (fun w' => unhide K4 w' p hs)
    have hpI : (p : Int) < (n : Int) := by omega
    generalize X p = x at *
    clear hb K3 hcs hs K4
    go_wp2_with fail
    refine (unhide K4' _).mono ?_
    rintro e w4 ⟨rfl, rfl⟩
    clear K4' cp
    go_wp2_with fail
    refine (unhide K5 _).mono ?_
    rintro e w4 ⟨rfl, rfl⟩
    obtain ⟨bb', off', ee, hcs⟩ := unhide KX _ (unhide ST).2.2
    simp only [Option.some.injEq, Addr.mk.injEq] at ee
    obtain ⟨rfl, rfl, _⟩ := ee
    have c0 := hcs 0 (by omega)
    rw [Nat.add_zero] at c0
    clear hcs
    generalize hX0 : X 0 = a at *
    go_wp2_with fail
    refine (unhide K6 _).mono ?_
    rintro e w5 ⟨rfl, hb⟩
    replace ST := hide ((unhide ST).all hb)
    clear hb K6 c0
    go_wp2_with fail
    refine (unhide K7 _).mono ?_
    rintro e w6 ⟨rfl, rfl⟩
    go_wp2_with fail
    refine (unhide K8 _).mono ?_
    rintro e w6 ⟨rfl, rfl⟩
    go_wp2_with fail
    go_loopw [4, 8] (fun v i wr => ∃ j : Nat, 1 ≤ j ∧ j ≤ n ∧ i = .int .i64 j ∧ Hid (HmSt w wr v (mkJ g j))) (fun _ i _ => n - (intOf i).toNat)
    case atStart => exact ⟨1, Nat.le_refl _, hn1, rfl, by rw [mkJ_1]; exact ST⟩
    case round =>
      clear ST
      obtain ⟨j, hj1, hj, rfl, hS⟩ := hrel
      obtain ⟨bb', off', ee, hcs⟩ := unhide KX _ (unhide hS).2.2
      simp only [Option.some.injEq, Addr.mk.injEq] at ee
      obtain ⟨rfl, rfl, _⟩ := ee
      by_cases hlt : j < n
      · have hjI : (j : Int) < (n : Int) := by omega
        have cj := hcs j hlt
        have KD := hide (unhide K9 j hj1 hlt)
        have GL := hide (unhide HG (j - 1) (by omega))
        have GS := hide (mkJ_succ g hj1)
        generalize g (j - 1) = o at *
        generalize X j = xj at *
        clear hcs
        go_wp2_with fail
        refine (unhide KD _).mono ?_
        rintro e w7 ⟨rfl, hb⟩
        obtain ⟨v3, w8, run3, st3⟩ := ((unhide hS).all hb).push o (unhide GL) (by rw [mkJ_len _ hj1]; omega) 22
        have RUN := hide run3
        have S3 := hide (show HmSt w w8 v3 (mkJ g (j + 1)) from by rw [unhide GS]; exact st3)
        clear run3 st3 hS hb cj KD
        go_wp2_with (at_builtin; refine wpList_append_ran _ rfl _ _ 22 rfl _ _ _ _ rfl rfl (unhide RUN) ?_; clear RUN)
        go_round
        case rel => exact ⟨j + 1, by omega, by omega, by go_num, S3⟩
        case measure => simp [intOf]; omega
      · have hjj : j = n := by omega
        subst hjj
        have c0 := hcs 0 (by omega)
        rw [Nat.add_zero, hX0] at c0
        clear hcs
        go_wp2_with fail
        refine (unhide KX2 _).mono ?_
        rintro e w7 ⟨rfl, hb⟩
        replace hS := hide ((unhide hS).all hb)
        clear hb KX2 c0
        go_wp2_with fail
        refine (unhide KY _).mono ?_
        rintro e w8 ⟨rfl, hb⟩
        obtain ⟨h1, h2, h3⟩ := (unhide hS).all hb
        obtain ⟨vo, vc, e1, q1⟩ := h1.bits
        rw [mkJ_len _ hj1] at e1
        subst e1
        have r0 := h2.c0; have r1 := h2.c1; have r2 := h2.c2
        have f0 := h2.free 0; have f1' := h2.free 1; have f2' := h2.free 2
        have XP := h2.put (.slice vo j vc) (.int .u64 (T : Nat)) (.int .u64 (b : Nat))
        have z0 := XP.c0; have z1 := XP.c1; have z2 := XP.c2
        have Q := hide (((q1.far h1.newB (show w.heap.size < w.heap.size + 1 by omega) 0 (.slice vo j vc)).far h1.newB (show w.heap.size < w.heap.size + 1 by omega) 1 (.int .u64 (T : Nat))).far h1.newB (show w.heap.size < w.heap.size + 1 by omega) 2 (.int .u64 (b : Nat)))
        have BP := hide (below_put3 h3 (Nat.le_refl _) (.slice vo j vc) (.int .u64 (T : Nat)) (.int .u64 (b : Nat)))
        clear hS h1 q1 XP h2 h3 hb KY
        go_wp2_with fail
        exact bodyPost_ret (v := .tuple #[.agg #[.slice vo j vc, .int .u64 (T : Nat), .int .u64 (b : Nat)], .bool true]) (by simp [results, Tryz.results10, go_sem, z0, z1, z2]) rfl ⟨vo, vc, rfl, unhide Q, unhide BP⟩

end Go.Proofs.YtimejpbmehegeaaGreatDoor

