/- Part 40 of the texts. -/
import Derived.Test.YtceofkjefmilfaaGreatDoorPartd39
import Derived.Test.YtceofkjefmilfaaGreatDoorPartd38
import Derived.Test.YtceofkjefmilfaaGreatDoorPartd27
import Derived.Deep.RegionHeld3
import Derived.Test.YtceofkjefmilfaaGreatDoorPartd30
import Derived.Test.YtceofkjefmilfaaGreatDoorPartd35
import Derived.Test.YtceofkjefmilfaaGreatDoorPartd33
import Derived.Deep.RegionLaw
import Derived.Test.YtceofkjefmilfaaGreatDoorPartd36
import Derived.Test.YtceofkjefmilfaaGreatDoorPartd34
import Derived.Test.YtceofkjefmilfaaGreatDoorPartd08
import Derived.Test.YtceofkjefmilfaaGreatDoorPartd31
import Derived.Test.YtceofkjefmilfaaGreatDoorPartd37
/- The reference of layer 11: Residual by letters. -/
namespace Go.Proofs.YtceofkjefmilfaaGreatDoor
open Go.RowKit
attribute [local go_sem ↓] Go.wp_at_zero Go.wp_at_succ

/-- Three matrices' boxes, the answer's, the sum's. -/
def RsSt (w wr : World) (r c p q s d : Int) (ao bo co : Option Addr) (na nb nc ca cb cc : Nat) (lo z : Int) : Prop :=
  Bx3D w wr r c p q s d ao bo co na nb nc ca cb cc ∧ Kept wr (w.heap.size + 1 + 1 + 1 + 1) lo z
theorem RsSt.all {w wr w' : World} {r c p q s d : Int} {ao bo co : Option Addr} {na nb nc ca cb cc : Nat} {lo z : Int} (h : RsSt w wr r c p q s d ao bo co na nb nc ca cb cc lo z) (hb : Below wr.heap.size wr w') : RsSt w w' r c p q s d ao bo co na nb nc ca cb cc lo z := ⟨h.1.all hb, h.2.all hb⟩
theorem RsSt.start (w : World) (r c p q s d : Int) (ao bo co : Option Addr) (na nb nc ca cb cc : Nat) (lo : Int) : RsSt w (((((w.alloc (.cells #[.int .i64 r, .int .i64 c, .slice ao na ca] 35)).alloc (.cells #[.int .i64 p, .int .i64 q, .slice bo nb cb] 35)).alloc (.cells #[.int .i64 s, .int .i64 d, .slice co nc cc] 35)).alloc (.cells #[.bool false, .slice none 0 0, .int .i64 0] 52)).alloc (.cells #[.bool false, .slice none 0 0, .int .i64 0] 52)) r c p q s d ao bo co na nb nc ca cb cc lo 0 := by
  have h := Bx3D.start w r c p q s d ao bo co na nb nc ca cb cc
  have e : ((((w.alloc (.cells #[.int .i64 r, .int .i64 c, .slice ao na ca] 35)).alloc (.cells #[.int .i64 p, .int .i64 q, .slice bo nb cb] 35)).alloc (.cells #[.int .i64 s, .int .i64 d, .slice co nc cc] 35)).alloc (.cells #[.bool false, .slice none 0 0, .int .i64 0] 52)).heap.size = w.heap.size + 1 + 1 + 1 + 1 := by simp
  generalize (((w.alloc (.cells #[.int .i64 r, .int .i64 c, .slice ao na ca] 35)).alloc (.cells #[.int .i64 p, .int .i64 q, .slice bo nb cb] 35)).alloc (.cells #[.int .i64 s, .int .i64 d, .slice co nc cc] 35)).alloc (.cells #[.bool false, .slice none 0 0, .int .i64 0] 52) = w1 at *
  have b2 := below_alloc9 w1 (.cells #[.bool false, .slice none 0 0, .int .i64 0] 52)
  have k2 := Kept.new w1 lo
  rw [e] at k2
  exact ⟨h.all b2, k2⟩
theorem Bx3D.oth {w wr : World} {r c p q s d : Int} {ao bo co : Option Addr} {na nb nc ca cb cc : Nat} (h : Bx3D w wr r c p q s d ao bo co na nb nc ca cb cc) {g : Nat} (hg : w.heap.size + 1 + 1 + 1 < g) (u u' u'' : Value) : Bx3D w (((wr.setCell ⟨g, 0, none⟩ u).setCell ⟨g, 1, none⟩ u').setCell ⟨g, 2, none⟩ u'') r c p q s d ao bo co na nb nc ca cb cc :=
  ⟨h.1.oth3 (by omega) _ _ _, h.2.1.oth3 (by omega) _ _ _, h.2.2.1.oth3 (by omega) _ _ _, h.2.2.2.1.oth3 (by omega) _ _ _, below_put3 h.2.2.2.2 (by omega) _ _ _⟩
theorem RsSt.put {w wr : World} {r c p q s d : Int} {ao bo co : Option Addr} {na nb nc ca cb cc : Nat} {lo z t : Int} (h : RsSt w wr r c p q s d ao bo co na nb nc ca cb cc lo z) {ng : Bool} {a : Option Addr} {l cp : Nat} {X : Int} (hv : IsLv wr (.agg #[.bool ng, .slice a l cp, .int .i64 X]) lo t) :
    RsSt w (((wr.setCell ⟨(w.heap.size + 1 + 1 + 1 + 1), 0, none⟩ (.bool ng)).setCell ⟨(w.heap.size + 1 + 1 + 1 + 1), 1, none⟩ (.slice a l cp)).setCell ⟨(w.heap.size + 1 + 1 + 1 + 1), 2, none⟩ (.int .i64 X)) r c p q s d ao bo co na nb nc ca cb cc lo t := ⟨h.1.oth (by omega) _ _ _, h.2.put hv⟩
end Go.Proofs.YtceofkjefmilfaaGreatDoor

/- The reference of layer 11: Gradient by letters. -/
namespace Go.Proofs.YtceofkjefmilfaaGreatDoor
open Go.RowKit
attribute [local go_sem ↓] Go.wp_at_zero Go.wp_at_succ

theorem OwnD.made (w : World) (base : Nat) (lo : Int) (f : Nat → Int) (hb : base ≤ w.heap.size) : OwnD base (w.alloc (.cells #[] 52)) (.slice (some ⟨w.heap.size, 0, none⟩) 0 0) 0 lo f :=
  ⟨[], rfl, World.ownsRow_made w #[] 0 hb (by simp [maxLen]) (by simp), fun g hg => by cases hg; exact ⟨#[], _, heap_alloc_new w _, fun u hu => by simp at hu⟩, fun k hk => by omega⟩
theorem OwnD.put3 {base : Nat} {w : World} {v : Value} {n : Nat} {lo : Int} {f : Nat → Int} (h : OwnD base w v n lo f) {g : Nat} {x : Bool} {a : Option Addr} {l c : Nat} {y : Int} (hx : Box3 w g (.bool x) (.slice a l c) (.int .i64 y)) (hg : g < base) (b : Bool) (a' : Option Addr) (l' c' : Nat) (y' : Int) :
    OwnD base (((w.setCell ⟨g, 0, none⟩ (.bool b)).setCell ⟨g, 1, none⟩ (.slice a' l' c')).setCell ⟨g, 2, none⟩ (.int .i64 y')) v n lo f :=
  ((h.set hx.clr hg 0 _).set (hx.clr.set _ _ rfl) hg 1 _).set ((hx.clr.set _ _ rfl).set _ _ rfl) hg 2 _
theorem OwnD.congr {base : Nat} {w : World} {v : Value} {n : Nat} {lo : Int} {f g : Nat → Int} (h : OwnD base w v n lo f) (he : ∀ k, k < n → f k = g k) : OwnD base w v n lo g := by
  obtain ⟨D, h1, h2, h3, h4⟩ := h
  exact ⟨D, h1, h2, h3, fun k hk => by rw [← he k hk]; exact h4 k hk⟩

end Go.Proofs.YtceofkjefmilfaaGreatDoor

/- The reference of layer 11: Check, Square, Tame. The law's told, one, awake. -/
namespace Go.Proofs.YtceofkjefmilfaaGreatDoor
open Go.RowKit
attribute [local go_sem ↓] Go.wp_at_zero Go.wp_at_succ
set_option maxRecDepth 20000 in
set_option maxHeartbeats 4000000 in
theorem r11check_any (r c : Int) (ao : Option Addr) (cap : Nat) (I : List Int) (w : World) (hI : BitsAt w ao cap I) (hn : I.length ≤ 35184372088830) :
    Calls Tryz.prog 32 #[.agg #[.int .i64 r, .int .i64 c, .slice ao I.length cap]] w fun e w' => e = .returned (.int .i64 (ckE r c I)) ∧ Below w.heap.size w w' := by
  have K1 := hide (fun w' => rright_any r c ao I.length cap w')
  have K2 := hide (fun w' (h : BitsAt w' ao cap I) => r9finite_any ao cap I w' h hn)
  have BB := hide (below_alloc9 w (.cells #[.int .i64 r, .int .i64 c, .slice ao I.length cap] 35))
  have X0 := hide (BoxM.new w (.int .i64 r) (.int .i64 c) (.slice ao I.length cap))
  have HI := hide hI
  unfold ckE
  generalize okB r c I.length = b at *
  generalize fnK I I.length = f at *
  generalize I.length = n at *
  clear hI
  cases b
  · clear K2
    go_enter Tryz.func32, Tryz.ntmps32
    go_wp2_with fail
    refine (unhide K1 _).mono ?_
    rintro e w1 ⟨rfl, hb1⟩
    have PB := hide ((unhide BB).trans (hb1.mono (unhide BB).size))
    clear hb1 K1 X0
    go_wp2
    go_ret
    exact ⟨rfl, unhide PB⟩
  · cases f
    all_goals
      go_enter Tryz.func32, Tryz.ntmps32
      go_wp2_with fail
      refine (unhide K1 _).mono ?_
      rintro e w1 ⟨rfl, hb1⟩
      replace BB := hide ((unhide BB).trans (hb1.mono (unhide BB).size)); replace X0 := hide ((unhide X0).all hb1)
      clear hb1 K1
      have y2 := (unhide X0).c2
      go_wp2_with fail
      refine (unhide K2 _ ((unhide HI).below (unhide BB))).mono ?_
      rintro e w2 ⟨rfl, hb1⟩
      replace BB := hide ((unhide BB).trans (hb1.mono (unhide BB).size))
      clear hb1 K2 y2
      go_wp2
      go_ret
      exact ⟨rfl, unhide BB⟩

set_option maxRecDepth 20000 in
set_option maxHeartbeats 4000000 in
theorem r11tame_any (r c : Int) (ao : Option Addr) (cap : Nat) (I : List Int) (K : Int) (w : World) (hI : BitsAt w ao cap I) (hn : I.length ≤ 35184372088830) (hK : -5000 ≤ K ∧ K ≤ 5000) :
    Calls Tryz.prog 31 #[.agg #[.int .i64 r, .int .i64 c, .slice ao I.length cap], .int .i64 K] w fun e w' => e = .returned (.bool (okB r c I.length && tmK K I I.length)) ∧ Below w.heap.size w w' := by
  have K1 := hide (fun w' => rright_any r c ao I.length cap w')
  have K2 := hide (fun w' (h : BitsAt w' ao cap I) => r9tame_any ao cap I K w' h hn hK)
  have BB := hide (below_alloc9 w (.cells #[.int .i64 r, .int .i64 c, .slice ao I.length cap] 35))
  have X0 := hide (BoxM.new w (.int .i64 r) (.int .i64 c) (.slice ao I.length cap))
  have HI := hide hI
  generalize okB r c I.length = b at *
  generalize tmK K I I.length = f at *
  generalize I.length = n at *
  clear hI hK
  cases b
  · clear K2
    go_enter Tryz.func31, Tryz.ntmps31
    go_wp2_with fail
    refine (unhide K1 _).mono ?_
    rintro e w1 ⟨rfl, hb1⟩
    have PB := hide ((unhide BB).trans (hb1.mono (unhide BB).size))
    clear hb1 K1 X0
    go_wp2
    go_ret
    exact ⟨rfl, unhide PB⟩
  · go_enter Tryz.func31, Tryz.ntmps31
    go_wp2_with fail
    refine (unhide K1 _).mono ?_
    rintro e w1 ⟨rfl, hb1⟩
    replace BB := hide ((unhide BB).trans (hb1.mono (unhide BB).size)); replace X0 := hide ((unhide X0).all hb1)
    clear hb1 K1
    have y2 := (unhide X0).c2
    go_wp2_with fail
    refine (unhide K2 _ ((unhide HI).below (unhide BB))).mono ?_
    rintro e w2 ⟨rfl, hb1⟩
    replace BB := hide ((unhide BB).trans (hb1.mono (unhide BB).size))
    clear hb1 K2 y2
    go_wp2
    go_ret
    exact ⟨rfl, unhide BB⟩

set_option maxRecDepth 20000 in
set_option maxHeartbeats 4000000 in
theorem r11square_of (r c : Int) (ao : Option Addr) (n cap : Nat) (lo z : Int) (w : World)
    (C : ∀ w', Below w.heap.size w w' → Calls Tryz.prog 21 #[.slice ao n cap] w' fun e w'' => ∃ v, e = .returned v ∧ IsLv w'' v lo z ∧ Below w'.heap.size w' w'') :
    Calls Tryz.prog 33 #[.agg #[.int .i64 r, .int .i64 c, .slice ao n cap]] w fun e w' => ∃ v, e = .returned v ∧ IsLv w' v lo z ∧ Below w.heap.size w w' := by
  obtain ⟨x0, x1, bb⟩ := boxes1D w r c ao n cap
  have X0 := hide x0; have X1 := hide x1; have BB := hide bb; have K := hide C
  clear x0 x1 bb C
  have y2 := (unhide X0).c2
  go_enter Tryz.func33, Tryz.ntmps33
  go_wp2_with fail
  refine (unhide K _ (unhide BB)).mono ?_
  rintro e w2 ⟨v, rfl, ⟨n5, a5, c5, L5, rfl, i5⟩, hb1⟩
  have Q5 : IsLv w2 (.agg #[.bool n5, .slice a5 L5.length c5, .int .i64 (oE z lo)]) lo z := ⟨n5, a5, c5, L5, rfl, i5⟩
  generalize L5.length = l5 at *
  generalize oE z lo = X5 at *
  have xe := (unhide X1).all hb1
  have r0 := xe.c0; have r1 := xe.c1; have r2 := xe.c2; have f0 := xe.free 0; have f1 := xe.free 1; have f2 := xe.free 2
  have xp := xe.put (.bool n5) (.slice a5 l5 c5) (.int .i64 X5)
  have z0 := xp.c0; have z1 := xp.c1; have z2 := xp.c2
  have HV := hide (IsDy.put3 Q5 xe (.bool n5) (.slice a5 l5 c5) (.int .i64 X5))
  have HB := hide (below_put3 ((unhide BB).trans (hb1.mono (unhide BB).size)) (show w.heap.size ≤ w.heap.size + 1 by omega) (.bool n5) (.slice a5 l5 c5) (.int .i64 X5))
  clear i5 Q5 xe xp hb1 BB X0 X1 K y2
  go_wp2
  exact bodyPost_ret (v := .agg #[.bool n5, .slice a5 l5 c5, .int .i64 X5]) (by simp [results, Tryz.results33, go_sem, z0, z1, z2]) rfl ⟨_, rfl, unhide HV, unhide HB⟩

theorem sqK_sm (S : List Nat) : ∀ k, sqK (mxL S) k = smI (fun p => fZ (S.getD p 0) * fZ (S.getD p 0)) k
  | 0 => rfl
  | k + 1 => by
    show sqK (mxL S) k + fZ (atB (mxL S) k) * fZ (atB (mxL S) k) = smI _ k + _
    rw [sqK_sm S k, mxL_at]
theorem fnK_all {I : List Int} : ∀ n, fnK I n = true ↔ ∀ k, k < n → fFin (atB I k) = true
  | 0 => ⟨fun _ k hk => by omega, fun _ => rfl⟩
  | n + 1 => by
    show (fnK I n && fFin (atB I n)) = true ↔ _
    rw [Bool.and_eq_true, fnK_all n]
    constructor
    · rintro ⟨h1, h2⟩ k hk
      by_cases e : k = n
      · subst e; exact h2
      · exact h1 k (by omega)
    · exact fun h => ⟨fun k hk => h k (by omega), h n (by omega)⟩
theorem fin_all {S : List Nat} (h : fnK (mxL S) S.length = true) : ∀ x ∈ S, fFin x = true := fun x hx => by
  obtain ⟨i, hi, rfl⟩ := List.getElem_of_mem hx
  have := (fnK_all _).1 h i hi
  rw [mxL_at] at this
  rwa [List.getD_eq_getElem?_getD, List.getElem?_eq_getElem hi] at this
theorem all_fin {S : List Nat} (h : ∀ x ∈ S, fFin x = true) : fnK (mxL S) S.length = true := (fnK_all _).2 fun k hk => by
  rw [mxL_at, List.getD_eq_getElem?_getD, List.getElem?_eq_getElem hk]
  exact h _ (List.getElem_mem hk)

/-- Of a matrix that may be asked. -/
theorem r11square_any (r c cap : Nat) (ao : Option Addr) (S : List Nat) (w : World) (h : Mx w ao cap r c S) (hf : ∀ x ∈ S, fFin x = true) :
    Calls Tryz.prog 33 #[.agg #[.int .i64 r, .int .i64 c, .slice ao S.length cap]] w fun e w' => ∃ v, e = .returned v ∧ IsLv w' v (-2148) (sqZ S) ∧ Below w.heap.size w w' := by
  refine r11square_of r c ao S.length cap (-2148) (sqZ S) w (fun w' hb => ?_)
  have := r9squares_any ao cap (mxL S) w' (h.1.below hb) (by rw [mxL_len]; have := h.small; omega) (by rw [mxL_len]; exact all_fin hf)
  rw [mxL_len, sqK_sm] at this
  exact this

end Go.Proofs.YtceofkjefmilfaaGreatDoor

/- The laws of layer 12: awake; GivensTurns, GivensOne walked by what givens.Turn answers. -/
namespace Go.Proofs.YtceofkjefmilfaaGreatDoor
open Go.RowKit
attribute [local go_sem ↓] Go.wp_at_zero Go.wp_at_succ

theorem w12_facts : ¬ fK 4616189618054758400 = 0 ∧ ¬ fK 4613937818241073152 = 0 ∧ eX (max (fR 4613937818241073152) (fR 4616189618054758400)) = 2 ∧ aV (mV (xV 4613937818241073152 (-2)) (xV 4613937818241073152 (-2))) (mV (xV 4616189618054758400 (-2)) (xV 4616189618054758400 (-2))) = 4609715693590413312 ∧ xV 4608308318706860032 2 = 4617315517961601024 := by decide +kernel

theorem gvR_345 : gvR 4613937818241073152 4616189618054758400 = 4617315517961601024 := by
  obtain ⟨h1, h2, h3, h4, h5⟩ := w12_facts
  unfold gvR
  rw [if_neg h1, if_neg h2]
  unfold gvN gvK
  rw [h3, h4, w9_root, h5]
theorem fin_345 : fFin 4613937818241073152 = true ∧ fFin 4616189618054758400 = true := by decide +kernel

set_option maxRecDepth 20000 in
set_option maxHeartbeats 4000000 in
theorem awake12_of (c s : Nat) (w : World)
    (C1 : ∀ w', Below w.heap.size w w' → Calls Tryz.prog 8 #[.int .u64 4613937818241073152, .int .u64 4616189618054758400] w' fun e w'' => e = .returned (.tuple #[.int .u64 (c : Nat), .int .u64 (s : Nat), .int .u64 4617315517961601024, .int .i64 0]) ∧ Below w'.heap.size w' w'') :
    Calls Tryz.prog 10 #[] w fun e w' => e = .returned (.bool true) ∧ Below w.heap.size w w' := by
  have K1 := hide C1
  clear C1
  go_enter Tryz.func10, Tryz.ntmps10
  go_wp2_with fail
  refine (unhide K1 _ (Below.refl _ _)).mono ?_
  rintro e w1 ⟨rfl, hb⟩
  have BB := hide hb
  clear hb K1
  go_wp2
  go_ret
  exact ⟨rfl, unhide BB⟩

end Go.Proofs.YtceofkjefmilfaaGreatDoor

/- The law GivensOne, walked by what givens.Turn answers. -/
namespace Go.Proofs.YtceofkjefmilfaaGreatDoor
open Go.RowKit
attribute [local go_sem ↓] Go.wp_at_zero Go.wp_at_succ

/-- Two numbers laid in a row. -/
theorem two_bits (w : World) (a b : Nat) (ha : a < 18446744073709551616) (hb : b < 18446744073709551616) : BitsAt (w.alloc (.cells #[.int .u64 (a : Nat), .int .u64 (b : Nat)] 23)) (some ⟨w.heap.size, 0, none⟩) 2 [(a : Int), (b : Int)] := by
  have h : RowB (w.alloc (.cells #[.int .u64 (a : Nat), .int .u64 (b : Nat)] 23)) w.heap.size [a, b] := heap_alloc_new w _
  exact h.bits (fun x hx => by simp at hx; rcases hx with rfl | rfl; exact ha; exact hb)

end Go.Proofs.YtceofkjefmilfaaGreatDoor

