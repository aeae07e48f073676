/- Part 27 of the texts. -/
import Derived.Test.YtfnnbkclnflpfaaGreatDoorPartS26
import Derived.Test.YtfnnbkclnflpfaaGreatDoorPartS17
/- Package certify: a sum that is gathered by closures; square. -/
namespace Go.Proofs.YtfnnbkclnflpfaaGreatDoor
open Go.RowKit
attribute [local go_sem ↓] Go.wp_at_zero Go.wp_at_succ

set_option maxRecDepth 20000 in
set_option maxHeartbeats 4000000 in
theorem gathering_any (w : World) :
    Calls Tryz.prog 77 #[] w fun e w' => e = .returned (.tuple #[.func (.func 123) #[] #[.pointer (some ⟨w.heap.size, 0, none⟩)], .func (.func 126) #[] #[.pointer (some ⟨w.heap.size, 0, none⟩)]]) ∧ w' = w.alloc (.cells #[.bool false, .slice none 0 0, .int .i64 0] 29) := by
  go_enter Tryz.func77, Tryz.ntmps77
  go_wp2
  exact bodyPost_ret (v := .tuple #[.func (.func 123) #[] #[.pointer (some ⟨w.heap.size, 0, none⟩)], .func (.func 126) #[] #[.pointer (some ⟨w.heap.size, 0, none⟩)]]) (by simp [results, Tryz.results77, go_sem]) rfl ⟨rfl, rfl⟩

/-- The kept sum: its box, what it is worth. -/
def Kept (w : World) (g : Nat) (lo s : Int) : Prop := ∃ n a l c X, Box3 w g (.bool n) (.slice a l c) (.int .i64 X) ∧ IsLv w (.agg #[.bool n, .slice a l c, .int .i64 X]) lo s
theorem Kept.all {w w' : World} {g : Nat} {lo s : Int} (h : Kept w g lo s) (hb : Below w.heap.size w w') : Kept w' g lo s := by
  obtain ⟨n, a, l, c, X, h1, h2⟩ := h
  exact ⟨n, a, l, c, X, h1.all hb, h2.below hb⟩
theorem Kept.lt {w : World} {g : Nat} {lo s : Int} (h : Kept w g lo s) : g < w.heap.size := by
  obtain ⟨n, a, l, c, X, h1, h2⟩ := h
  exact h1.lt
theorem Kept.new (w : World) (lo : Int) : Kept (w.alloc (.cells #[.bool false, .slice none 0 0, .int .i64 0] 29)) w.heap.size lo 0 :=
  ⟨false, none, 0, 0, 0, Box3.new w _ _ _, IsLv.zero _ _⟩

set_option maxRecDepth 20000 in
set_option maxHeartbeats 4000000 in
theorem add1_of (n1 n2 : Bool) (a1 a2 : Option Addr) (l1 l2 c1 c2 g : Nat) (X1 X2 lo s p t : Int) (w : World) (hk : Kept w g lo s)
    (C1 : ∀ w', Below w.heap.size w w' → Calls Tryz.prog 124 #[.agg #[.bool n1, .slice a1 l1 c1, .int .i64 X1], .agg #[.bool n2, .slice a2 l2 c2, .int .i64 X2]] w' fun r w'' => ∃ u, r = .returned (.tuple #[u, .int .i64 0]) ∧ IsLv w'' u lo p ∧ Below w'.heap.size w' w'')
    (C2 : ∀ w' v u, Below w.heap.size w w' → IsLv w' v lo s → IsLv w' u lo p → Calls Tryz.prog 125 #[v, u] w' fun r w'' => ∃ q, r = .returned (.tuple #[q, .int .i64 0]) ∧ IsLv w'' q lo t ∧ Below w'.heap.size w' w'') :
    Calls Tryz.prog 123 #[.agg #[.bool n1, .slice a1 l1 c1, .int .i64 X1], .agg #[.bool n2, .slice a2 l2 c2, .int .i64 X2], .pointer (some ⟨g, 0, none⟩)] w fun e w' => e = .returned (.tuple #[]) ∧ Kept w' g lo t ∧ Below g w w' := by
  have K1 := hide C1; have K2 := hide C2
  have HG := hide hk.lt
  obtain ⟨n, a, l, c, X, xk, ik⟩ := hk
  have b0 := below_alloc9 w (.cells #[.bool n1, .slice a1 l1 c1, .int .i64 X1] 29)
  have b1 := below_alloc9 (w.alloc (.cells #[.bool n1, .slice a1 l1 c1, .int .i64 X1] 29)) (.cells #[.bool n2, .slice a2 l2 c2, .int .i64 X2] 29)
  have bb := b0.trans (b1.mono b0.size)
  have BB := hide bb; have XK := hide (xk.all bb); have IK := hide (ik.below bb)
  clear b0 b1 bb xk ik C1 C2
  go_enter Tryz.func123, Tryz.ntmps123
  go_wp2_with fail
  refine (unhide K1 _ (unhide BB)).mono ?_
  rintro e w1 ⟨u, rfl, ⟨n4, a4, c4, L4, rfl, i4⟩, hb1⟩
  have hv : IsLv w1 (.agg #[.bool n4, .slice a4 L4.length c4, .int .i64 (oE p lo)]) lo p := ⟨n4, a4, c4, L4, rfl, i4⟩
  generalize L4.length = l4 at *
  generalize oE p lo = X4 at *
  have ba := below_alloc9 w1 (.cells #[.bool n4, .slice a4 l4 c4, .int .i64 X4] 29)
  have hbb := hb1.trans (ba.mono hb1.size)
  replace BB := hide ((unhide BB).trans (hbb.mono (unhide BB).size)); replace XK := hide ((unhide XK).all hbb); replace IK := hide ((unhide IK).below hbb)
  have HV := hide (hv.below ba)
  clear hb1 hbb ba hv i4 K1
  have y0 := (unhide XK).c0; have y1 := (unhide XK).c1; have y2 := (unhide XK).c2
  go_wp2_with fail
  refine (unhide K2 _ _ _ (unhide BB) (unhide IK) (unhide HV)).mono ?_
  rintro e w2 ⟨q, rfl, ⟨n5, a5, c5, L5, rfl, i5⟩, hb2⟩
  have hq : IsLv w2 (.agg #[.bool n5, .slice a5 L5.length c5, .int .i64 (oE t lo)]) lo t := ⟨n5, a5, c5, L5, rfl, i5⟩
  generalize L5.length = l5 at *
  generalize oE t lo = X5 at *
  have xk := (unhide XK).all hb2
  clear y0 y1 y2
  have y0 := xk.c0; have y1 := xk.c1; have y2 := xk.c2; have f0 := xk.free 0; have f1 := xk.free 1; have f2 := xk.free 2
  have XP := hide (xk.put (.bool n5) (.slice a5 l5 c5) (.int .i64 X5))
  have QP := hide (IsDy.put3 hq xk (.bool n5) (.slice a5 l5 c5) (.int .i64 X5))
  have BP := hide (below_put3 (((unhide BB).trans (hb2.mono (unhide BB).size)).mono (Nat.le_of_lt (unhide HG))) (Nat.le_refl g) (.bool n5) (.slice a5 l5 c5) (.int .i64 X5))
  clear hb2 hq i5 K2 XK IK HV BB xk
  go_wp2
  first | go_end0 | refine bodyPost_ret (results_none rfl _ _ _) rfl ?_
  exact ⟨rfl, ⟨n5, a5, l5, c5, X5, unhide XP, unhide QP⟩, unhide BP⟩

set_option maxRecDepth 20000 in
set_option maxHeartbeats 4000000 in
theorem gtold_any (g : Nat) (lo s : Int) (w : World) (h : Kept w g lo s) :
    Calls Tryz.prog 126 #[.pointer (some ⟨g, 0, none⟩)] w fun e w' => ∃ v, e = .returned v ∧ IsLv w' v lo s ∧ Below w.heap.size w w' := by
  obtain ⟨n, a, l, c, X, xk, ik⟩ := h
  have b0 := below_alloc9 w (.cells #[.bool n, .slice a l c, .int .i64 X] 29)
  have b1 := below_alloc9 w (.cells #[.bool false, .slice none 0 0, .int .i64 0] 29)
  have y0 := (xk.all b1).c0; have y1 := (xk.all b1).c1; have y2 := (xk.all b1).c2
  have IK := hide (ik.below b0); have BB := hide b0
  clear b0 b1 xk ik
  go_enter Tryz.func126, Tryz.ntmps126
  go_wp2
  exact bodyPost_ret (v := .agg #[.bool n, .slice a l c, .int .i64 X]) (by simp [results, Tryz.results126, go_sem]) rfl ⟨_, rfl, unhide IK, unhide BB⟩

end Go.Proofs.YtfnnbkclnflpfaaGreatDoor

/- Package certify: square. -/
namespace Go.Proofs.YtfnnbkclnflpfaaGreatDoor
open Go.RowKit
attribute [local go_sem ↓] Go.wp_at_zero Go.wp_at_succ

/-- The program's product, sum, difference of exact numbers at their levels. -/
theorem pmulL {w : World} {v u : Value} {lo1 lo2 lo : Int} {W1 W2 W : Nat} {z1 z2 : Int} (hl : lo1 + lo2 = lo) (hv : IsLv w v lo1 z1) (hu : IsLv w u lo2 z2) (h1 : Lvl lo1 W1 z1) (h2 : Lvl lo2 W2 z2) (h3 : Lvl lo W (z1 * z2)) (hT : Tab w) :
    Calls Tryz.prog 124 #[v, u] w fun r w' => ∃ q, r = .returned (.tuple #[q, .int .i64 0]) ∧ IsLv w' q lo (z1 * z2) ∧ Below w.heap.size w w' := by
  subst hl
  refine (mulN hv hu h1 h2 h3 hT).mono ?_
  rintro e w' ⟨⟨q, rfl, hq⟩, hb⟩
  exact ⟨q, rfl, hq, hb⟩
theorem paddL {w : World} {v u : Value} {lo : Int} {W : Nat} {z1 z2 : Int} (hv : IsLv w v lo z1) (hu : IsLv w u lo z2) (h1 : Lvl lo W z1) (h2 : Lvl lo W z2) (h3 : Lvl lo W (z1 + z2)) (hT : Tab w) :
    Calls Tryz.prog 125 #[v, u] w fun r w' => ∃ q, r = .returned (.tuple #[q, .int .i64 0]) ∧ IsLv w' q lo (z1 + z2) ∧ Below w.heap.size w w' := by
  refine (addN hv hu h1 h2 h3 hT).mono ?_
  rintro e w' ⟨⟨q, rfl, hq⟩, hb⟩
  exact ⟨q, rfl, hq, hb⟩
theorem psubL {w : World} {v u : Value} {lo : Int} {W : Nat} {z1 z2 : Int} (hv : IsLv w v lo z1) (hu : IsLv w u lo z2) (h1 : Lvl lo W z1) (h2 : Lvl lo W z2) (h3 : Lvl lo W (z1 - z2)) (hT : Tab w) :
    Calls Tryz.prog 85 #[v, u] w fun r w' => ∃ q, r = .returned (.tuple #[q, .int .i64 0]) ∧ IsLv w' q lo (z1 - z2) ∧ Below w.heap.size w w' := by
  refine (subN hv hu h1 h2 h3 hT).mono ?_
  rintro e w' ⟨⟨q, rfl, hq⟩, hb⟩
  exact ⟨q, rfl, hq, hb⟩

/-- A product taken up into the kept sum. -/
theorem add1_any {w : World} {g : Nat} {v u : Value} {lo1 lo2 lo : Int} {W1 W2 W : Nat} {z1 z2 s t : Int} (hl : lo1 + lo2 = lo) (hk : Kept w g lo s) (hv : IsLv w v lo1 z1) (hu : IsLv w u lo2 z2) (h1 : Lvl lo1 W1 z1) (h2 : Lvl lo2 W2 z2) (h3 : Lvl lo W (z1 * z2)) (h4 : Lvl lo W s) (ht : t = s + z1 * z2) (h5 : Lvl lo W t) (hT : Tab w) :
    Calls Tryz.prog 123 #[v, u, .pointer (some ⟨g, 0, none⟩)] w fun e w' => e = .returned (.tuple #[]) ∧ Kept w' g lo t ∧ Below g w w' := by
  obtain ⟨x, rfl⟩ := hv.dn
  obtain ⟨y, rfl⟩ := hu.dn
  subst ht
  exact add1_of x.neg y.neg x.ao y.ao x.len y.len x.cap y.cap g x.e y.e lo s (z1 * z2) (s + z1 * z2) w hk (fun w' hb => pmulL hl (hv.below hb) (hu.below hb) h1 h2 h3 (hT.all hb)) (fun w' v' u' hb hv' hu' => paddL hv' hu' h4 h3 h5 (hT.all hb))

/-- What holds in square: the grid's box, the answer's, the sum. -/
def SqSt (w wr : World) (r c n cap : Nat) (ao : Option Addr) (g : Nat) (lo s : Int) : Prop :=
  BoxT 61 wr w.heap.size (.int .i64 r) (.int .i64 c) (.slice ao n cap) ∧ Box3 wr (w.heap.size + 1) (.bool false) (.slice none 0 0) (.int .i64 0) ∧ Kept wr g lo s ∧ Below w.heap.size w wr ∧ w.heap.size + 1 < g
theorem SqSt.all {w wr w' : World} {r c n cap : Nat} {ao : Option Addr} {g : Nat} {lo s : Int} (h : SqSt w wr r c n cap ao g lo s) (hb : Below wr.heap.size wr w') : SqSt w w' r c n cap ao g lo s :=
  ⟨h.1.all hb, h.2.1.all hb, h.2.2.1.all hb, h.2.2.2.1.trans (hb.mono h.2.2.2.1.size), h.2.2.2.2⟩
theorem SqSt.add {w wr w' : World} {r c n cap : Nat} {ao : Option Addr} {g : Nat} {lo s t : Int} (h : SqSt w wr r c n cap ao g lo s) (hk : Kept w' g lo t) (hb : Below g wr w') : SqSt w w' r c n cap ao g lo t := by
  have hg := h.2.2.2.2
  exact ⟨h.1.below hb (by omega), h.2.1.below hb (by omega), hk, h.2.2.2.1.trans (hb.mono (by omega)), hg⟩
theorem SqSt.start (w : World) (r c n cap : Nat) (ao : Option Addr) (lo : Int) (g : Nat) (hg : g = ((w.alloc (.cells #[.int .i64 r, .int .i64 c, .slice ao n cap] 61)).alloc (.cells #[.bool false, .slice none 0 0, .int .i64 0] 29)).heap.size) : SqSt w (((w.alloc (.cells #[.int .i64 r, .int .i64 c, .slice ao n cap] 61)).alloc (.cells #[.bool false, .slice none 0 0, .int .i64 0] 29)).alloc (.cells #[.bool false, .slice none 0 0, .int .i64 0] 29)) r c n cap ao g lo 0 := by
  have b0 := below_alloc9 w (.cells #[.int .i64 r, .int .i64 c, .slice ao n cap] 61)
  have s0 := size_alloc9 w (.cells #[.int .i64 r, .int .i64 c, .slice ao n cap] 61)
  have x0 := BoxT.new 61 w (.int .i64 r) (.int .i64 c) (.slice ao n cap)
  generalize w.alloc (.cells #[.int .i64 r, .int .i64 c, .slice ao n cap] 61) = w0 at *
  have b1 := below_alloc9 w0 (.cells #[.bool false, .slice none 0 0, .int .i64 0] 29)
  have s1 := size_alloc9 w0 (.cells #[.bool false, .slice none 0 0, .int .i64 0] 29)
  have x1 := Box3.new w0 (.bool false) (.slice none 0 0) (.int .i64 0)
  generalize w0.alloc (.cells #[.bool false, .slice none 0 0, .int .i64 0] 29) = w1 at *
  have b2 := below_alloc9 w1 (.cells #[.bool false, .slice none 0 0, .int .i64 0] 29)
  have k2 := Kept.new w1 lo
  rw [← hg] at k2
  rw [s0] at x1
  exact ⟨(x0.all b1).all b2, x1.all b2, k2, (b0.trans (b1.mono b0.size)).trans (b2.mono (Nat.le_trans b0.size b1.size)), by omega⟩

set_option maxRecDepth 20000 in
set_option maxHeartbeats 8000000 in
theorem square_of (r c n cap : Nat) (ao : Option Addr) (lo lo2 : Int) (f : Nat → Int) (s : Nat → Int) (w : World) (h : DysAt w ao cap n lo f) (hn : n ≤ 36) (h0 : s 0 = 0)
    (C : ∀ w' g k v u, Below w.heap.size w w' → k < n → Kept w' g lo2 (s k) → IsLv w' v lo (f k) → IsLv w' u lo (f k) → Calls Tryz.prog 123 #[v, u, .pointer (some ⟨g, 0, none⟩)] w' fun e w'' => e = .returned (.tuple #[]) ∧ Kept w'' g lo2 (s (k + 1)) ∧ Below g w' w'') :
    Calls Tryz.prog 33 #[.agg #[.int .i64 r, .int .i64 c, .slice ao n cap]] w fun e w' => ∃ v, e = .returned v ∧ IsLv w' v lo2 (s n) ∧ Below w.heap.size w w' := by
  have K := hide C; have HD := hide h
  have KG := hide (gathering_any ((w.alloc (.cells #[.int .i64 r, .int .i64 c, .slice ao n cap] 61)).alloc (.cells #[.bool false, .slice none 0 0, .int .i64 0] 29)))
  obtain ⟨g, hg⟩ : ∃ g, g = ((w.alloc (.cells #[.int .i64 r, .int .i64 c, .slice ao n cap] 61)).alloc (.cells #[.bool false, .slice none 0 0, .int .i64 0] 29)).heap.size := ⟨_, rfl⟩
  have ST := hide (show SqSt w _ r c n cap ao g lo2 (s 0) from by rw [h0]; exact SqSt.start w r c n cap ao lo2 g hg)
  rw [← hg] at KG
  clear C h h0 hg
  go_enter Tryz.func33, Tryz.ntmps33
  go_wp2_with fail
  refine Calls.mono (unhide KG) ?_
  rintro e w1 ⟨rfl, rfl⟩
  clear KG
  have y2 := (unhide ST).1.c2
  go_wp2_with fail
  clear y2
  go_loopw [13] (fun i wr => ∃ k : Nat, k ≤ n ∧ i = .int .i64 k ∧ Hid (SqSt w wr r c n cap ao g lo2 (s k))) (fun i _ => n - (intOf i).toNat)
  case atStart => exact ⟨0, Nat.zero_le _, rfl, ST⟩
  case round =>
    clear ST
    obtain ⟨k, hk, rfl, hS⟩ := hrel
    by_cases hlt : k < n
    · have hkI : (k : Int) < (n : Int) := by omega
      have hD := (unhide HD).below (unhide hS).2.2.2.1
      rcases hD.2 with e | ⟨b, off, rfl, hb, hc⟩
      · omega
      obtain ⟨x, c0, c1, c2, hx⟩ := hc k hlt
      have hbw : b < w.heap.size := by
        rcases (unhide HD).2 with e | ⟨b', off', e', hb', _⟩
        · omega
        · cases e'; exact hb'
      have C2 := hide (fun w' v u h1 => unhide K w' g k v u h1 hlt)
      have HX := hide hx; have Y0 := hide c0; have Y1 := hide c1; have Y2 := hide c2; have HBW := hide hbw
      clear hD hc hx c0 c1 c2 hb hbw
      obtain ⟨ng, a, l, cp, X⟩ := x
      go_wp2_with fail
      refine at_world (fun W => SqSt w W r c n cap (some ⟨b, off, none⟩) g lo2 (s k) ∧ IsLv W (.agg #[.bool ng, .slice a l cp, .int .i64 X]) lo (f k) ∧ W.cell? ⟨b, off + k * 3, none⟩ = some (.bool ng) ∧ W.cell? ⟨b, off + k * 3 + 1, none⟩ = some (.slice a l cp) ∧ W.cell? ⟨b, off + k * 3 + 2, none⟩ = some (.int .i64 X)) ⟨unhide hS, unhide HX, unhide Y0, unhide Y1, unhide Y2⟩ ?_
      clear hS HX Y0 Y1 Y2
      rintro W0 ⟨hS, hx, c0, c1, c2⟩
      have D0 := (Below.refl W0.heap.size W0).drew
      have HS := hide (hS.all D0); have HX := hide (hx.below D0)
      have hg := hS.2.2.2.2
      have hbg : b < g := by have := unhide HBW; omega
      have HK := hide (fun w' (hb : Below g W0 w') => (show Below g W0 w' ∧ w'.cell? ⟨w.heap.size, 2, none⟩ = some (.slice (some ⟨b, off, none⟩) n cap) ∧ w'.cell? ⟨b, off + k * 3, none⟩ = some (.bool ng) ∧ w'.cell? ⟨b, off + k * 3 + 1, none⟩ = some (.slice a l cp) ∧ w'.cell? ⟨b, off + k * 3 + 2, none⟩ = some (.int .i64 X) from
        ⟨hb, (hS.1.below hb (by omega)).c2, (hb.cell (p := ⟨b, off + k * 3, none⟩) hbg).trans c0, (hb.cell (p := ⟨b, off + k * 3 + 1, none⟩) hbg).trans c1, (hb.cell (p := ⟨b, off + k * 3 + 2, none⟩) hbg).trans c2⟩))
      clear hS hx c0 c1 c2 D0 hg hbg
      go_region_held3 (fun w' => Below g W0 w' ∧ w'.cell? ⟨w.heap.size, 2, none⟩ = some (.slice (some ⟨b, off, none⟩) n cap) ∧ w'.cell? ⟨b, off + k * 3, none⟩ = some (.bool ng) ∧ w'.cell? ⟨b, off + k * 3 + 1, none⟩ = some (.slice a l cp) ∧ w'.cell? ⟨b, off + k * 3 + 2, none⟩ = some (.int .i64 X))
        (first | exact unhide HK _ (Below.refl _ _).drew | exact unhide HK _ (by assumption) | fail "KK")
        (first | (go_at_call 123; refine (unhide C2 _ _ _ (unhide HS).2.2.2.1 (unhide HS).2.2.1 (unhide HX) (unhide HX)).mono ?_; rintro e w4 ⟨rfl, hk4, hb4⟩; have hB4 : Below g W0 w4 := ((Below.refl g W0).drew).trans hb4; have HS4 := hide ((unhide HS).add hk4 hb4); clear hk4 hb4 C2 HS HX) | fail "NO ARM")
      all_goals
        go_wp2_with fail
        go_round
        case rel => exact ⟨k + 1, by omega, by go_num, HS4⟩
        case measure => simp [intOf]; omega
    · have hkk : k = n := by omega
      subst hkk
      have KT := hide (fun w' (hw : SqSt w w' r c k cap ao g lo2 (s k)) => gtold_any g lo2 (s k) w' hw.2.2.1)
      go_wp2_with fail
      refine (unhide KT _ (unhide hS)).mono ?_
      rintro e w2 ⟨v, rfl, ⟨n5, a5, c5, L5, rfl, i5⟩, hb2⟩
      have hq : IsLv w2 (.agg #[.bool n5, .slice a5 L5.length c5, .int .i64 (oE (s k) lo2)]) lo2 (s k) := ⟨n5, a5, c5, L5, rfl, i5⟩
      generalize L5.length = l5 at *
      generalize oE (s k) lo2 = X5 at *
      have st := (unhide hS).all hb2
      have y0 := st.2.1.c0; have y1 := st.2.1.c1; have y2 := st.2.1.c2; have f0 := st.2.1.free 0; have f1 := st.2.1.free 1; have f2 := st.2.1.free 2
      have xp := st.2.1.put (.bool n5) (.slice a5 l5 c5) (.int .i64 X5)
      have z0 := xp.c0; have z1 := xp.c1; have z2 := xp.c2
      have QP := hide (IsDy.put3 hq st.2.1 (.bool n5) (.slice a5 l5 c5) (.int .i64 X5))
      have BP := hide (below_put3 st.2.2.2.1 (show w.heap.size ≤ w.heap.size + 1 by omega) (.bool n5) (.slice a5 l5 c5) (.int .i64 X5))
      clear hq i5 st xp hb2 hS KT
      go_wp2
      exact bodyPost_ret (v := .agg #[.bool n5, .slice a5 l5 c5, .int .i64 X5]) (by simp [results, Tryz.results33, go_sem, z0, z1, z2]) rfl ⟨_, rfl, unhide QP, unhide BP⟩

/-- The sum of all squares. -/
theorem square_any (r c n cap : Nat) (ao : Option Addr) (lo : Int) (W : Nat) (f : Nat → Int) (w : World) (h : DysAt w ao cap n lo f) (hn : n ≤ 36) (hW : ∀ k, k < n → Lvl lo W (f k)) (b1 : -16384 ≤ lo + lo) (b2 : lo + lo + (W + W + 6 : Nat) ≤ 16384) (b3 : W + W + 6 ≤ 16384) (hT : Tab w) :
    Calls Tryz.prog 33 #[.agg #[.int .i64 r, .int .i64 c, .slice ao n cap]] w fun e w' => ∃ v, e = .returned v ∧ IsLv w' v (lo + lo) (smI (fun p => f p * f p) n) ∧ Below w.heap.size w w' := by
  refine square_of r c n cap ao lo (lo + lo) f (fun k => smI (fun p => f p * f p) k) w h hn rfl ?_
  have hp : ∀ p, p < n → (f p * f p).natAbs < 2 ^ (W + W) := fun p hp => by
    rw [Int.natAbs_mul]; exact mul_lt_pow (hW p hp).1 (hW p hp).1
  have hs : ∀ k, k ≤ n → Lvl (lo + lo) (W + W + 6) (smI (fun p => f p * f p) k) := fun k hk => by
    refine ⟨?_, b1, b2, b3⟩
    have a := smI_abs (f := fun p => f p * f p) (B := 2 ^ (W + W) - 1) k (fun i hi => Nat.le_sub_one_of_lt (hp i (by omega)))
    have q := Nat.two_pow_pos (W + W)
    have e : (2 : Nat) ^ (W + W + 6) = 64 * 2 ^ (W + W) := by rw [Nat.pow_add _ _ 6]; omega
    rw [e]
    generalize (2 : Nat) ^ (W + W) = P at *
    have : k * (P - 1) ≤ 36 * (P - 1) := Nat.mul_le_mul_right _ (by omega)
    omega
  intro w' g k v u hb hk hkp hv hu
  have l3 : Lvl (lo + lo) (W + W + 6) (f k * f k) := ⟨Nat.lt_of_lt_of_le (hp k hk) (Nat.pow_le_pow_right (by decide) (by omega)), b1, b2, b3⟩
  exact add1_any rfl hkp hv hu (hW k hk) (hW k hk) l3 (hs k (by omega)) rfl (hs (k + 1) (by omega)) (hT.all hb)

end Go.Proofs.YtfnnbkclnflpfaaGreatDoor

/- Package certify: turned, less, times by letters. -/
namespace Go.Proofs.YtfnnbkclnflpfaaGreatDoor
open Go.RowKit
attribute [local go_sem ↓] Go.wp_at_zero Go.wp_at_succ
/-- Behind less's region: the difference in its box, the answer's box. -/
def LsSt (w : World) (n5 : Bool) (a5 : Option Addr) (l5 c5 : Nat) (X5 lo z : Int) (g : Nat) (W : World) : Prop :=
  Below w.heap.size w W ∧ Box3 W w.heap.size (.bool false) (.slice none 0 0) (.int .i64 0) ∧ Box3 W g (.bool n5) (.slice a5 l5 c5) (.int .i64 X5) ∧ IsLv W (.agg #[.bool n5, .slice a5 l5 c5, .int .i64 X5]) lo z ∧ w.heap.size < g

set_option maxRecDepth 20000 in
set_option maxHeartbeats 8000000 in
theorem less1_of (r c na ca ba s d nb cb bb i k : Nat) (ao bo : Option Addr) (lo za zb z : Int) (w : World)
    (xa : BoxT 61 w ba (.int .i64 r) (.int .i64 c) (.slice ao na ca)) (xb : BoxT 61 w bb (.int .i64 s) (.int .i64 d) (.slice bo nb cb))
    (CA : ∀ w', Below w.heap.size w w' → Calls Tryz.prog 86 #[.agg #[.int .i64 r, .int .i64 c, .slice ao na ca], .int .i64 i, .int .i64 k] w' fun e w'' => ∃ v, e = .returned v ∧ IsLv w'' v lo za ∧ Below w'.heap.size w' w'')
    (CB : ∀ w', Below w.heap.size w w' → Calls Tryz.prog 86 #[.agg #[.int .i64 s, .int .i64 d, .slice bo nb cb], .int .i64 i, .int .i64 k] w' fun e w'' => ∃ v, e = .returned v ∧ IsLv w'' v lo zb ∧ Below w'.heap.size w' w'')
    (CS : ∀ w' v u, Below w.heap.size w w' → IsLv w' v lo za → IsLv w' u lo zb → Calls Tryz.prog 85 #[v, u] w' fun e w'' => ∃ q, e = .returned (.tuple #[q, .int .i64 0]) ∧ IsLv w'' q lo z ∧ Below w'.heap.size w' w'') :
    Calls Tryz.prog 84 #[.int .i64 i, .int .i64 k, .pointer (some ⟨ba, 0, none⟩), .pointer (some ⟨bb, 0, none⟩)] w fun e w' => ∃ v, e = .returned v ∧ IsLv w' v lo z ∧ Below w.heap.size w w' := by
  have b0 := below_alloc9 w (.cells #[.bool false, .slice none 0 0, .int .i64 0] 29)
  have x0 := Box3.new w (.bool false) (.slice none 0 0) (.int .i64 0)
  have ya := xa.all b0; have yb := xb.all b0
  have YA := hide ya; have YB := hide yb; have X0 := hide x0; have B0 := hide b0
  have K1 := hide CA; have K2 := hide CB; have K3 := hide CS
  clear b0 x0 ya yb xa xb CA CB CS
  go_enter Tryz.func84, Tryz.ntmps84
  go_wp2_with fail
  refine at_world (fun W => Below w.heap.size w W ∧ Box3 W w.heap.size (.bool false) (.slice none 0 0) (.int .i64 0) ∧ BoxT 61 W ba (.int .i64 r) (.int .i64 c) (.slice ao na ca) ∧ BoxT 61 W bb (.int .i64 s) (.int .i64 d) (.slice bo nb cb)) ⟨unhide B0, unhide X0, unhide YA, unhide YB⟩ ?_
  clear B0 X0 YA YB
  rintro W0 ⟨b0, x0, ya, yb⟩
  have HK := hide (fun w' (h : Below W0.heap.size W0 w') => (show Below W0.heap.size W0 w' ∧ w'.cell? ⟨ba, 0, none⟩ = some (.int .i64 r) ∧ w'.cell? ⟨ba, 1, none⟩ = some (.int .i64 c) ∧ w'.cell? ⟨ba, 2, none⟩ = some (.slice ao na ca) ∧ w'.cell? ⟨bb, 0, none⟩ = some (.int .i64 s) ∧ w'.cell? ⟨bb, 1, none⟩ = some (.int .i64 d) ∧ w'.cell? ⟨bb, 2, none⟩ = some (.slice bo nb cb) from
    ⟨h, (ya.all h).c0, (ya.all h).c1, (ya.all h).c2, (yb.all h).c0, (yb.all h).c1, (yb.all h).c2⟩))
  have C1 := hide (fun w' (h : Below W0.heap.size W0 w') => unhide K1 w' (b0.trans (h.mono b0.size)))
  have C2 := hide (fun w' (h : Below W0.heap.size W0 w') => unhide K2 w' (b0.trans (h.mono b0.size)))
  have C3 := hide (fun w' v u (h : Below W0.heap.size W0 w') => unhide K3 w' v u (b0.trans (h.mono b0.size)))
  have HT := hide (fun (W : World) (g : Nat) {n5 : Bool} {a5 : Option Addr} {l5 c5 : Nat} {X5 : Int} (h1 : Below W0.heap.size W0 W) (h3 : Box3 W g (.bool n5) (.slice a5 l5 c5) (.int .i64 X5)) (h4 : IsLv W (.agg #[.bool n5, .slice a5 l5 c5, .int .i64 X5]) lo z) (h5 : W0.heap.size ≤ g) =>
    (show LsSt w n5 a5 l5 c5 X5 lo z g W from ⟨b0.trans (h1.mono b0.size), x0.all h1, h3, h4, Nat.lt_of_lt_of_le x0.lt h5⟩))
  have HKA := hide (fun wn o (h1 : Below W0.heap.size W0 wn) => unhide HK (wn.alloc o) (h1.alloc h1.size o))
  have HKS := hide (fun wn g u u' u'' (h1 : Below W0.heap.size W0 wn) (h4 : W0.heap.size ≤ g) => unhide HK (((wn.setCell ⟨g, 0, none⟩ u).setCell ⟨g, 1, none⟩ u').setCell ⟨g, 2, none⟩ u'') (below_put3 h1 h4 u u' u''))
  have BXA := hide (fun wn (h1 : Below (W0.drew.alloc (.cells #[.bool false, .slice none 0 0, .int .i64 0] 29)).heap.size (W0.drew.alloc (.cells #[.bool false, .slice none 0 0, .int .i64 0] 29)) wn) => (Box3.new W0.drew (.bool false) (.slice none 0 0) (.int .i64 0)).below h1 (by simp))
  have BXB := hide (fun wn wm (h2 : Below (wn.alloc (.cells #[.bool false, .slice none 0 0, .int .i64 0] 29)).heap.size (wn.alloc (.cells #[.bool false, .slice none 0 0, .int .i64 0] 29)) wm) => (Box3.new wn (.bool false) (.slice none 0 0) (.int .i64 0)).below h2 (by simp))
  clear b0 x0 ya yb K1 K2 K3
  go_region_held3 (fun w' => Below W0.heap.size W0 w' ∧ w'.cell? ⟨ba, 0, none⟩ = some (.int .i64 r) ∧ w'.cell? ⟨ba, 1, none⟩ = some (.int .i64 c) ∧ w'.cell? ⟨ba, 2, none⟩ = some (.slice ao na ca) ∧ w'.cell? ⟨bb, 0, none⟩ = some (.int .i64 s) ∧ w'.cell? ⟨bb, 1, none⟩ = some (.int .i64 d) ∧ w'.cell? ⟨bb, 2, none⟩ = some (.slice bo nb cb))
    (first | assumption | exact unhide HK _ (Below.refl _ _).drew | exact unhide HK _ (by assumption) | exact unhide HKA _ _ (by assumption) | exact unhide HKA _ _ (And.left (by assumption)) | exact unhide HKS _ _ _ _ _ hBwm (by first | exact Nat.le_refl _ | exact Below.size (by assumption)) | fail "KK")
    (first
      | (go_at_call_of 86 ao; refine (unhide C1 _ (And.left (by assumption))).mono ?_; rintro e wa ⟨va, rfl, qa, hb1⟩; have hBwa : Below W0.heap.size W0 wa := Below.trans (And.left (by assumption)) (hb1.mono (Below.size (And.left (by assumption)))); (first | (have xb := Box3.below xb hb1 xb.lt) | (have xb : Box3 wa W0.heap.size (.bool false) (.slice none 0 0) (.int .i64 0) := unhide BXA _ hb1) | (have xb := unhide BXB _ _ hb1) | skip); (first | (replace QB := hide ((unhide QB).below hb1)) | (replace QB := hide (((unhide QB).below (below_alloc9 _ _)).below hb1)) | skip); have QA := hide qa; clear qa hb1)
      | (go_at_call_of 86 bo; refine (unhide C2 _ (And.left (by assumption))).mono ?_; rintro e wd ⟨vd, rfl, qb, hb1⟩; have hBwd : Below W0.heap.size W0 wd := Below.trans (And.left (by assumption)) (hb1.mono (Below.size (And.left (by assumption)))); (first | (have xb := Box3.below xb hb1 xb.lt) | (have xb : Box3 wd W0.heap.size (.bool false) (.slice none 0 0) (.int .i64 0) := unhide BXA _ hb1) | (have xb := unhide BXB _ _ hb1) | skip); (first | (replace QA := hide ((unhide QA).below hb1)) | (replace QA := hide (((unhide QA).below (below_alloc9 _ _)).below hb1)) | skip); have QB := hide qb; clear qb hb1)
      | (go_at_call 85; refine (unhide C3 _ _ _ (And.left (by assumption)) (by first | exact unhide QA | exact (unhide QA).below (below_alloc9 _ _)) (by first | exact unhide QB | exact (unhide QB).below (below_alloc9 _ _))).mono ?_; rintro e wm ⟨q, rfl, ⟨n5, a5, c5, L5, rfl, i5⟩, hb1⟩; have hBwm : Below W0.heap.size W0 wm := Below.trans (And.left (by assumption)) (hb1.mono (Below.size (And.left (by assumption)))); (first | (have xb := Box3.below xb hb1 xb.lt) | (have xb : Box3 wm W0.heap.size (.bool false) (.slice none 0 0) (.int .i64 0) := unhide BXA _ hb1) | (have xb := unhide BXB _ _ hb1) | skip); have IP := hide (show IsLv wm (.agg #[.bool n5, .slice a5 L5.length c5, .int .i64 (oE z lo)]) lo z from ⟨n5, a5, c5, L5, rfl, i5⟩); (first | (have y0 := xb.c0; have y1 := xb.c1; have y2 := xb.c2; have f0 := xb.free 0; have f1 := xb.free 1; have f2 := xb.free 2) | skip); clear i5 hb1)
      | fail "NO ARM")
  all_goals
    first
      | (refine at_thenB (LsSt _ _ _ _ _ _ _ _ W0.heap.size) (unhide HT _ _ (And.left (by assumption)) (xb.put _ _ _) (IsDy.put3 (unhide IP) xb _ _ _) (by first | exact Nat.le_refl _ | exact Below.size (by assumption))) ?_; rintro W1 ⟨b5, x5, xg, ig, hg⟩; generalize W0.heap.size = g at *)
      | (refine at_thenB (LsSt _ _ _ _ _ _ _ _ wa.heap.size) (unhide HT _ _ (And.left (by assumption)) (xb.put _ _ _) (IsDy.put3 (unhide IP) xb _ _ _) (by first | exact Nat.le_refl _ | exact Below.size (by assumption))) ?_; rintro W1 ⟨b5, x5, xg, ig, hg⟩; generalize wa.heap.size = g at *)
      | (refine at_thenB (LsSt _ _ _ _ _ _ _ _ wd.heap.size) (unhide HT _ _ (And.left (by assumption)) (xb.put _ _ _) (IsDy.put3 (unhide IP) xb _ _ _) (by first | exact Nat.le_refl _ | exact Below.size (by assumption))) ?_; rintro W1 ⟨b5, x5, xg, ig, hg⟩; generalize wd.heap.size = g at *)
      | (refine at_thenB (LsSt _ _ _ _ _ _ _ _ wm.heap.size) (unhide HT _ _ (And.left (by assumption)) (Box3.new _ _ _ _) ((unhide IP).below (below_alloc9 _ _)) (Below.size (by assumption))) ?_; rintro W1 ⟨b5, x5, xg, ig, hg⟩; generalize wm.heap.size = g at *)
      | fail "NO WAY"
  all_goals
    try clear y0 y1 y2 f0 f1 f2
    try clear xb
    clear HT HK HKA HKS BXA BXB C1 C2 C3 IP QA QB hBwa hBwd hBwm
    generalize L5.length = l5 at *
    generalize oE z lo = X5 at *
    have g0 := xg.c0; have g1 := xg.c1; have g2 := xg.c2
    have y0 := x5.c0; have y1 := x5.c1; have y2 := x5.c2; have f0 := x5.free 0; have f1 := x5.free 1; have f2 := x5.free 2
    have xp := x5.put (.bool n5) (.slice a5 l5 c5) (.int .i64 X5)
    have z0 := xp.c0; have z1 := xp.c1; have z2 := xp.c2
    have HV := hide (IsDy.put3 ig x5 (.bool n5) (.slice a5 l5 c5) (.int .i64 X5))
    have HB := hide (below_put3 b5 (Nat.le_refl _) (.bool n5) (.slice a5 l5 c5) (.int .i64 X5))
    clear b5 x5 xg ig xp
    go_wp2
    exact bodyPost_ret (v := .agg #[.bool n5, .slice a5 l5 c5, .int .i64 X5]) (by simp [results, Tryz.results84, go_sem, z0, z1, z2]) rfl ⟨_, rfl, unhide HV, unhide HB⟩

end Go.Proofs.YtfnnbkclnflpfaaGreatDoor

/- Package certify: times. -/
namespace Go.Proofs.YtfnnbkclnflpfaaGreatDoor
open Go.RowKit
attribute [local go_sem ↓] Go.wp_at_zero Go.wp_at_succ

/-- What holds in times's closure: the answer's box, the sum. -/
def TmSt (w wr : World) (g : Nat) (lo s : Int) : Prop :=
  Box3 wr w.heap.size (.bool false) (.slice none 0 0) (.int .i64 0) ∧ Kept wr g lo s ∧ Below w.heap.size w wr ∧ w.heap.size < g
theorem TmSt.all {w wr w' : World} {g : Nat} {lo s : Int} (h : TmSt w wr g lo s) (hb : Below wr.heap.size wr w') : TmSt w w' g lo s :=
  ⟨h.1.all hb, h.2.1.all hb, h.2.2.1.trans (hb.mono h.2.2.1.size), h.2.2.2⟩
theorem TmSt.add {w wr w' : World} {g : Nat} {lo s t : Int} (h : TmSt w wr g lo s) (hk : Kept w' g lo t) (hb : Below g wr w') : TmSt w w' g lo t := by
  have hg := h.2.2.2
  exact ⟨h.1.below hb (by omega), hk, h.2.2.1.trans (hb.mono (by omega)), hg⟩
theorem TmSt.start (w : World) (lo : Int) (g : Nat) (hg : g = (w.alloc (.cells #[.bool false, .slice none 0 0, .int .i64 0] 29)).heap.size) : TmSt w ((w.alloc (.cells #[.bool false, .slice none 0 0, .int .i64 0] 29)).alloc (.cells #[.bool false, .slice none 0 0, .int .i64 0] 29)) g lo 0 := by
  have b1 := below_alloc9 w (.cells #[.bool false, .slice none 0 0, .int .i64 0] 29)
  have s1 := size_alloc9 w (.cells #[.bool false, .slice none 0 0, .int .i64 0] 29)
  have x1 := Box3.new w (.bool false) (.slice none 0 0) (.int .i64 0)
  generalize w.alloc (.cells #[.bool false, .slice none 0 0, .int .i64 0] 29) = w1 at *
  have b2 := below_alloc9 w1 (.cells #[.bool false, .slice none 0 0, .int .i64 0] 29)
  have k2 := Kept.new w1 lo
  rw [← hg] at k2
  exact ⟨x1.all b2, k2, b1.trans (b2.mono b1.size), by omega⟩

set_option maxRecDepth 20000 in
set_option maxHeartbeats 8000000 in
theorem gtimes1_of (r n na ca ba s d nb cb bb i k : Nat) (ao bo : Option Addr) (lo1 lo2 lo : Int) (fa fb sm : Nat → Int) (w : World) (hn : n ≤ 6) (h0 : sm 0 = 0)
    (xa : BoxT 61 w ba (.int .i64 r) (.int .i64 n) (.slice ao na ca)) (xb : BoxT 61 w bb (.int .i64 s) (.int .i64 d) (.slice bo nb cb))
    (CA : ∀ w' j, Below w.heap.size w w' → j < n → Calls Tryz.prog 86 #[.agg #[.int .i64 r, .int .i64 n, .slice ao na ca], .int .i64 i, .int .i64 (j : Nat)] w' fun e w'' => ∃ v, e = .returned v ∧ IsLv w'' v lo1 (fa j) ∧ Below w'.heap.size w' w'')
    (CB : ∀ w' j, Below w.heap.size w w' → j < n → Calls Tryz.prog 86 #[.agg #[.int .i64 s, .int .i64 d, .slice bo nb cb], .int .i64 (j : Nat), .int .i64 k] w' fun e w'' => ∃ v, e = .returned v ∧ IsLv w'' v lo2 (fb j) ∧ Below w'.heap.size w' w'')
    (CC : ∀ w' g j v u, Below w.heap.size w w' → j < n → Kept w' g lo (sm j) → IsLv w' v lo1 (fa j) → IsLv w' u lo2 (fb j) → Calls Tryz.prog 123 #[v, u, .pointer (some ⟨g, 0, none⟩)] w' fun e w'' => e = .returned (.tuple #[]) ∧ Kept w'' g lo (sm (j + 1)) ∧ Below g w' w'') :
    Calls Tryz.prog 87 #[.int .i64 i, .int .i64 k, .pointer (some ⟨ba, 0, none⟩), .pointer (some ⟨bb, 0, none⟩)] w fun e w' => ∃ v, e = .returned v ∧ IsLv w' v lo (sm n) ∧ Below w.heap.size w w' := by
  have K1 := hide CA; have K2 := hide CB; have K3 := hide CC
  have KG := hide (gathering_any (w.alloc (.cells #[.bool false, .slice none 0 0, .int .i64 0] 29)))
  obtain ⟨g, hg⟩ : ∃ g, g = (w.alloc (.cells #[.bool false, .slice none 0 0, .int .i64 0] 29)).heap.size := ⟨_, rfl⟩
  have ST := hide (show TmSt w _ g lo (sm 0) from by rw [h0]; exact TmSt.start w lo g hg)
  rw [← hg] at KG
  have XA := hide xa; have XB := hide xb
  clear CA CB CC h0 hg xa xb
  go_enter Tryz.func87, Tryz.ntmps87
  go_wp2_with fail
  refine Calls.mono (unhide KG) ?_
  rintro e w1 ⟨rfl, rfl⟩
  clear KG
  have y2 := ((unhide XA).all (unhide ST).2.2.1).c1
  go_wp2_with fail
  clear y2
  go_loopw [16] (fun i wr => ∃ j : Nat, j ≤ n ∧ i = .int .i64 j ∧ Hid (TmSt w wr g lo (sm j))) (fun i _ => n - (intOf i).toNat)
  case atStart => exact ⟨0, Nat.zero_le _, rfl, ST⟩
  case round =>
    clear ST
    obtain ⟨j, hj, rfl, hS⟩ := hrel
    by_cases hlt : j < n
    · have hkI : (j : Int) < (n : Int) := by omega
      have C1 := hide (fun w' h => unhide K1 w' j h hlt)
      have C2 := hide (fun w' h => unhide K2 w' j h hlt)
      have C3 := hide (fun w' v u h1 => unhide K3 w' g j v u h1 hlt)
      have gt := (unhide hS).2.2.2
      have la := (unhide XA).lt
      have lb := (unhide XB).lt
      have HGA := hide (show ba < g by omega); have HGB := hide (show bb < g by omega)
      clear gt la lb
      go_wp2_with fail
      refine at_world (fun W => TmSt w W g lo (sm j)) (unhide hS) ?_
      clear hS
      rintro W0 hS
      have D0 := (Below.refl W0.heap.size W0).drew
      have HS := hide (hS.all D0)
      have HK := hide (fun w' (hb : Below g W0 w') => (show Below g W0 w' ∧ w'.cell? ⟨ba, 0, none⟩ = some (.int .i64 r) ∧ w'.cell? ⟨ba, 1, none⟩ = some (.int .i64 n) ∧ w'.cell? ⟨ba, 2, none⟩ = some (.slice ao na ca) ∧ w'.cell? ⟨bb, 0, none⟩ = some (.int .i64 s) ∧ w'.cell? ⟨bb, 1, none⟩ = some (.int .i64 d) ∧ w'.cell? ⟨bb, 2, none⟩ = some (.slice bo nb cb) from
        ⟨hb, (((unhide XA).all hS.2.2.1).below hb (unhide HGA)).c0, (((unhide XA).all hS.2.2.1).below hb (unhide HGA)).c1, (((unhide XA).all hS.2.2.1).below hb (unhide HGA)).c2, (((unhide XB).all hS.2.2.1).below hb (unhide HGB)).c0, (((unhide XB).all hS.2.2.1).below hb (unhide HGB)).c1, (((unhide XB).all hS.2.2.1).below hb (unhide HGB)).c2⟩))
      clear hS D0
      go_region_held3 (fun w' => Below g W0 w' ∧ w'.cell? ⟨ba, 0, none⟩ = some (.int .i64 r) ∧ w'.cell? ⟨ba, 1, none⟩ = some (.int .i64 n) ∧ w'.cell? ⟨ba, 2, none⟩ = some (.slice ao na ca) ∧ w'.cell? ⟨bb, 0, none⟩ = some (.int .i64 s) ∧ w'.cell? ⟨bb, 1, none⟩ = some (.int .i64 d) ∧ w'.cell? ⟨bb, 2, none⟩ = some (.slice bo nb cb))
        (first | exact unhide HK _ (Below.refl _ _).drew | exact unhide HK _ (by assumption) | fail "KK")
        (first
          | (go_at_call_of 86 ao; refine (unhide C1 _ (unhide HS).2.2.1).mono ?_; rintro e wa ⟨va, rfl, qa, hb1⟩; have hBwa : Below g W0 wa := Below.trans (And.left (by assumption)) (hb1.mono (Nat.le_of_lt (unhide HS).2.1.lt)); (first | (replace QB := hide ((unhide QB).below hb1)) | skip); replace HS := hide ((unhide HS).all hb1); have QA := hide qa; clear qa hb1)
          | (go_at_call_of 86 bo; refine (unhide C2 _ (unhide HS).2.2.1).mono ?_; rintro e wd ⟨vd, rfl, qb, hb1⟩; have hBwd : Below g W0 wd := Below.trans (And.left (by assumption)) (hb1.mono (Nat.le_of_lt (unhide HS).2.1.lt)); (first | (replace QA := hide ((unhide QA).below hb1)) | skip); replace HS := hide ((unhide HS).all hb1); have QB := hide qb; clear qb hb1)
          | (go_at_call 123; refine (unhide C3 _ _ _ (unhide HS).2.2.1 (unhide HS).2.1 (unhide QA) (unhide QB)).mono ?_; rintro e w4 ⟨rfl, hk4, hb4⟩; have hB4 : Below g W0 w4 := Below.trans (And.left (by assumption)) hb4; have HS4 := hide ((unhide HS).add hk4 hb4); clear hk4 hb4 HS)
          | fail "NO ARM")
      all_goals
        go_wp2_with fail
        go_round
        case rel => exact ⟨j + 1, by omega, by go_num, HS4⟩
        case measure => simp [intOf]; omega
    · have hkk : j = n := by omega
      subst hkk
      have KT := hide (fun w' (hw : TmSt w w' g lo (sm j)) => gtold_any g lo (sm j) w' hw.2.1)
      go_wp2_with fail
      refine (unhide KT _ (unhide hS)).mono ?_
      rintro e w2 ⟨v, rfl, ⟨n5, a5, c5, L5, rfl, i5⟩, hb2⟩
      have hq : IsLv w2 (.agg #[.bool n5, .slice a5 L5.length c5, .int .i64 (oE (sm j) lo)]) lo (sm j) := ⟨n5, a5, c5, L5, rfl, i5⟩
      generalize L5.length = l5 at *
      generalize oE (sm j) lo = X5 at *
      have st := (unhide hS).all hb2
      have y0 := st.1.c0; have y1 := st.1.c1; have y2 := st.1.c2; have f0 := st.1.free 0; have f1 := st.1.free 1; have f2 := st.1.free 2
      have xp := st.1.put (.bool n5) (.slice a5 l5 c5) (.int .i64 X5)
      have z0 := xp.c0; have z1 := xp.c1; have z2 := xp.c2
      have QP := hide (IsDy.put3 hq st.1 (.bool n5) (.slice a5 l5 c5) (.int .i64 X5))
      have BP := hide (below_put3 st.2.2.1 (Nat.le_refl _) (.bool n5) (.slice a5 l5 c5) (.int .i64 X5))
      clear hq i5 st xp hb2 hS KT
      go_wp2
      exact bodyPost_ret (v := .agg #[.bool n5, .slice a5 l5 c5, .int .i64 X5]) (by simp [results, Tryz.results87, go_sem, z0, z1, z2]) rfl ⟨_, rfl, unhide QP, unhide BP⟩

end Go.Proofs.YtfnnbkclnflpfaaGreatDoor

/- Package certify: turned, less, times of grids. -/
namespace Go.Proofs.YtfnnbkclnflpfaaGreatDoor
open Go.RowKit
attribute [local go_sem ↓] Go.wp_at_zero Go.wp_at_succ

/-- Two grids' boxes and the answer's. -/
theorem boxesG (w : World) (r c na ca s d nb cb : Nat) (ao bo : Option Addr) : ∃ w2, ((w.alloc (.cells #[.int .i64 r, .int .i64 c, .slice ao na ca] 61)).alloc (.cells #[.int .i64 s, .int .i64 d, .slice bo nb cb] 61)).alloc (.cells #[.int .i64 0, .int .i64 0, .slice none 0 0] 61) = w2 ∧ BoxT 61 w2 w.heap.size (.int .i64 r) (.int .i64 c) (.slice ao na ca) ∧ BoxT 61 w2 (w.heap.size + 1) (.int .i64 s) (.int .i64 d) (.slice bo nb cb) ∧ BoxT 61 w2 (w.heap.size + 1 + 1) (.int .i64 0) (.int .i64 0) (.slice none 0 0) ∧ Below w.heap.size w w2 := by
  refine ⟨_, rfl, ?_⟩
  have b0 := below_alloc9 w (.cells #[.int .i64 r, .int .i64 c, .slice ao na ca] 61)
  have s0 := size_alloc9 w (.cells #[.int .i64 r, .int .i64 c, .slice ao na ca] 61)
  have x0 := BoxT.new 61 w (.int .i64 r) (.int .i64 c) (.slice ao na ca)
  generalize w.alloc (.cells #[.int .i64 r, .int .i64 c, .slice ao na ca] 61) = w0 at *
  have b1 := below_alloc9 w0 (.cells #[.int .i64 s, .int .i64 d, .slice bo nb cb] 61)
  have s1 := size_alloc9 w0 (.cells #[.int .i64 s, .int .i64 d, .slice bo nb cb] 61)
  have x1 := BoxT.new 61 w0 (.int .i64 s) (.int .i64 d) (.slice bo nb cb)
  generalize w0.alloc (.cells #[.int .i64 s, .int .i64 d, .slice bo nb cb] 61) = w1 at *
  have b2 := below_alloc9 w1 (.cells #[.int .i64 0, .int .i64 0, .slice none 0 0] 61)
  have x2 := BoxT.new 61 w1 (.int .i64 0) (.int .i64 0) (.slice none 0 0)
  rw [s1, s0] at x2
  rw [s0] at x1
  exact ⟨(x0.all b1).all b2, x1.all b2, x2, (b0.trans (b1.mono b0.size)).trans (b2.mono (Nat.le_trans b0.size b1.size))⟩

set_option maxRecDepth 20000 in
set_option maxHeartbeats 4000000 in
theorem gless_of (r c na ca s d nb cb : Nat) (ao bo : Option Addr) (lo : Int) (F : Nat → Nat → Int) (w : World)
    (C : ∀ w2, BoxT 61 w2 w.heap.size (.int .i64 r) (.int .i64 c) (.slice ao na ca) → BoxT 61 w2 (w.heap.size + 1) (.int .i64 s) (.int .i64 d) (.slice bo nb cb) → Below w.heap.size w w2 → Calls Tryz.prog 78 #[.int .i64 r, .int .i64 c, .func (.func 84) #[] #[.pointer (some ⟨w.heap.size, 0, none⟩), .pointer (some ⟨w.heap.size + 1, 0, none⟩)]] w2 fun e w'' => ∃ go q, e = .returned (.agg #[.int .i64 r, .int .i64 c, .slice go (r * c) q]) ∧ Gr w'' go q r c lo F ∧ Below w2.heap.size w2 w'') :
    Calls Tryz.prog 36 #[.agg #[.int .i64 r, .int .i64 c, .slice ao na ca], .agg #[.int .i64 s, .int .i64 d, .slice bo nb cb]] w fun e w' => ∃ go q, e = .returned (.agg #[.int .i64 r, .int .i64 c, .slice go (r * c) q]) ∧ Gr w' go q r c lo F ∧ Below w.heap.size w w' := by
  obtain ⟨w2, e2, x0, x1, x2, bb⟩ := boxesG w r c na ca s d nb cb ao bo
  have K := hide (C w2 x0 x1 bb)
  have X2 := hide x2; have BB := hide bb
  rw [← e2] at x0 x1
  have a0 := x0.c0; have a1 := x0.c1; have d0 := x1.c0; have d1 := x1.c1
  rw [← e2] at K X2 BB
  clear x0 x1 x2 bb C e2
  go_enter Tryz.func36, Tryz.ntmps36
  go_wp2_with fail
  refine Calls.mono (unhide K) ?_
  rintro e w1 ⟨go, q, rfl, hz, hb1⟩
  clear a0 a1 d0 d1
  have x1 := (unhide X2).all hb1
  have y0 := x1.c0; have y1 := x1.c1; have y2 := x1.c2; have f0 := x1.free 0; have f1 := x1.free 1; have f2 := x1.free 2
  have xp := x1.put (.int .i64 r) (.int .i64 c) (.slice go (r * c) q)
  have z0 := xp.c0; have z1 := xp.c1; have z2 := xp.c2
  have PZ := hide (hz.putT x1 (r : Nat) (c : Nat) go (r * c) q)
  have PB := hide (below_putM ((unhide BB).trans (hb1.mono (unhide BB).size)) (show w.heap.size ≤ w.heap.size + 1 + 1 by omega) (.int .i64 r) (.int .i64 c) (.slice go (r * c) q))
  clear x1 xp K BB X2 hz hb1
  go_wp2
  exact bodyPost_ret (v := .agg #[.int .i64 r, .int .i64 c, .slice go (r * c) q]) (by simp [results, Tryz.results36, go_sem, z0, z1, z2]) rfl ⟨_, _, rfl, unhide PZ, unhide PB⟩

set_option maxRecDepth 20000 in
theorem cf_less1 (args : Array Value) (w : World) : (callFunc 84 args).run Tryz.prog w = .ok (.enter 84 args) w := by
  simp only [callFunc, go_sem]
  rfl

set_option maxRecDepth 20000 in
set_option maxHeartbeats 4000000 in
theorem gtimes_of (r c na ca s d nb cb : Nat) (ao bo : Option Addr) (lo : Int) (F : Nat → Nat → Int) (w : World)
    (C : ∀ w2, BoxT 61 w2 w.heap.size (.int .i64 r) (.int .i64 c) (.slice ao na ca) → BoxT 61 w2 (w.heap.size + 1) (.int .i64 s) (.int .i64 d) (.slice bo nb cb) → Below w.heap.size w w2 → Calls Tryz.prog 78 #[.int .i64 r, .int .i64 d, .func (.func 87) #[] #[.pointer (some ⟨w.heap.size, 0, none⟩), .pointer (some ⟨w.heap.size + 1, 0, none⟩)]] w2 fun e w'' => ∃ go q, e = .returned (.agg #[.int .i64 r, .int .i64 d, .slice go (r * d) q]) ∧ Gr w'' go q r d lo F ∧ Below w2.heap.size w2 w'') :
    Calls Tryz.prog 37 #[.agg #[.int .i64 r, .int .i64 c, .slice ao na ca], .agg #[.int .i64 s, .int .i64 d, .slice bo nb cb]] w fun e w' => ∃ go q, e = .returned (.agg #[.int .i64 r, .int .i64 d, .slice go (r * d) q]) ∧ Gr w' go q r d lo F ∧ Below w.heap.size w w' := by
  obtain ⟨w2, e2, x0, x1, x2, bb⟩ := boxesG w r c na ca s d nb cb ao bo
  have K := hide (C w2 x0 x1 bb)
  have X2 := hide x2; have BB := hide bb
  rw [← e2] at x0 x1
  have a0 := x0.c0; have a1 := x0.c1; have d0 := x1.c0; have d1 := x1.c1
  rw [← e2] at K X2 BB
  clear x0 x1 x2 bb C e2
  go_enter Tryz.func37, Tryz.ntmps37
  go_wp2_with fail
  refine Calls.mono (unhide K) ?_
  rintro e w1 ⟨go, q, rfl, hz, hb1⟩
  clear a0 a1 d0 d1
  have x1 := (unhide X2).all hb1
  have y0 := x1.c0; have y1 := x1.c1; have y2 := x1.c2; have f0 := x1.free 0; have f1 := x1.free 1; have f2 := x1.free 2
  have xp := x1.put (.int .i64 r) (.int .i64 d) (.slice go (r * d) q)
  have z0 := xp.c0; have z1 := xp.c1; have z2 := xp.c2
  have PZ := hide (hz.putT x1 (r : Nat) (d : Nat) go (r * d) q)
  have PB := hide (below_putM ((unhide BB).trans (hb1.mono (unhide BB).size)) (show w.heap.size ≤ w.heap.size + 1 + 1 by omega) (.int .i64 r) (.int .i64 d) (.slice go (r * d) q))
  clear x1 xp K BB X2 hz hb1
  go_wp2
  exact bodyPost_ret (v := .agg #[.int .i64 r, .int .i64 d, .slice go (r * d) q]) (by simp [results, Tryz.results37, go_sem, z0, z1, z2]) rfl ⟨_, _, rfl, unhide PZ, unhide PB⟩

set_option maxRecDepth 20000 in
theorem cf_times1 (args : Array Value) (w : World) : (callFunc 87 args).run Tryz.prog w = .ok (.enter 87 args) w := by
  simp only [callFunc, go_sem]
  rfl

/-- A difference. -/
theorem less_any11 (r c ca cb : Nat) (ao bo : Option Addr) (lo : Int) (W : Nat) (F G : Nat → Nat → Int) (w : World) (h : Gr w ao ca r c lo F) (h2 : Gr w bo cb r c lo G) (hF : ∀ i k, i < r → k < c → Lvl lo W (F i k)) (hG : ∀ i k, i < r → k < c → Lvl lo W (G i k)) (hD : ∀ i k, i < r → k < c → Lvl lo W (F i k - G i k)) (hT : Tab w) :
    Calls Tryz.prog 36 #[.agg #[.int .i64 r, .int .i64 c, .slice ao (r * c) ca], .agg #[.int .i64 r, .int .i64 c, .slice bo (r * c) cb]] w fun e w' => ∃ go q, e = .returned (.agg #[.int .i64 r, .int .i64 c, .slice go (r * c) q]) ∧ Gr w' go q r c lo (fun i k => F i k - G i k) ∧ Below w.heap.size w w' := by
  refine gless_of r c (r * c) ca r c (r * c) cb ao bo lo _ w (fun w2 x0 x1 bb => ?_)
  refine buildD_any _ _ r c lo _ w2 cf_less1 h.2.1 h.2.2 (fun w' i k hb hi hk => ?_)
  have b' := bb.trans (hb.mono bb.size)
  exact less1_of r c (r * c) ca w.heap.size r c (r * c) cb (w.heap.size + 1) i k ao bo lo (F i k) (G i k) _ w' (x0.all hb) (x1.all hb)
    (fun w'' hb2 => gat_any r c ca i k ao lo F w'' ((h.below b').below hb2) hi hk) (fun w'' hb2 => gat_any r c cb i k bo lo G w'' ((h2.below b').below hb2) hi hk)
    (fun w'' v u hb2 hv hu => psubL hv hu (hF i k hi hk) (hG i k hi hk) (hD i k hi hk) ((hT.all b').all hb2))

/-- A product. -/
theorem gtimes_any (r n d ca cb : Nat) (ao bo : Option Addr) (lo1 lo2 lo : Int) (W1 W2 W : Nat) (F G : Nat → Nat → Int) (w : World) (hl : lo1 + lo2 = lo) (h : Gr w ao ca r n lo1 F) (h2 : Gr w bo cb n d lo2 G) (hF : ∀ i k, i < r → k < n → Lvl lo1 W1 (F i k)) (hG : ∀ i k, i < n → k < d → Lvl lo2 W2 (G i k)) (hP : ∀ i j k, i < r → j < n → k < d → Lvl lo W (F i j * G j k)) (hS : ∀ i k j, i < r → k < d → j ≤ n → Lvl lo W (smI (fun j => F i j * G j k) j)) (hT : Tab w) :
    Calls Tryz.prog 37 #[.agg #[.int .i64 r, .int .i64 n, .slice ao (r * n) ca], .agg #[.int .i64 n, .int .i64 d, .slice bo (n * d) cb]] w fun e w' => ∃ go q, e = .returned (.agg #[.int .i64 r, .int .i64 d, .slice go (r * d) q]) ∧ Gr w' go q r d lo (fun i k => smI (fun j => F i j * G j k) n) ∧ Below w.heap.size w w' := by
  refine gtimes_of r n (r * n) ca n d (n * d) cb ao bo lo _ w (fun w2 x0 x1 bb => ?_)
  refine buildD_any _ _ r d lo _ w2 cf_times1 h.2.1 h2.2.2 (fun w' i k hb hi hk => ?_)
  have b' := bb.trans (hb.mono bb.size)
  exact gtimes1_of r n (r * n) ca w.heap.size n d (n * d) cb (w.heap.size + 1) i k ao bo lo1 lo2 lo (fun j => F i j) (fun j => G j k) (fun j => smI (fun j => F i j * G j k) j) w' h.2.2 rfl (x0.all hb) (x1.all hb)
    (fun w'' j hb2 hj => gat_any r n ca i j ao lo1 F w'' ((h.below b').below hb2) hi hj) (fun w'' j hb2 hj => gat_any n d cb j k bo lo2 G w'' ((h2.below b').below hb2) hj hk)
    (fun w'' g j v u hb2 hj hkp hv hu => add1_any hl hkp hv hu (hF i j hi hj) (hG j k hj hk) (hP i j k hi hj hk) (hS i k j hi hk (by omega)) rfl (hS i k (j + 1) hi hk (by omega)) ((hT.all b').all hb2))

end Go.Proofs.YtfnnbkclnflpfaaGreatDoor

