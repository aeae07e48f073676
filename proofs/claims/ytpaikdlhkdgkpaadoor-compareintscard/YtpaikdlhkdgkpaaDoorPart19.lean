/- Part 19 of the texts. -/
import Derived.Test.YtpaikdlhkdgkpaaDoorPart16
import Derived.Test.YtpaikdlhkdgkpaaDoorPart17
import Derived.Deep.Cut
import Derived.BigQuiet
/- Contracts of the reference's small, signed, bits, flags. -/
namespace Go.Proofs.YtpaikdlhkdgkpaaDoor
open Go.RowKit

set_option maxHeartbeats 2000000 in
theorem rsmall_0 (ng : Bool) (ao : Option Addr) (ca : Nat) (w : World) :
    Calls Tryd.prog 100 #[.agg #[.bool ng, .slice ao 0 ca]] w fun e w' => e = .returned (.int .u64 0) ∧ Below w.heap.size w w' := by
  go_enter Tryd.func100, Tryd.ntmps100
  go_wp2
  refine wp_loop_rounds 1 ?_
  rw [rounds_succ]
  go_wp2
  go_ret
  exact ⟨rfl, (Below.refl _ _).alloc (Nat.le_refl _) _⟩

set_option maxHeartbeats 2000000 in
theorem rsmall_1 (ng : Bool) (b off ca x : Nat) (w : World) (hx : (x : Int) < 4294967296) (c0 : (w.alloc (.cells #[.bool ng, .slice (some ⟨b, off, none⟩) 1 ca] 46)).cell? ⟨b, off, none⟩ = some (.int .u32 x)) :
    Calls Tryd.prog 100 #[.agg #[.bool ng, .slice (some ⟨b, off, none⟩) 1 ca]] w fun e w' => e = .returned (.int .u64 x) ∧ Below w.heap.size w w' := by
  have hx0 : (0 : Int) ≤ x := by omega
  go_enter Tryd.func100, Tryd.ntmps100
  go_wp2
  refine wp_loop_rounds 2 ?_
  rw [rounds_succ]
  go_wp2
  rw [rounds_succ]
  go_wp2
  go_ret
  exact ⟨by simp, (Below.refl _ _).alloc (Nat.le_refl _) _⟩

set_option maxHeartbeats 2000000 in
theorem rsmall_2 (ng : Bool) (b off ca x y : Nat) (w : World) (hx : (x : Int) < 4294967296) (hy : (y : Int) < 2147483648) (c0 : (w.alloc (.cells #[.bool ng, .slice (some ⟨b, off, none⟩) 2 ca] 46)).cell? ⟨b, off, none⟩ = some (.int .u32 x)) (c1 : (w.alloc (.cells #[.bool ng, .slice (some ⟨b, off, none⟩) 2 ca] 46)).cell? ⟨b, off + 1, none⟩ = some (.int .u32 y)) :
    Calls Tryd.prog 100 #[.agg #[.bool ng, .slice (some ⟨b, off, none⟩) 2 ca]] w fun e w' => e = .returned (.int .u64 (y * 4294967296 + x)) ∧ Below w.heap.size w w' := by
  have hx0 : (0 : Int) ≤ x := by omega
  have hy0 : (0 : Int) ≤ y := by omega
  go_enter Tryd.func100, Tryd.ntmps100
  go_wp2
  refine wp_loop_rounds 3 ?_
  rw [rounds_succ]
  go_wp2
  rw [rounds_succ]
  go_wp2
  rw [rounds_succ]
  go_wp2
  go_ret
  exact ⟨rfl, (Below.refl _ _).alloc (Nat.le_refl _) _⟩

set_option maxHeartbeats 1000000 in
theorem signed_any (b : Nat) (ng : Bool) (w : World) (h : b < 9223372036854775808) :
    Calls Tryd.prog 70 #[.int .u64 b, .bool ng] w fun e w' => e = .returned (.int .u64 (wrd ng b : Nat)) ∧ w = w' := by
  have CM := hide (fun w' => rminus4_any b w' (by omega))
  rw [fN_wrd b h] at CM
  have hw := wrd_false b
  cases ng
  · rw [hw]
    clear CM hw h
    go_enter Tryd.func70, Tryd.ntmps70
    go_wp2
    go_ret
    exact ⟨rfl, rfl⟩
  · generalize wrd true b = c at *
    clear hw h
    go_enter Tryd.func70, Tryd.ntmps70
    go_wp2_with (go_at_call 45; refine (unhide CM _).mono ?_; rintro e w2 ⟨rfl, rfl⟩)
    go_ret
    exact ⟨rfl, rfl⟩

set_option maxHeartbeats 1000000 in
theorem flags_any (b : Nat) (ex : Bool) (w : World) (h : b < 18446744073709551616) :
    Calls Tryd.prog 74 #[.int .u64 b, .bool ex] w fun e w' => e = .returned (.int .u8 (if fK b = 3 then 5 else if ex then 0 else if fK b = 2 then 1 else 3)) ∧ w = w' := by
  have CK := hide (fun w' => rkind_any b w' h)
  have hc := fK_cases b
  generalize fK b = k at *
  clear h
  by_cases h1 : k = 3
  · subst h1
    rw [if_pos rfl]
    go_enter Tryd.func74, Tryd.ntmps74
    go_wp2_with (go_at_call 33; refine (unhide CK _).mono ?_; rintro e w2 ⟨rfl, rfl⟩)
    go_ret
    exact ⟨rfl, rfl⟩
  · rw [if_neg h1]
    have g1 : (k == 3) = false := by simp; omega
    clear hc h1
    cases ex
    · by_cases h2 : k = 2
      · subst h2
        go_enter Tryd.func74, Tryd.ntmps74
        go_wp2_with (go_at_call 33; refine (unhide CK _).mono ?_; rintro e w2 ⟨rfl, rfl⟩)
        go_ret
        exact ⟨rfl, rfl⟩
      · rw [if_neg h2]
        have g2 : (k == 2) = false := by simp; omega
        clear h2
        go_enter Tryd.func74, Tryd.ntmps74
        go_wp2_with (go_at_call 33; refine (unhide CK _).mono ?_; rintro e w2 ⟨rfl, rfl⟩)
        go_ret
        exact ⟨rfl, rfl⟩
    · go_enter Tryd.func74, Tryd.ntmps74
      go_wp2_with (go_at_call 33; refine (unhide CK _).mono ?_; rintro e w2 ⟨rfl, rfl⟩)
      go_ret
      exact ⟨rfl, rfl⟩

set_option maxHeartbeats 1000000 in
theorem bits_low (m : Nat) (e : Int) (w : World) (h : (m : Int) < 4503599627370496) :
    Calls Tryd.prog 73 #[.int .u64 m, .int .i64 e] w fun r w' => r = .returned (.int .u64 m) ∧ w = w' := by
  have g1 : decide ((m : Int) < 4503599627370496) = true := decide_eq_true h
  clear h
  go_enter Tryd.func73, Tryd.ntmps73
  go_wp2
  go_ret
  exact ⟨rfl, rfl⟩

set_option maxHeartbeats 1000000 in
theorem bits_inf (m : Nat) (e : Int) (w : World) (h : 4503599627370496 ≤ (m : Int)) (he : 972 ≤ e ∧ e ≤ 100000) :
    Calls Tryd.prog 73 #[.int .u64 m, .int .i64 e] w fun r w' => r = .returned (.int .u64 9218868437227405312) ∧ w = w' := by
  have g1 : decide ((m : Int) < 4503599627370496) = false := decide_eq_false (by omega)
  have w1 : IntKind.i64.wrap (e + 1075) = e + 1075 := by simp only [IntKind.wrap_i64]; omega
  have g2 : decide (2047 ≤ e + 1075) = true := decide_eq_true (by omega)
  clear h he
  go_enter Tryd.func73, Tryd.ntmps73
  go_wp2
  go_ret
  exact ⟨rfl, rfl⟩

set_option maxHeartbeats 1000000 in
theorem bits_mid (m k r : Nat) (e : Int) (w : World) (h : 4503599627370496 ≤ (m : Int)) (hm : (m : Int) ≤ 9007199254740992) (hk : e + 1074 = (k : Int)) (hk2 : (k : Int) ≤ 2045) (hr : r = m + k * 4503599627370496) :
    Calls Tryd.prog 73 #[.int .u64 m, .int .i64 e] w fun q w' => q = .returned (.int .u64 r) ∧ w = w' := by
  have g1 : decide ((m : Int) < 4503599627370496) = false := decide_eq_false (by omega)
  have w1 : IntKind.i64.wrap (e + 1075) = e + 1075 := by simp only [IntKind.wrap_i64]; omega
  have w2 : IntKind.u64.wrap (e + 1075) = e + 1075 := by simp only [IntKind.wrap_u64]; omega
  have w3 : IntKind.u64.wrap ((e + 1075) * 4503599627370496) = (e + 1075) * 4503599627370496 := by simp only [IntKind.wrap_u64]; omega
  have w4 : IntKind.u64.wrap ((e + 1075) * 4503599627370496 + (m : Int)) = (e + 1075) * 4503599627370496 + (m : Int) := by simp only [IntKind.wrap_u64]; omega
  have w5 : IntKind.u64.wrap ((e + 1075) * 4503599627370496 + (m : Int) - 4503599627370496) = (r : Int) := by simp only [IntKind.wrap_u64]; omega
  have g2 : decide (2047 ≤ e + 1075) = false := decide_eq_false (by omega)
  clear h hm hk hk2 hr
  go_enter Tryd.func73, Tryd.ntmps73
  go_wp2
  go_ret
  exact ⟨rfl, rfl⟩

end Go.Proofs.YtpaikdlhkdgkpaaDoor

/- Contracts of the reference's small of a number, abs. -/
namespace Go.Proofs.YtpaikdlhkdgkpaaDoor
open Go.RowKit

theorem rsmall_num {B : Nat} {w : World} {v : Value} {z : Int} (hv : IsNum B w v z) (n : Nat) (hz : z = (n : Int)) (hn : n < 9223372036854775808) :
    Calls Tryd.prog 100 #[v] w fun e w' => e = .returned (.int .u64 n) ∧ Below w.heap.size w w' := by
  obtain ⟨ng, ao, ca, L, rfl, h1, _, h3, _, h5, _⟩ := hv
  have hval : val L = n := by rw [h5, hz]; simp
  have hl : L.length ≤ 2 := (length_le_iff L h1.2.1 h3 2).2 (by
    have : (4294967296 : Nat) ^ 2 = 18446744073709551616 := by decide
    omega)
  have hb0 : ∀ o : Obj, Below w.heap.size w (w.alloc o) := fun o => (Below.refl _ _).alloc (Nat.le_refl _) o
  match L, hl, h1, hval with
  | [], _, h1, hval =>
    have : n = 0 := by rw [← hval]; rfl
    subst this
    exact rsmall_0 ng ao ca w
  | [x], _, h1, hval =>
    have hx : x = n := by simpa [val] using hval
    subst hx
    rcases h1.2.2 with h | ⟨b, off, rfl, h2, h4⟩
    · cases h
    · have hx := h1.2.1 x (by simp)
      have c0 := h4 0 (by simp)
      rw [← (hb0 (.cells #[.bool ng, .slice (some ⟨b, off, none⟩) 1 ca] 46)).cell (p := ⟨b, off + 0, none⟩) h2] at c0
      exact rsmall_1 ng b off ca x w (by omega) (by simpa using c0)
  | [x, y], _, h1, hval =>
    have hxy : y * 4294967296 + x = n := by
      simp only [val] at hval
      omega
    rcases h1.2.2 with h | ⟨b, off, rfl, h2, h4⟩
    · cases h
    · have hx := h1.2.1 x (by simp)
      have c0 := h4 0 (by simp)
      have c1 := h4 1 (by simp)
      rw [← (hb0 (.cells #[.bool ng, .slice (some ⟨b, off, none⟩) 2 ca] 46)).cell (p := ⟨b, off + 0, none⟩) h2] at c0
      rw [← (hb0 (.cells #[.bool ng, .slice (some ⟨b, off, none⟩) 2 ca] 46)).cell (p := ⟨b, off + 1, none⟩) h2] at c1
      have := rsmall_2 ng b off ca x y w (by omega) (by omega) (by simpa using c0) (by simpa using c1)
      rw [show ((y : Int) * 4294967296 + (x : Int)) = (n : Int) by omega] at this
      exact this

set_option maxHeartbeats 2000000 in
theorem rabs_any (na : Bool) (ao : Option Addr) (ca : Nat) (A : List Nat) (E : Int) (w : World) (hA : LimbsAt w ao ca A) (la : A.length ≤ 512) :
    Calls Tryd.prog 72 #[.agg #[.bool na, .slice ao A.length ca, .int .i64 E]] w fun r w' => ∃ v, r = .returned v ∧ IsDy w' v (val A : Int) E ∧ Below w.heap.size w w' := by
  have CN := hide (fun w' h => made_any 0 false ao ca A w' h (NewAt.zero h) (by omega))
  have hs : sval false A = (val A : Int) := rfl
  rw [hs] at CN
  generalize (val A : Int) = z at *
  have hb0 : Below w.heap.size w ((w.alloc (.cells #[.bool na, .slice ao A.length ca, .int .i64 E] 58)).alloc (.cells #[.bool false, .slice none 0 0, .int .i64 0] 58)) := ((Below.refl _ _).alloc (Nat.le_refl _) _).alloc (by simp) _
  have x0 : Box3 ((w.alloc (.cells #[.bool na, .slice ao A.length ca, .int .i64 E] 58)).alloc (.cells #[.bool false, .slice none 0 0, .int .i64 0] 58)) w.heap.size (.bool na) (.slice ao A.length ca) (.int .i64 E) := (Box3.new _ _ _ _).old _
  have x2 : Box3 ((w.alloc (.cells #[.bool na, .slice ao A.length ca, .int .i64 E] 58)).alloc (.cells #[.bool false, .slice none 0 0, .int .i64 0] 58)) (w.heap.size + 1) (.bool false) (.slice none 0 0) (.int .i64 0) := by
    have := Box3.new (w.alloc (.cells #[.bool na, .slice ao A.length ca, .int .i64 E] 58)) (.bool false) (.slice none 0 0) (.int .i64 0)
    simpa using this
  have B0 := hide hb0; have X0 := hide x0; have X2 := hide x2
  clear hb0 x0 x2 hs
  go_enter Tryd.func72, Tryd.ntmps72
  go_wp2_with fail
  refine at_world (fun W => Below w.heap.size w W ∧ Box3 W w.heap.size (.bool na) (.slice ao A.length ca) (.int .i64 E) ∧ Box3 W (w.heap.size + 1) (.bool false) (.slice none 0 0) (.int .i64 0)) ⟨unhide B0, unhide X0, unhide X2⟩ ?_
  clear B0 X0 X2
  rintro W0 ⟨b0, x0, x2⟩
  have s0 : w.heap.size + 1 < W0.heap.size := x2.lt
  have hK : ∀ w', Below (w.heap.size + 1) W0 w' → Below (w.heap.size + 1) W0 w' ∧ w'.cell? ⟨w.heap.size, 0, none⟩ = some (.bool na) ∧ w'.cell? ⟨w.heap.size, 1, none⟩ = some (.slice ao A.length ca) ∧ w'.cell? ⟨w.heap.size, 2, none⟩ = some (.int .i64 E) := fun w' h =>
    ⟨h, (x0.below h (by omega)).c0, (x0.below h (by omega)).c1, (x0.below h (by omega)).c2⟩
  have HK := hide hK; have BB := hide b0; have X2 := hide x2
  clear hK b0 x0 x2
  go_region_held3 (fun w' => Below (w.heap.size + 1) W0 w' ∧ w'.cell? ⟨w.heap.size, 0, none⟩ = some (.bool na) ∧ w'.cell? ⟨w.heap.size, 1, none⟩ = some (.slice ao A.length ca) ∧ w'.cell? ⟨w.heap.size, 2, none⟩ = some (.int .i64 E))
    (first | exact unhide HK _ (Below.refl _ _).drew | exact unhide HK _ (by assumption) | exact unhide HK _ (below_put3 hB1 (by omega) _ _ _) | fail "NO KEEP")
    (first | (go_at_call 60; refine (unhide CN _ (hA.below ((unhide BB).trans ((Below.refl _ _).drew)))).mono ?_; rintro e w3 ⟨v, rfl, ⟨n4, a4, c4, L4, rfl, i4⟩, hb1⟩; have hB1 : Below (w.heap.size + 1) W0 w3 := ((Below.refl _ _).drew).trans (hb1.mono (by simp; omega)); have X4 := ((unhide X2).drew.below hb1 (by simp; omega)); have IZ := hide (show IsNum 0 w3 (.agg #[.bool n4, .slice a4 L4.length c4]) z from ⟨n4, a4, c4, L4, rfl, i4.1, i4.2.1, i4.2.2.1, i4.2.2.2.1, i4.2.2.2.2.1, by have := i4.2.2.2.2.2; omega⟩); have y0 := X4.c0; have y1 := X4.c1; have y2 := X4.c2; have f0 := X4.free 0; have f1 := X4.free 1; have f2 := X4.free 2; have X5 := hide X4; have BB1 := hide ((unhide BB).trans (hB1.mono (by omega))); clear hb1 i4 X4) | fail "NO ARM")
  go_wp2
  have j2 : IsDy w3 (.agg #[.bool n4, .slice a4 L4.length c4, .int .i64 E]) z E := ⟨n4, a4, c4, L4, rfl, unhide IZ⟩
  refine bodyPost_ret (v := .agg #[.bool n4, .slice a4 L4.length c4, .int .i64 E]) (by simp [results, Tryd.results72, go_sem, y0, y1, y2]) rfl ⟨_, rfl, j2.put3 (unhide X5) _ _ _, below_put3 (unhide BB1) (by omega) _ _ _⟩

end Go.Proofs.YtpaikdlhkdgkpaaDoor

/- Contract of the reference's Nearest, where digits are dropped: the walk. -/
namespace Go.Proofs.YtpaikdlhkdgkpaaDoor
open Go.RowKit

theorem at_thenB {K : Act → World → Prop} {Q : Exit → Act → World → Prop} {a : Act} {w : World} (F : World → Prop) (h : F w) (k : ∀ W, F W → Exit.then K Q .normal a W) : Exit.then K Q .normal a w := k w h

/-- What stands behind the rest: its box g, the number in it, the quotient's box. -/
def TailN (w : World) (g1 : Nat) (n : Bool) (a : Option Addr) (l c : Nat) (np : Bool) (ap : Option Addr) (lp cp : Nat) (q R X : Int) (g : Nat) (W : World) : Prop :=
  Below w.heap.size w W ∧ Box3 W g (.bool np) (.slice ap lp cp) (.int .i64 X) ∧ IsDy W (.agg #[.bool np, .slice ap lp cp, .int .i64 X]) R X ∧ Box2 W g1 (.bool n) (.slice a l c) ∧ IsNum 0 W (.agg #[.bool n, .slice a l c]) q

theorem IsNum.box3 {B : Nat} {w : World} {v : Value} {x : Int} (h : IsNum B w v x) {g : Nat} {y : Bool} {a : Option Addr} {n c : Nat} {k : Int} (hx : Box3 w g (.bool y) (.slice a n c) (.int .i64 k)) (u u' u'' : Value) : IsNum B (((w.setCell ⟨g, 0, none⟩ u).setCell ⟨g, 1, none⟩ u').setCell ⟨g, 2, none⟩ u'') v x := by
  obtain ⟨neg, ao, cap, L, h1, h2, h3⟩ := h
  exact ⟨neg, ao, cap, L, h1, h2.box3 hx _ _ _, h3⟩

theorem Box2.other3 {w : World} {b g : Nat} {x y : Value} (h : Box2 w b x y) (hne : b ≠ g) (u u' u'' : Value) : Box2 (((w.setCell ⟨g, 0, none⟩ u).setCell ⟨g, 1, none⟩ u').setCell ⟨g, 2, none⟩ u'') b x y :=
  ((h.other (p := ⟨g, 0, none⟩) hne u).other (p := ⟨g, 1, none⟩) hne u').other (p := ⟨g, 2, none⟩) hne u''

set_option maxHeartbeats 8000000 in
theorem near_a (ng : Bool) (ao : Option Addr) (ca l n : Nat) (E e q M X R Y R2 Y2 O Z c : Int) (w : World) (hE : -20000 ≤ E ∧ E ≤ 20000) (he : -20000 ≤ e ∧ e ≤ 20000) (hlt : decide (e ≤ E) = false) (hn : (n : Int) < 1152921504606846976) (hR : ∀ W np ap lp cp, IsDy W (.agg #[.bool np, .slice ap lp cp, .int .i64 Y]) R Y → ((lp : Int) == 0) = false)
    (CSH : ∀ w', Below w.heap.size w w' → Calls Tryd.prog 58 #[.agg #[.bool ng, .slice ao l ca], .int .i64 (E - e)] w' fun r w'' => ∃ v, r = .returned v ∧ IsNum 0 w'' v q ∧ Below w'.heap.size w' w'')
    (COF : ∀ w' v, IsNum 0 w' v q → Calls Tryd.prog 54 #[v, .int .i64 e] w' fun r w'' => ∃ u, r = .returned u ∧ IsDy w'' u M X ∧ Below w'.heap.size w' w'')
    (CSU : ∀ w' u, Below w.heap.size w w' → IsDy w' u M X → Calls Tryd.prog 67 #[.agg #[.bool ng, .slice ao l ca, .int .i64 E], u] w' fun r w'' => ∃ u, r = .returned u ∧ IsDy w'' u R Y ∧ Below w'.heap.size w' w'')
    (CSC : ∀ w' v, IsDy w' v R Y → Calls Tryd.prog 48 #[v, .int .i64 1] w' fun r w'' => ∃ u, r = .returned u ∧ IsDy w'' u R2 Y2 ∧ Below w'.heap.size w' w'')
    (CO2 : ∀ w' v, IsNumM 2 0 w' v 1 → Calls Tryd.prog 54 #[v, .int .i64 e] w' fun r w'' => ∃ u, r = .returned u ∧ IsDy w'' u O Z ∧ Below w'.heap.size w' w'')
    (CCM : ∀ w' v u, IsDy w' v R2 Y2 → IsDy w' u O Z → Calls Tryd.prog 39 #[v, u] w' fun r w'' => r = .returned (.int .i64 c) ∧ Below w'.heap.size w' w'')
    (CSM : ∀ w' v, IsNum 0 w' v q → Calls Tryd.prog 100 #[v] w' fun r w'' => r = .returned (.int .u64 n) ∧ Below w'.heap.size w' w'')
    (k1 : decide ((0 : Int) < c) = true) :
    Calls Tryd.prog 71 #[.agg #[.bool ng, .slice ao l ca, .int .i64 E], .int .i64 e] w fun r w' => r = .returned (.tuple #[.int .u64 (n + 1), .bool false]) ∧ Below w.heap.size w w' := by
  have KSH := hide CSH; have KOF := hide COF; have KSU := hide CSU; have KSC := hide CSC; have KO2 := hide CO2; have KCM := hide CCM; have KSM := hide CSM; have HR := hide hR
  clear CSH COF CSU CSC CO2 CCM CSM hR
  have w1 : IntKind.i64.wrap (E - e) = E - e := by simp only [IntKind.wrap_i64]; omega
  have hn0 : (0 : Int) ≤ n := by omega
  have B0 := hide ((Below.refl w.heap.size w).alloc (Nat.le_refl _) (.cells #[.bool ng, .slice ao l ca, .int .i64 E] 58))
  have X0 := hide (Box3.new w (.bool ng) (.slice ao l ca) (.int .i64 E))
  clear hE he
  go_enter Tryd.func71, Tryd.ntmps71
  go_wp2_with fail
  refine (unhide KSH _ (unhide B0)).mono ?_
  rintro r w1' ⟨v, rfl, hv, hb1⟩
  have b1 := (unhide B0).trans (hb1.mono (unhide B0).size)
  have x1 := (unhide X0).all hb1
  obtain ⟨n1, a1, c1, L1, rfl, i1⟩ := hv
  have hb2 : Below w1'.heap.size w1' (w1'.alloc (.cells #[.bool n1, .slice a1 L1.length c1] 46)) := (Below.refl _ _).alloc (Nat.le_refl _) _
  have F0 := hide (show Below w.heap.size w (w1'.alloc (.cells #[.bool n1, .slice a1 L1.length c1] 46)) ∧ Box3 (w1'.alloc (.cells #[.bool n1, .slice a1 L1.length c1] 46)) w.heap.size (.bool ng) (.slice ao l ca) (.int .i64 E) ∧ Box2 (w1'.alloc (.cells #[.bool n1, .slice a1 L1.length c1] 46)) w1'.heap.size (.bool n1) (.slice a1 L1.length c1) ∧ IsNum 0 (w1'.alloc (.cells #[.bool n1, .slice a1 L1.length c1] 46)) (.agg #[.bool n1, .slice a1 L1.length c1]) q from
    ⟨b1.trans (hb2.mono b1.size), x1.all hb2, Box2.new _ _ _, (show IsNum 0 w1' (.agg #[.bool n1, .slice a1 L1.length c1]) q from ⟨n1, a1, c1, L1, rfl, i1⟩).below hb2⟩)
  clear b1 hb1 x1 i1 hb2 B0 X0 KSH
  generalize L1.length = l1 at *
  go_upto_region 4 with (fail)
  refine at_world (fun W => Below w.heap.size w W ∧ Box3 W w.heap.size (.bool ng) (.slice ao l ca) (.int .i64 E) ∧ Box2 W w1'.heap.size (.bool n1) (.slice a1 l1 c1) ∧ IsNum 0 W (.agg #[.bool n1, .slice a1 l1 c1]) q) (unhide F0) ?_
  clear F0
  generalize w1'.heap.size = g1 at *
  rintro W0 ⟨b0, x0, x1, iq⟩
  have hg1 : g1 < W0.heap.size := x1.lt
  have hK : ∀ w', Below W0.heap.size W0 w' → Below W0.heap.size W0 w' ∧ w'.cell? ⟨w.heap.size, 0, none⟩ = some (.bool ng) ∧ w'.cell? ⟨w.heap.size, 1, none⟩ = some (.slice ao l ca) ∧ w'.cell? ⟨w.heap.size, 2, none⟩ = some (.int .i64 E) ∧ w'.cell? ⟨g1, 0, none⟩ = some (.bool n1) ∧ w'.cell? ⟨g1, 1, none⟩ = some (.slice a1 l1 c1) := fun w' h => ⟨h, (x0.all h).c0, (x0.all h).c1, (x0.all h).c2, (x1.all h).c0, (x1.all h).c1⟩
  have HK := hide hK
  have HKA := hide (fun wn o (h1 : Below W0.heap.size W0 wn) => unhide HK (wn.alloc o) (h1.alloc h1.size o))
  have HKS := hide (fun wn g u u' u'' (h1 : Below W0.heap.size W0 wn) (h4 : W0.heap.size ≤ g) => unhide HK (((wn.setCell ⟨g, 0, none⟩ u).setCell ⟨g, 1, none⟩ u').setCell ⟨g, 2, none⟩ u'') (below_put3 h1 h4 u u' u''))
  have BXA := hide (fun wn (h1 : Below (W0.drew.alloc (.cells #[.bool false, .slice none 0 0, .int .i64 0] 58)).heap.size (W0.drew.alloc (.cells #[.bool false, .slice none 0 0, .int .i64 0] 58)) wn) => (Box3.new W0.drew (.bool false) (.slice none 0 0) (.int .i64 0)).below h1 (by simp))
  have BXB := hide (fun wn wm (h2 : Below (wn.alloc (.cells #[.bool false, .slice none 0 0, .int .i64 0] 58)).heap.size (wn.alloc (.cells #[.bool false, .slice none 0 0, .int .i64 0] 58)) wm) => (Box3.new wn (.bool false) (.slice none 0 0) (.int .i64 0)).below h2 (by simp))
  have KOF' := hide (fun w' (h : Below W0.heap.size W0 w') => unhide KOF w' _ (iq.below h))
  have KSU' := hide (fun w' u (h : Below W0.heap.size W0 w') hu => unhide KSU w' u (b0.trans (h.mono b0.size)) hu)
  have HT := hide (fun (W : World) (g : Nat) {np : Bool} {ap : Option Addr} {lp cp : Nat} (h1 : Below W0.heap.size W0 W) (h2 : Box3 W g (.bool np) (.slice ap lp cp) (.int .i64 Y)) (h3 : IsDy W (.agg #[.bool np, .slice ap lp cp, .int .i64 Y]) R Y) =>
    (show TailN w g1 n1 a1 l1 c1 np ap lp cp q R Y g W from ⟨b0.trans (h1.mono b0.size), h2, h3, x1.all h1, iq.below h1⟩))
  clear hK b0 x0 x1 iq KOF KSU
  go_region_held3 (fun w' => Below W0.heap.size W0 w' ∧ w'.cell? ⟨w.heap.size, 0, none⟩ = some (.bool ng) ∧ w'.cell? ⟨w.heap.size, 1, none⟩ = some (.slice ao l ca) ∧ w'.cell? ⟨w.heap.size, 2, none⟩ = some (.int .i64 E) ∧ w'.cell? ⟨g1, 0, none⟩ = some (.bool n1) ∧ w'.cell? ⟨g1, 1, none⟩ = some (.slice a1 l1 c1))
    (first | assumption | exact unhide HK _ (Below.refl _ _).drew | exact unhide HK _ (by assumption) | exact unhide HKA _ _ (by assumption) | exact unhide HKA _ _ (And.left (by assumption)) | exact unhide HKS _ _ _ _ _ hBwm (by first | exact Nat.le_refl _ | exact Below.size (by assumption)) | fail "NO KEEP")
    (first | (go_at_call 54; refine (unhide KOF' _ (And.left (by assumption))).mono ?_; rintro r wa ⟨u, rfl, iu, hb1⟩; have hBwa : Below W0.heap.size W0 wa := Below.trans (And.left (by assumption)) (hb1.mono (Below.size (And.left (by assumption)))); (first | (have xb : Box3 wa W0.heap.size (.bool false) (.slice none 0 0) (.int .i64 0) := unhide BXA _ hb1) | skip); have IU := hide iu; clear iu; clear hb1) | (go_at_call 67; refine (unhide KSU' _ _ (And.left (by assumption)) (by first | exact unhide IU | exact (unhide IU).below ((Below.refl _ _).alloc (Nat.le_refl _) _))).mono ?_; rintro r wm ⟨u, rfl, ⟨np, ap, cp, Lp, rfl, jp⟩, hb1⟩; have hBwm : Below W0.heap.size W0 wm := Below.trans (And.left (by assumption)) (hb1.mono (Below.size (And.left (by assumption)))); (first | (have xb := Box3.below xb hb1 xb.lt) | (have xb := unhide BXB _ _ hb1) | skip); (first | (have kb0 := xb.c0; have kb1 := xb.c1; have kb2 := xb.c2; have gb0 := xb.free 0; have gb1 := xb.free 1; have gb2 := xb.free 2) | skip); have IP := hide (show IsDy wm (.agg #[.bool np, .slice ap Lp.length cp, .int .i64 Y]) R Y from ⟨np, ap, cp, Lp, rfl, jp⟩); clear hb1 jp) | fail "NO ARM")
  all_goals
    first
      | refine at_thenB (TailN _ _ _ _ _ _ _ _ _ _ _ _ _ W0.heap.size) (unhide HT _ _ (And.left (by assumption)) (xb.put _ _ _) ((unhide IP).put3 xb _ _ _)) ?_
      | refine at_thenB (TailN _ _ _ _ _ _ _ _ _ _ _ _ _ wa.heap.size) (unhide HT _ _ (And.left (by assumption)) (xb.put _ _ _) ((unhide IP).put3 xb _ _ _)) ?_
      | refine at_thenB (TailN _ _ _ _ _ _ _ _ _ _ _ _ _ wm.heap.size) (unhide HT _ _ (And.left (by assumption)) (Box3.new _ _ _ _) ((unhide IP).below ((Below.refl _ _).alloc (Nat.le_refl _) _))) ?_
      | fail "NO WAY"
  all_goals
    rintro W ⟨bW, xg, ir, x1, iq⟩
    have hz := unhide HR _ _ _ _ _ ir
    have IR := hide ir; have IQ := hide iq; have BW := hide bW; have X1 := hide x1; have XG := hide xg
    have kc0 := xg.c0; have kc1 := xg.c1; have kc2 := xg.c2
    try clear kb0 kb1 kb2 gb0 gb1 gb2
    try clear xb
    clear xg ir iq bW x1 HT HK HKA HKS BXA BXB KOF' KSU' IP IU hBwa hBwm HR
    try clear hg1
    generalize Lp.length = lp at *
    go_wp2_with fail
    refine (unhide KSC _ _ (unhide IR)).mono ?_
    rintro r w3 ⟨u3, rfl, i3, hb3⟩
    have I3 := hide i3
    have B3 := hide hb3
    clear i3 hb3 KSC
    go_wp2_with fail
    refine (refOf_any 1 _ (by decide) (by decide)).mono ?_
    rintro r w4 ⟨u4, rfl, i4, hb4⟩
    have I4 := hide (IsNumM.zeroB i4)
    have B4 := hide ((unhide B3).trans (hb4.mono (unhide B3).size))
    have I3' := hide ((unhide I3).below hb4)
    clear i4 hb4 I3 B3
    go_wp2_with fail
    refine (unhide KO2 _ _ (unhide I4)).mono ?_
    rintro r w5 ⟨u5, rfl, i5, hb5⟩
    have I5 := hide i5
    have B5 := hide ((unhide B4).trans (hb5.mono (unhide B4).size))
    have I3 := hide ((unhide I3').below hb5)
    clear i5 hb5 I3' B4 I4 KO2
    go_wp2_with fail
    refine (unhide KCM _ _ _ (unhide I3) (unhide I5)).mono ?_
    rintro r w6 ⟨rfl, hb6⟩
    have b6 := (unhide B5).trans (hb6.mono (unhide B5).size)
    have x1 := (unhide X1).all b6
    have IQ6 := hide ((unhide IQ).below b6)
    have XG6 := hide ((unhide XG).all b6)
    have BW6 := hide ((unhide BW).trans (b6.mono (unhide BW).size))
    clear kc0 kc1 kc2
    have q0 := x1.c0; have q1 := x1.c1
    clear x1 b6 hb6 B5 I3 I5 KCM IQ X1 XG BW IR
    go_wp2_with fail
    refine (unhide KSM _ _ (unhide IQ6)).mono ?_
    rintro r w7 ⟨rfl, hb7⟩
    have x7 := (unhide XG6).all hb7
    have BW7 := hide ((unhide BW6).trans (hb7.mono (unhide BW6).size))
    have kc0 := x7.c0; have kc1 := x7.c1; have kc2 := x7.c2
    clear x7 hb7 q0 q1 IQ6 XG6 BW6 KSM
    go_wp2
    go_quiet (fail)
    go_wp2
    exact bodyPost_ret (v := .tuple #[.int .u64 (n + 1), .bool false]) (by simp [results, Tryd.results71, go_sem]) rfl ⟨rfl, below_drewN (unhide BW7) _⟩

set_option maxHeartbeats 8000000 in
theorem near_b (ng : Bool) (ao : Option Addr) (ca l n : Nat) (E e q M X R Y R2 Y2 O Z c : Int) (w : World) (hE : -20000 ≤ E ∧ E ≤ 20000) (he : -20000 ≤ e ∧ e ≤ 20000) (hlt : decide (e ≤ E) = false) (hn : (n : Int) < 1152921504606846976) (hR : ∀ W np ap lp cp, IsDy W (.agg #[.bool np, .slice ap lp cp, .int .i64 Y]) R Y → ((lp : Int) == 0) = false)
    (CSH : ∀ w', Below w.heap.size w w' → Calls Tryd.prog 58 #[.agg #[.bool ng, .slice ao l ca], .int .i64 (E - e)] w' fun r w'' => ∃ v, r = .returned v ∧ IsNum 0 w'' v q ∧ Below w'.heap.size w' w'')
    (COF : ∀ w' v, IsNum 0 w' v q → Calls Tryd.prog 54 #[v, .int .i64 e] w' fun r w'' => ∃ u, r = .returned u ∧ IsDy w'' u M X ∧ Below w'.heap.size w' w'')
    (CSU : ∀ w' u, Below w.heap.size w w' → IsDy w' u M X → Calls Tryd.prog 67 #[.agg #[.bool ng, .slice ao l ca, .int .i64 E], u] w' fun r w'' => ∃ u, r = .returned u ∧ IsDy w'' u R Y ∧ Below w'.heap.size w' w'')
    (CSC : ∀ w' v, IsDy w' v R Y → Calls Tryd.prog 48 #[v, .int .i64 1] w' fun r w'' => ∃ u, r = .returned u ∧ IsDy w'' u R2 Y2 ∧ Below w'.heap.size w' w'')
    (CO2 : ∀ w' v, IsNumM 2 0 w' v 1 → Calls Tryd.prog 54 #[v, .int .i64 e] w' fun r w'' => ∃ u, r = .returned u ∧ IsDy w'' u O Z ∧ Below w'.heap.size w' w'')
    (CCM : ∀ w' v u, IsDy w' v R2 Y2 → IsDy w' u O Z → Calls Tryd.prog 39 #[v, u] w' fun r w'' => r = .returned (.int .i64 c) ∧ Below w'.heap.size w' w'')
    (CSM : ∀ w' v, IsNum 0 w' v q → Calls Tryd.prog 100 #[v] w' fun r w'' => r = .returned (.int .u64 n) ∧ Below w'.heap.size w' w'')
    (k1 : decide ((0 : Int) < c) = false) (k2 : (c == 0) = true) (k3 : ((n : Int) % 2 == 1) = true) :
    Calls Tryd.prog 71 #[.agg #[.bool ng, .slice ao l ca, .int .i64 E], .int .i64 e] w fun r w' => r = .returned (.tuple #[.int .u64 (n + 1), .bool false]) ∧ Below w.heap.size w w' := by
  have KSH := hide CSH; have KOF := hide COF; have KSU := hide CSU; have KSC := hide CSC; have KO2 := hide CO2; have KCM := hide CCM; have KSM := hide CSM; have HR := hide hR
  clear CSH COF CSU CSC CO2 CCM CSM hR
  have w1 : IntKind.i64.wrap (E - e) = E - e := by simp only [IntKind.wrap_i64]; omega
  have hn0 : (0 : Int) ≤ n := by omega
  have B0 := hide ((Below.refl w.heap.size w).alloc (Nat.le_refl _) (.cells #[.bool ng, .slice ao l ca, .int .i64 E] 58))
  have X0 := hide (Box3.new w (.bool ng) (.slice ao l ca) (.int .i64 E))
  clear hE he
  go_enter Tryd.func71, Tryd.ntmps71
  go_wp2_with fail
  refine (unhide KSH _ (unhide B0)).mono ?_
  rintro r w1' ⟨v, rfl, hv, hb1⟩
  have b1 := (unhide B0).trans (hb1.mono (unhide B0).size)
  have x1 := (unhide X0).all hb1
  obtain ⟨n1, a1, c1, L1, rfl, i1⟩ := hv
  have hb2 : Below w1'.heap.size w1' (w1'.alloc (.cells #[.bool n1, .slice a1 L1.length c1] 46)) := (Below.refl _ _).alloc (Nat.le_refl _) _
  have F0 := hide (show Below w.heap.size w (w1'.alloc (.cells #[.bool n1, .slice a1 L1.length c1] 46)) ∧ Box3 (w1'.alloc (.cells #[.bool n1, .slice a1 L1.length c1] 46)) w.heap.size (.bool ng) (.slice ao l ca) (.int .i64 E) ∧ Box2 (w1'.alloc (.cells #[.bool n1, .slice a1 L1.length c1] 46)) w1'.heap.size (.bool n1) (.slice a1 L1.length c1) ∧ IsNum 0 (w1'.alloc (.cells #[.bool n1, .slice a1 L1.length c1] 46)) (.agg #[.bool n1, .slice a1 L1.length c1]) q from
    ⟨b1.trans (hb2.mono b1.size), x1.all hb2, Box2.new _ _ _, (show IsNum 0 w1' (.agg #[.bool n1, .slice a1 L1.length c1]) q from ⟨n1, a1, c1, L1, rfl, i1⟩).below hb2⟩)
  clear b1 hb1 x1 i1 hb2 B0 X0 KSH
  generalize L1.length = l1 at *
  go_upto_region 4 with (fail)
  refine at_world (fun W => Below w.heap.size w W ∧ Box3 W w.heap.size (.bool ng) (.slice ao l ca) (.int .i64 E) ∧ Box2 W w1'.heap.size (.bool n1) (.slice a1 l1 c1) ∧ IsNum 0 W (.agg #[.bool n1, .slice a1 l1 c1]) q) (unhide F0) ?_
  clear F0
  generalize w1'.heap.size = g1 at *
  rintro W0 ⟨b0, x0, x1, iq⟩
  have hg1 : g1 < W0.heap.size := x1.lt
  have hK : ∀ w', Below W0.heap.size W0 w' → Below W0.heap.size W0 w' ∧ w'.cell? ⟨w.heap.size, 0, none⟩ = some (.bool ng) ∧ w'.cell? ⟨w.heap.size, 1, none⟩ = some (.slice ao l ca) ∧ w'.cell? ⟨w.heap.size, 2, none⟩ = some (.int .i64 E) ∧ w'.cell? ⟨g1, 0, none⟩ = some (.bool n1) ∧ w'.cell? ⟨g1, 1, none⟩ = some (.slice a1 l1 c1) := fun w' h => ⟨h, (x0.all h).c0, (x0.all h).c1, (x0.all h).c2, (x1.all h).c0, (x1.all h).c1⟩
  have HK := hide hK
  have HKA := hide (fun wn o (h1 : Below W0.heap.size W0 wn) => unhide HK (wn.alloc o) (h1.alloc h1.size o))
  have HKS := hide (fun wn g u u' u'' (h1 : Below W0.heap.size W0 wn) (h4 : W0.heap.size ≤ g) => unhide HK (((wn.setCell ⟨g, 0, none⟩ u).setCell ⟨g, 1, none⟩ u').setCell ⟨g, 2, none⟩ u'') (below_put3 h1 h4 u u' u''))
  have BXA := hide (fun wn (h1 : Below (W0.drew.alloc (.cells #[.bool false, .slice none 0 0, .int .i64 0] 58)).heap.size (W0.drew.alloc (.cells #[.bool false, .slice none 0 0, .int .i64 0] 58)) wn) => (Box3.new W0.drew (.bool false) (.slice none 0 0) (.int .i64 0)).below h1 (by simp))
  have BXB := hide (fun wn wm (h2 : Below (wn.alloc (.cells #[.bool false, .slice none 0 0, .int .i64 0] 58)).heap.size (wn.alloc (.cells #[.bool false, .slice none 0 0, .int .i64 0] 58)) wm) => (Box3.new wn (.bool false) (.slice none 0 0) (.int .i64 0)).below h2 (by simp))
  have KOF' := hide (fun w' (h : Below W0.heap.size W0 w') => unhide KOF w' _ (iq.below h))
  have KSU' := hide (fun w' u (h : Below W0.heap.size W0 w') hu => unhide KSU w' u (b0.trans (h.mono b0.size)) hu)
  have HT := hide (fun (W : World) (g : Nat) {np : Bool} {ap : Option Addr} {lp cp : Nat} (h1 : Below W0.heap.size W0 W) (h2 : Box3 W g (.bool np) (.slice ap lp cp) (.int .i64 Y)) (h3 : IsDy W (.agg #[.bool np, .slice ap lp cp, .int .i64 Y]) R Y) =>
    (show TailN w g1 n1 a1 l1 c1 np ap lp cp q R Y g W from ⟨b0.trans (h1.mono b0.size), h2, h3, x1.all h1, iq.below h1⟩))
  clear hK b0 x0 x1 iq KOF KSU
  go_region_held3 (fun w' => Below W0.heap.size W0 w' ∧ w'.cell? ⟨w.heap.size, 0, none⟩ = some (.bool ng) ∧ w'.cell? ⟨w.heap.size, 1, none⟩ = some (.slice ao l ca) ∧ w'.cell? ⟨w.heap.size, 2, none⟩ = some (.int .i64 E) ∧ w'.cell? ⟨g1, 0, none⟩ = some (.bool n1) ∧ w'.cell? ⟨g1, 1, none⟩ = some (.slice a1 l1 c1))
    (first | assumption | exact unhide HK _ (Below.refl _ _).drew | exact unhide HK _ (by assumption) | exact unhide HKA _ _ (by assumption) | exact unhide HKA _ _ (And.left (by assumption)) | exact unhide HKS _ _ _ _ _ hBwm (by first | exact Nat.le_refl _ | exact Below.size (by assumption)) | fail "NO KEEP")
    (first | (go_at_call 54; refine (unhide KOF' _ (And.left (by assumption))).mono ?_; rintro r wa ⟨u, rfl, iu, hb1⟩; have hBwa : Below W0.heap.size W0 wa := Below.trans (And.left (by assumption)) (hb1.mono (Below.size (And.left (by assumption)))); (first | (have xb : Box3 wa W0.heap.size (.bool false) (.slice none 0 0) (.int .i64 0) := unhide BXA _ hb1) | skip); have IU := hide iu; clear iu; clear hb1) | (go_at_call 67; refine (unhide KSU' _ _ (And.left (by assumption)) (by first | exact unhide IU | exact (unhide IU).below ((Below.refl _ _).alloc (Nat.le_refl _) _))).mono ?_; rintro r wm ⟨u, rfl, ⟨np, ap, cp, Lp, rfl, jp⟩, hb1⟩; have hBwm : Below W0.heap.size W0 wm := Below.trans (And.left (by assumption)) (hb1.mono (Below.size (And.left (by assumption)))); (first | (have xb := Box3.below xb hb1 xb.lt) | (have xb := unhide BXB _ _ hb1) | skip); (first | (have kb0 := xb.c0; have kb1 := xb.c1; have kb2 := xb.c2; have gb0 := xb.free 0; have gb1 := xb.free 1; have gb2 := xb.free 2) | skip); have IP := hide (show IsDy wm (.agg #[.bool np, .slice ap Lp.length cp, .int .i64 Y]) R Y from ⟨np, ap, cp, Lp, rfl, jp⟩); clear hb1 jp) | fail "NO ARM")
  all_goals
    first
      | refine at_thenB (TailN _ _ _ _ _ _ _ _ _ _ _ _ _ W0.heap.size) (unhide HT _ _ (And.left (by assumption)) (xb.put _ _ _) ((unhide IP).put3 xb _ _ _)) ?_
      | refine at_thenB (TailN _ _ _ _ _ _ _ _ _ _ _ _ _ wa.heap.size) (unhide HT _ _ (And.left (by assumption)) (xb.put _ _ _) ((unhide IP).put3 xb _ _ _)) ?_
      | refine at_thenB (TailN _ _ _ _ _ _ _ _ _ _ _ _ _ wm.heap.size) (unhide HT _ _ (And.left (by assumption)) (Box3.new _ _ _ _) ((unhide IP).below ((Below.refl _ _).alloc (Nat.le_refl _) _))) ?_
      | fail "NO WAY"
  all_goals
    rintro W ⟨bW, xg, ir, x1, iq⟩
    have hz := unhide HR _ _ _ _ _ ir
    have IR := hide ir; have IQ := hide iq; have BW := hide bW; have X1 := hide x1; have XG := hide xg
    have kc0 := xg.c0; have kc1 := xg.c1; have kc2 := xg.c2
    try clear kb0 kb1 kb2 gb0 gb1 gb2
    try clear xb
    clear xg ir iq bW x1 HT HK HKA HKS BXA BXB KOF' KSU' IP IU hBwa hBwm HR
    try clear hg1
    generalize Lp.length = lp at *
    go_wp2_with fail
    refine (unhide KSC _ _ (unhide IR)).mono ?_
    rintro r w3 ⟨u3, rfl, i3, hb3⟩
    have I3 := hide i3
    have B3 := hide hb3
    clear i3 hb3 KSC
    go_wp2_with fail
    refine (refOf_any 1 _ (by decide) (by decide)).mono ?_
    rintro r w4 ⟨u4, rfl, i4, hb4⟩
    have I4 := hide (IsNumM.zeroB i4)
    have B4 := hide ((unhide B3).trans (hb4.mono (unhide B3).size))
    have I3' := hide ((unhide I3).below hb4)
    clear i4 hb4 I3 B3
    go_wp2_with fail
    refine (unhide KO2 _ _ (unhide I4)).mono ?_
    rintro r w5 ⟨u5, rfl, i5, hb5⟩
    have I5 := hide i5
    have B5 := hide ((unhide B4).trans (hb5.mono (unhide B4).size))
    have I3 := hide ((unhide I3').below hb5)
    clear i5 hb5 I3' B4 I4 KO2
    go_wp2_with fail
    refine (unhide KCM _ _ _ (unhide I3) (unhide I5)).mono ?_
    rintro r w6 ⟨rfl, hb6⟩
    have b6 := (unhide B5).trans (hb6.mono (unhide B5).size)
    have x1 := (unhide X1).all b6
    have IQ6 := hide ((unhide IQ).below b6)
    have XG6 := hide ((unhide XG).all b6)
    have BW6 := hide ((unhide BW).trans (b6.mono (unhide BW).size))
    clear kc0 kc1 kc2
    have q0 := x1.c0; have q1 := x1.c1
    clear x1 b6 hb6 B5 I3 I5 KCM IQ X1 XG BW IR
    go_wp2_with fail
    refine (unhide KSM _ _ (unhide IQ6)).mono ?_
    rintro r w7 ⟨rfl, hb7⟩
    have x7 := (unhide XG6).all hb7
    have BW7 := hide ((unhide BW6).trans (hb7.mono (unhide BW6).size))
    have kc0 := x7.c0; have kc1 := x7.c1; have kc2 := x7.c2
    clear x7 hb7 q0 q1 IQ6 XG6 BW6 KSM
    go_wp2
    go_quiet (fail)
    go_wp2
    exact bodyPost_ret (v := .tuple #[.int .u64 (n + 1), .bool false]) (by simp [results, Tryd.results71, go_sem]) rfl ⟨rfl, below_drewN (unhide BW7) _⟩

set_option maxHeartbeats 8000000 in
theorem near_c (ng : Bool) (ao : Option Addr) (ca l n : Nat) (E e q M X R Y R2 Y2 O Z c : Int) (w : World) (hE : -20000 ≤ E ∧ E ≤ 20000) (he : -20000 ≤ e ∧ e ≤ 20000) (hlt : decide (e ≤ E) = false) (hn : (n : Int) < 1152921504606846976) (hR : ∀ W np ap lp cp, IsDy W (.agg #[.bool np, .slice ap lp cp, .int .i64 Y]) R Y → ((lp : Int) == 0) = false)
    (CSH : ∀ w', Below w.heap.size w w' → Calls Tryd.prog 58 #[.agg #[.bool ng, .slice ao l ca], .int .i64 (E - e)] w' fun r w'' => ∃ v, r = .returned v ∧ IsNum 0 w'' v q ∧ Below w'.heap.size w' w'')
    (COF : ∀ w' v, IsNum 0 w' v q → Calls Tryd.prog 54 #[v, .int .i64 e] w' fun r w'' => ∃ u, r = .returned u ∧ IsDy w'' u M X ∧ Below w'.heap.size w' w'')
    (CSU : ∀ w' u, Below w.heap.size w w' → IsDy w' u M X → Calls Tryd.prog 67 #[.agg #[.bool ng, .slice ao l ca, .int .i64 E], u] w' fun r w'' => ∃ u, r = .returned u ∧ IsDy w'' u R Y ∧ Below w'.heap.size w' w'')
    (CSC : ∀ w' v, IsDy w' v R Y → Calls Tryd.prog 48 #[v, .int .i64 1] w' fun r w'' => ∃ u, r = .returned u ∧ IsDy w'' u R2 Y2 ∧ Below w'.heap.size w' w'')
    (CO2 : ∀ w' v, IsNumM 2 0 w' v 1 → Calls Tryd.prog 54 #[v, .int .i64 e] w' fun r w'' => ∃ u, r = .returned u ∧ IsDy w'' u O Z ∧ Below w'.heap.size w' w'')
    (CCM : ∀ w' v u, IsDy w' v R2 Y2 → IsDy w' u O Z → Calls Tryd.prog 39 #[v, u] w' fun r w'' => r = .returned (.int .i64 c) ∧ Below w'.heap.size w' w'')
    (CSM : ∀ w' v, IsNum 0 w' v q → Calls Tryd.prog 100 #[v] w' fun r w'' => r = .returned (.int .u64 n) ∧ Below w'.heap.size w' w'')
    (k1 : decide ((0 : Int) < c) = false) (k2 : (c == 0) = true) (k3 : ((n : Int) % 2 == 1) = false) :
    Calls Tryd.prog 71 #[.agg #[.bool ng, .slice ao l ca, .int .i64 E], .int .i64 e] w fun r w' => r = .returned (.tuple #[.int .u64 (n), .bool false]) ∧ Below w.heap.size w w' := by
  have KSH := hide CSH; have KOF := hide COF; have KSU := hide CSU; have KSC := hide CSC; have KO2 := hide CO2; have KCM := hide CCM; have KSM := hide CSM; have HR := hide hR
  clear CSH COF CSU CSC CO2 CCM CSM hR
  have w1 : IntKind.i64.wrap (E - e) = E - e := by simp only [IntKind.wrap_i64]; omega
  have hn0 : (0 : Int) ≤ n := by omega
  have B0 := hide ((Below.refl w.heap.size w).alloc (Nat.le_refl _) (.cells #[.bool ng, .slice ao l ca, .int .i64 E] 58))
  have X0 := hide (Box3.new w (.bool ng) (.slice ao l ca) (.int .i64 E))
  clear hE he
  go_enter Tryd.func71, Tryd.ntmps71
  go_wp2_with fail
  refine (unhide KSH _ (unhide B0)).mono ?_
  rintro r w1' ⟨v, rfl, hv, hb1⟩
  have b1 := (unhide B0).trans (hb1.mono (unhide B0).size)
  have x1 := (unhide X0).all hb1
  obtain ⟨n1, a1, c1, L1, rfl, i1⟩ := hv
  have hb2 : Below w1'.heap.size w1' (w1'.alloc (.cells #[.bool n1, .slice a1 L1.length c1] 46)) := (Below.refl _ _).alloc (Nat.le_refl _) _
  have F0 := hide (show Below w.heap.size w (w1'.alloc (.cells #[.bool n1, .slice a1 L1.length c1] 46)) ∧ Box3 (w1'.alloc (.cells #[.bool n1, .slice a1 L1.length c1] 46)) w.heap.size (.bool ng) (.slice ao l ca) (.int .i64 E) ∧ Box2 (w1'.alloc (.cells #[.bool n1, .slice a1 L1.length c1] 46)) w1'.heap.size (.bool n1) (.slice a1 L1.length c1) ∧ IsNum 0 (w1'.alloc (.cells #[.bool n1, .slice a1 L1.length c1] 46)) (.agg #[.bool n1, .slice a1 L1.length c1]) q from
    ⟨b1.trans (hb2.mono b1.size), x1.all hb2, Box2.new _ _ _, (show IsNum 0 w1' (.agg #[.bool n1, .slice a1 L1.length c1]) q from ⟨n1, a1, c1, L1, rfl, i1⟩).below hb2⟩)
  clear b1 hb1 x1 i1 hb2 B0 X0 KSH
  generalize L1.length = l1 at *
  go_upto_region 4 with (fail)
  refine at_world (fun W => Below w.heap.size w W ∧ Box3 W w.heap.size (.bool ng) (.slice ao l ca) (.int .i64 E) ∧ Box2 W w1'.heap.size (.bool n1) (.slice a1 l1 c1) ∧ IsNum 0 W (.agg #[.bool n1, .slice a1 l1 c1]) q) (unhide F0) ?_
  clear F0
  generalize w1'.heap.size = g1 at *
  rintro W0 ⟨b0, x0, x1, iq⟩
  have hg1 : g1 < W0.heap.size := x1.lt
  have hK : ∀ w', Below W0.heap.size W0 w' → Below W0.heap.size W0 w' ∧ w'.cell? ⟨w.heap.size, 0, none⟩ = some (.bool ng) ∧ w'.cell? ⟨w.heap.size, 1, none⟩ = some (.slice ao l ca) ∧ w'.cell? ⟨w.heap.size, 2, none⟩ = some (.int .i64 E) ∧ w'.cell? ⟨g1, 0, none⟩ = some (.bool n1) ∧ w'.cell? ⟨g1, 1, none⟩ = some (.slice a1 l1 c1) := fun w' h => ⟨h, (x0.all h).c0, (x0.all h).c1, (x0.all h).c2, (x1.all h).c0, (x1.all h).c1⟩
  have HK := hide hK
  have HKA := hide (fun wn o (h1 : Below W0.heap.size W0 wn) => unhide HK (wn.alloc o) (h1.alloc h1.size o))
  have HKS := hide (fun wn g u u' u'' (h1 : Below W0.heap.size W0 wn) (h4 : W0.heap.size ≤ g) => unhide HK (((wn.setCell ⟨g, 0, none⟩ u).setCell ⟨g, 1, none⟩ u').setCell ⟨g, 2, none⟩ u'') (below_put3 h1 h4 u u' u''))
  have BXA := hide (fun wn (h1 : Below (W0.drew.alloc (.cells #[.bool false, .slice none 0 0, .int .i64 0] 58)).heap.size (W0.drew.alloc (.cells #[.bool false, .slice none 0 0, .int .i64 0] 58)) wn) => (Box3.new W0.drew (.bool false) (.slice none 0 0) (.int .i64 0)).below h1 (by simp))
  have BXB := hide (fun wn wm (h2 : Below (wn.alloc (.cells #[.bool false, .slice none 0 0, .int .i64 0] 58)).heap.size (wn.alloc (.cells #[.bool false, .slice none 0 0, .int .i64 0] 58)) wm) => (Box3.new wn (.bool false) (.slice none 0 0) (.int .i64 0)).below h2 (by simp))
  have KOF' := hide (fun w' (h : Below W0.heap.size W0 w') => unhide KOF w' _ (iq.below h))
  have KSU' := hide (fun w' u (h : Below W0.heap.size W0 w') hu => unhide KSU w' u (b0.trans (h.mono b0.size)) hu)
  have HT := hide (fun (W : World) (g : Nat) {np : Bool} {ap : Option Addr} {lp cp : Nat} (h1 : Below W0.heap.size W0 W) (h2 : Box3 W g (.bool np) (.slice ap lp cp) (.int .i64 Y)) (h3 : IsDy W (.agg #[.bool np, .slice ap lp cp, .int .i64 Y]) R Y) =>
    (show TailN w g1 n1 a1 l1 c1 np ap lp cp q R Y g W from ⟨b0.trans (h1.mono b0.size), h2, h3, x1.all h1, iq.below h1⟩))
  clear hK b0 x0 x1 iq KOF KSU
  go_region_held3 (fun w' => Below W0.heap.size W0 w' ∧ w'.cell? ⟨w.heap.size, 0, none⟩ = some (.bool ng) ∧ w'.cell? ⟨w.heap.size, 1, none⟩ = some (.slice ao l ca) ∧ w'.cell? ⟨w.heap.size, 2, none⟩ = some (.int .i64 E) ∧ w'.cell? ⟨g1, 0, none⟩ = some (.bool n1) ∧ w'.cell? ⟨g1, 1, none⟩ = some (.slice a1 l1 c1))
    (first | assumption | exact unhide HK _ (Below.refl _ _).drew | exact unhide HK _ (by assumption) | exact unhide HKA _ _ (by assumption) | exact unhide HKA _ _ (And.left (by assumption)) | exact unhide HKS _ _ _ _ _ hBwm (by first | exact Nat.le_refl _ | exact Below.size (by assumption)) | fail "NO KEEP")
    (first | (go_at_call 54; refine (unhide KOF' _ (And.left (by assumption))).mono ?_; rintro r wa ⟨u, rfl, iu, hb1⟩; have hBwa : Below W0.heap.size W0 wa := Below.trans (And.left (by assumption)) (hb1.mono (Below.size (And.left (by assumption)))); (first | (have xb : Box3 wa W0.heap.size (.bool false) (.slice none 0 0) (.int .i64 0) := unhide BXA _ hb1) | skip); have IU := hide iu; clear iu; clear hb1) | (go_at_call 67; refine (unhide KSU' _ _ (And.left (by assumption)) (by first | exact unhide IU | exact (unhide IU).below ((Below.refl _ _).alloc (Nat.le_refl _) _))).mono ?_; rintro r wm ⟨u, rfl, ⟨np, ap, cp, Lp, rfl, jp⟩, hb1⟩; have hBwm : Below W0.heap.size W0 wm := Below.trans (And.left (by assumption)) (hb1.mono (Below.size (And.left (by assumption)))); (first | (have xb := Box3.below xb hb1 xb.lt) | (have xb := unhide BXB _ _ hb1) | skip); (first | (have kb0 := xb.c0; have kb1 := xb.c1; have kb2 := xb.c2; have gb0 := xb.free 0; have gb1 := xb.free 1; have gb2 := xb.free 2) | skip); have IP := hide (show IsDy wm (.agg #[.bool np, .slice ap Lp.length cp, .int .i64 Y]) R Y from ⟨np, ap, cp, Lp, rfl, jp⟩); clear hb1 jp) | fail "NO ARM")
  all_goals
    first
      | refine at_thenB (TailN _ _ _ _ _ _ _ _ _ _ _ _ _ W0.heap.size) (unhide HT _ _ (And.left (by assumption)) (xb.put _ _ _) ((unhide IP).put3 xb _ _ _)) ?_
      | refine at_thenB (TailN _ _ _ _ _ _ _ _ _ _ _ _ _ wa.heap.size) (unhide HT _ _ (And.left (by assumption)) (xb.put _ _ _) ((unhide IP).put3 xb _ _ _)) ?_
      | refine at_thenB (TailN _ _ _ _ _ _ _ _ _ _ _ _ _ wm.heap.size) (unhide HT _ _ (And.left (by assumption)) (Box3.new _ _ _ _) ((unhide IP).below ((Below.refl _ _).alloc (Nat.le_refl _) _))) ?_
      | fail "NO WAY"
  all_goals
    rintro W ⟨bW, xg, ir, x1, iq⟩
    have hz := unhide HR _ _ _ _ _ ir
    have IR := hide ir; have IQ := hide iq; have BW := hide bW; have X1 := hide x1; have XG := hide xg
    have kc0 := xg.c0; have kc1 := xg.c1; have kc2 := xg.c2
    try clear kb0 kb1 kb2 gb0 gb1 gb2
    try clear xb
    clear xg ir iq bW x1 HT HK HKA HKS BXA BXB KOF' KSU' IP IU hBwa hBwm HR
    try clear hg1
    generalize Lp.length = lp at *
    go_wp2_with fail
    refine (unhide KSC _ _ (unhide IR)).mono ?_
    rintro r w3 ⟨u3, rfl, i3, hb3⟩
    have I3 := hide i3
    have B3 := hide hb3
    clear i3 hb3 KSC
    go_wp2_with fail
    refine (refOf_any 1 _ (by decide) (by decide)).mono ?_
    rintro r w4 ⟨u4, rfl, i4, hb4⟩
    have I4 := hide (IsNumM.zeroB i4)
    have B4 := hide ((unhide B3).trans (hb4.mono (unhide B3).size))
    have I3' := hide ((unhide I3).below hb4)
    clear i4 hb4 I3 B3
    go_wp2_with fail
    refine (unhide KO2 _ _ (unhide I4)).mono ?_
    rintro r w5 ⟨u5, rfl, i5, hb5⟩
    have I5 := hide i5
    have B5 := hide ((unhide B4).trans (hb5.mono (unhide B4).size))
    have I3 := hide ((unhide I3').below hb5)
    clear i5 hb5 I3' B4 I4 KO2
    go_wp2_with fail
    refine (unhide KCM _ _ _ (unhide I3) (unhide I5)).mono ?_
    rintro r w6 ⟨rfl, hb6⟩
    have b6 := (unhide B5).trans (hb6.mono (unhide B5).size)
    have x1 := (unhide X1).all b6
    have IQ6 := hide ((unhide IQ).below b6)
    have XG6 := hide ((unhide XG).all b6)
    have BW6 := hide ((unhide BW).trans (b6.mono (unhide BW).size))
    clear kc0 kc1 kc2
    have q0 := x1.c0; have q1 := x1.c1
    clear x1 b6 hb6 B5 I3 I5 KCM IQ X1 XG BW IR
    go_wp2_with fail
    refine (unhide KSM _ _ (unhide IQ6)).mono ?_
    rintro r w7 ⟨rfl, hb7⟩
    have x7 := (unhide XG6).all hb7
    have BW7 := hide ((unhide BW6).trans (hb7.mono (unhide BW6).size))
    have kc0 := x7.c0; have kc1 := x7.c1; have kc2 := x7.c2
    clear x7 hb7 q0 q1 IQ6 XG6 BW6 KSM
    go_wp2
    go_quiet (fail)
    go_wp2
    exact bodyPost_ret (v := .tuple #[.int .u64 (n), .bool false]) (by simp [results, Tryd.results71, go_sem]) rfl ⟨rfl, below_drewN (unhide BW7) _⟩

set_option maxHeartbeats 8000000 in
theorem near_d (ng : Bool) (ao : Option Addr) (ca l n : Nat) (E e q M X R Y R2 Y2 O Z c : Int) (w : World) (hE : -20000 ≤ E ∧ E ≤ 20000) (he : -20000 ≤ e ∧ e ≤ 20000) (hlt : decide (e ≤ E) = false) (hn : (n : Int) < 1152921504606846976) (hR : ∀ W np ap lp cp, IsDy W (.agg #[.bool np, .slice ap lp cp, .int .i64 Y]) R Y → ((lp : Int) == 0) = false)
    (CSH : ∀ w', Below w.heap.size w w' → Calls Tryd.prog 58 #[.agg #[.bool ng, .slice ao l ca], .int .i64 (E - e)] w' fun r w'' => ∃ v, r = .returned v ∧ IsNum 0 w'' v q ∧ Below w'.heap.size w' w'')
    (COF : ∀ w' v, IsNum 0 w' v q → Calls Tryd.prog 54 #[v, .int .i64 e] w' fun r w'' => ∃ u, r = .returned u ∧ IsDy w'' u M X ∧ Below w'.heap.size w' w'')
    (CSU : ∀ w' u, Below w.heap.size w w' → IsDy w' u M X → Calls Tryd.prog 67 #[.agg #[.bool ng, .slice ao l ca, .int .i64 E], u] w' fun r w'' => ∃ u, r = .returned u ∧ IsDy w'' u R Y ∧ Below w'.heap.size w' w'')
    (CSC : ∀ w' v, IsDy w' v R Y → Calls Tryd.prog 48 #[v, .int .i64 1] w' fun r w'' => ∃ u, r = .returned u ∧ IsDy w'' u R2 Y2 ∧ Below w'.heap.size w' w'')
    (CO2 : ∀ w' v, IsNumM 2 0 w' v 1 → Calls Tryd.prog 54 #[v, .int .i64 e] w' fun r w'' => ∃ u, r = .returned u ∧ IsDy w'' u O Z ∧ Below w'.heap.size w' w'')
    (CCM : ∀ w' v u, IsDy w' v R2 Y2 → IsDy w' u O Z → Calls Tryd.prog 39 #[v, u] w' fun r w'' => r = .returned (.int .i64 c) ∧ Below w'.heap.size w' w'')
    (CSM : ∀ w' v, IsNum 0 w' v q → Calls Tryd.prog 100 #[v] w' fun r w'' => r = .returned (.int .u64 n) ∧ Below w'.heap.size w' w'')
    (k1 : decide ((0 : Int) < c) = false) (k2 : (c == 0) = false) :
    Calls Tryd.prog 71 #[.agg #[.bool ng, .slice ao l ca, .int .i64 E], .int .i64 e] w fun r w' => r = .returned (.tuple #[.int .u64 (n), .bool false]) ∧ Below w.heap.size w w' := by
  have KSH := hide CSH; have KOF := hide COF; have KSU := hide CSU; have KSC := hide CSC; have KO2 := hide CO2; have KCM := hide CCM; have KSM := hide CSM; have HR := hide hR
  clear CSH COF CSU CSC CO2 CCM CSM hR
  have w1 : IntKind.i64.wrap (E - e) = E - e := by simp only [IntKind.wrap_i64]; omega
  have hn0 : (0 : Int) ≤ n := by omega
  have B0 := hide ((Below.refl w.heap.size w).alloc (Nat.le_refl _) (.cells #[.bool ng, .slice ao l ca, .int .i64 E] 58))
  have X0 := hide (Box3.new w (.bool ng) (.slice ao l ca) (.int .i64 E))
  clear hE he
  go_enter Tryd.func71, Tryd.ntmps71
  go_wp2_with fail
  refine (unhide KSH _ (unhide B0)).mono ?_
  rintro r w1' ⟨v, rfl, hv, hb1⟩
  have b1 := (unhide B0).trans (hb1.mono (unhide B0).size)
  have x1 := (unhide X0).all hb1
  obtain ⟨n1, a1, c1, L1, rfl, i1⟩ := hv
  have hb2 : Below w1'.heap.size w1' (w1'.alloc (.cells #[.bool n1, .slice a1 L1.length c1] 46)) := (Below.refl _ _).alloc (Nat.le_refl _) _
  have F0 := hide (show Below w.heap.size w (w1'.alloc (.cells #[.bool n1, .slice a1 L1.length c1] 46)) ∧ Box3 (w1'.alloc (.cells #[.bool n1, .slice a1 L1.length c1] 46)) w.heap.size (.bool ng) (.slice ao l ca) (.int .i64 E) ∧ Box2 (w1'.alloc (.cells #[.bool n1, .slice a1 L1.length c1] 46)) w1'.heap.size (.bool n1) (.slice a1 L1.length c1) ∧ IsNum 0 (w1'.alloc (.cells #[.bool n1, .slice a1 L1.length c1] 46)) (.agg #[.bool n1, .slice a1 L1.length c1]) q from
    ⟨b1.trans (hb2.mono b1.size), x1.all hb2, Box2.new _ _ _, (show IsNum 0 w1' (.agg #[.bool n1, .slice a1 L1.length c1]) q from ⟨n1, a1, c1, L1, rfl, i1⟩).below hb2⟩)
  clear b1 hb1 x1 i1 hb2 B0 X0 KSH
  generalize L1.length = l1 at *
  go_upto_region 4 with (fail)
  refine at_world (fun W => Below w.heap.size w W ∧ Box3 W w.heap.size (.bool ng) (.slice ao l ca) (.int .i64 E) ∧ Box2 W w1'.heap.size (.bool n1) (.slice a1 l1 c1) ∧ IsNum 0 W (.agg #[.bool n1, .slice a1 l1 c1]) q) (unhide F0) ?_
  clear F0
  generalize w1'.heap.size = g1 at *
  rintro W0 ⟨b0, x0, x1, iq⟩
  have hg1 : g1 < W0.heap.size := x1.lt
  have hK : ∀ w', Below W0.heap.size W0 w' → Below W0.heap.size W0 w' ∧ w'.cell? ⟨w.heap.size, 0, none⟩ = some (.bool ng) ∧ w'.cell? ⟨w.heap.size, 1, none⟩ = some (.slice ao l ca) ∧ w'.cell? ⟨w.heap.size, 2, none⟩ = some (.int .i64 E) ∧ w'.cell? ⟨g1, 0, none⟩ = some (.bool n1) ∧ w'.cell? ⟨g1, 1, none⟩ = some (.slice a1 l1 c1) := fun w' h => ⟨h, (x0.all h).c0, (x0.all h).c1, (x0.all h).c2, (x1.all h).c0, (x1.all h).c1⟩
  have HK := hide hK
  have HKA := hide (fun wn o (h1 : Below W0.heap.size W0 wn) => unhide HK (wn.alloc o) (h1.alloc h1.size o))
  have HKS := hide (fun wn g u u' u'' (h1 : Below W0.heap.size W0 wn) (h4 : W0.heap.size ≤ g) => unhide HK (((wn.setCell ⟨g, 0, none⟩ u).setCell ⟨g, 1, none⟩ u').setCell ⟨g, 2, none⟩ u'') (below_put3 h1 h4 u u' u''))
  have BXA := hide (fun wn (h1 : Below (W0.drew.alloc (.cells #[.bool false, .slice none 0 0, .int .i64 0] 58)).heap.size (W0.drew.alloc (.cells #[.bool false, .slice none 0 0, .int .i64 0] 58)) wn) => (Box3.new W0.drew (.bool false) (.slice none 0 0) (.int .i64 0)).below h1 (by simp))
  have BXB := hide (fun wn wm (h2 : Below (wn.alloc (.cells #[.bool false, .slice none 0 0, .int .i64 0] 58)).heap.size (wn.alloc (.cells #[.bool false, .slice none 0 0, .int .i64 0] 58)) wm) => (Box3.new wn (.bool false) (.slice none 0 0) (.int .i64 0)).below h2 (by simp))
  have KOF' := hide (fun w' (h : Below W0.heap.size W0 w') => unhide KOF w' _ (iq.below h))
  have KSU' := hide (fun w' u (h : Below W0.heap.size W0 w') hu => unhide KSU w' u (b0.trans (h.mono b0.size)) hu)
  have HT := hide (fun (W : World) (g : Nat) {np : Bool} {ap : Option Addr} {lp cp : Nat} (h1 : Below W0.heap.size W0 W) (h2 : Box3 W g (.bool np) (.slice ap lp cp) (.int .i64 Y)) (h3 : IsDy W (.agg #[.bool np, .slice ap lp cp, .int .i64 Y]) R Y) =>
    (show TailN w g1 n1 a1 l1 c1 np ap lp cp q R Y g W from ⟨b0.trans (h1.mono b0.size), h2, h3, x1.all h1, iq.below h1⟩))
  clear hK b0 x0 x1 iq KOF KSU
  go_region_held3 (fun w' => Below W0.heap.size W0 w' ∧ w'.cell? ⟨w.heap.size, 0, none⟩ = some (.bool ng) ∧ w'.cell? ⟨w.heap.size, 1, none⟩ = some (.slice ao l ca) ∧ w'.cell? ⟨w.heap.size, 2, none⟩ = some (.int .i64 E) ∧ w'.cell? ⟨g1, 0, none⟩ = some (.bool n1) ∧ w'.cell? ⟨g1, 1, none⟩ = some (.slice a1 l1 c1))
    (first | assumption | exact unhide HK _ (Below.refl _ _).drew | exact unhide HK _ (by assumption) | exact unhide HKA _ _ (by assumption) | exact unhide HKA _ _ (And.left (by assumption)) | exact unhide HKS _ _ _ _ _ hBwm (by first | exact Nat.le_refl _ | exact Below.size (by assumption)) | fail "NO KEEP")
    (first | (go_at_call 54; refine (unhide KOF' _ (And.left (by assumption))).mono ?_; rintro r wa ⟨u, rfl, iu, hb1⟩; have hBwa : Below W0.heap.size W0 wa := Below.trans (And.left (by assumption)) (hb1.mono (Below.size (And.left (by assumption)))); (first | (have xb : Box3 wa W0.heap.size (.bool false) (.slice none 0 0) (.int .i64 0) := unhide BXA _ hb1) | skip); have IU := hide iu; clear iu; clear hb1) | (go_at_call 67; refine (unhide KSU' _ _ (And.left (by assumption)) (by first | exact unhide IU | exact (unhide IU).below ((Below.refl _ _).alloc (Nat.le_refl _) _))).mono ?_; rintro r wm ⟨u, rfl, ⟨np, ap, cp, Lp, rfl, jp⟩, hb1⟩; have hBwm : Below W0.heap.size W0 wm := Below.trans (And.left (by assumption)) (hb1.mono (Below.size (And.left (by assumption)))); (first | (have xb := Box3.below xb hb1 xb.lt) | (have xb := unhide BXB _ _ hb1) | skip); (first | (have kb0 := xb.c0; have kb1 := xb.c1; have kb2 := xb.c2; have gb0 := xb.free 0; have gb1 := xb.free 1; have gb2 := xb.free 2) | skip); have IP := hide (show IsDy wm (.agg #[.bool np, .slice ap Lp.length cp, .int .i64 Y]) R Y from ⟨np, ap, cp, Lp, rfl, jp⟩); clear hb1 jp) | fail "NO ARM")
  all_goals
    first
      | refine at_thenB (TailN _ _ _ _ _ _ _ _ _ _ _ _ _ W0.heap.size) (unhide HT _ _ (And.left (by assumption)) (xb.put _ _ _) ((unhide IP).put3 xb _ _ _)) ?_
      | refine at_thenB (TailN _ _ _ _ _ _ _ _ _ _ _ _ _ wa.heap.size) (unhide HT _ _ (And.left (by assumption)) (xb.put _ _ _) ((unhide IP).put3 xb _ _ _)) ?_
      | refine at_thenB (TailN _ _ _ _ _ _ _ _ _ _ _ _ _ wm.heap.size) (unhide HT _ _ (And.left (by assumption)) (Box3.new _ _ _ _) ((unhide IP).below ((Below.refl _ _).alloc (Nat.le_refl _) _))) ?_
      | fail "NO WAY"
  all_goals
    rintro W ⟨bW, xg, ir, x1, iq⟩
    have hz := unhide HR _ _ _ _ _ ir
    have IR := hide ir; have IQ := hide iq; have BW := hide bW; have X1 := hide x1; have XG := hide xg
    have kc0 := xg.c0; have kc1 := xg.c1; have kc2 := xg.c2
    try clear kb0 kb1 kb2 gb0 gb1 gb2
    try clear xb
    clear xg ir iq bW x1 HT HK HKA HKS BXA BXB KOF' KSU' IP IU hBwa hBwm HR
    try clear hg1
    generalize Lp.length = lp at *
    go_wp2_with fail
    refine (unhide KSC _ _ (unhide IR)).mono ?_
    rintro r w3 ⟨u3, rfl, i3, hb3⟩
    have I3 := hide i3
    have B3 := hide hb3
    clear i3 hb3 KSC
    go_wp2_with fail
    refine (refOf_any 1 _ (by decide) (by decide)).mono ?_
    rintro r w4 ⟨u4, rfl, i4, hb4⟩
    have I4 := hide (IsNumM.zeroB i4)
    have B4 := hide ((unhide B3).trans (hb4.mono (unhide B3).size))
    have I3' := hide ((unhide I3).below hb4)
    clear i4 hb4 I3 B3
    go_wp2_with fail
    refine (unhide KO2 _ _ (unhide I4)).mono ?_
    rintro r w5 ⟨u5, rfl, i5, hb5⟩
    have I5 := hide i5
    have B5 := hide ((unhide B4).trans (hb5.mono (unhide B4).size))
    have I3 := hide ((unhide I3').below hb5)
    clear i5 hb5 I3' B4 I4 KO2
    go_wp2_with fail
    refine (unhide KCM _ _ _ (unhide I3) (unhide I5)).mono ?_
    rintro r w6 ⟨rfl, hb6⟩
    have b6 := (unhide B5).trans (hb6.mono (unhide B5).size)
    have x1 := (unhide X1).all b6
    have IQ6 := hide ((unhide IQ).below b6)
    have XG6 := hide ((unhide XG).all b6)
    have BW6 := hide ((unhide BW).trans (b6.mono (unhide BW).size))
    clear kc0 kc1 kc2
    have q0 := x1.c0; have q1 := x1.c1
    clear x1 b6 hb6 B5 I3 I5 KCM IQ X1 XG BW IR
    go_wp2_with fail
    refine (unhide KSM _ _ (unhide IQ6)).mono ?_
    rintro r w7 ⟨rfl, hb7⟩
    have x7 := (unhide XG6).all hb7
    have BW7 := hide ((unhide BW6).trans (hb7.mono (unhide BW6).size))
    have kc0 := x7.c0; have kc1 := x7.c1; have kc2 := x7.c2
    clear x7 hb7 q0 q1 IQ6 XG6 BW6 KSM
    go_wp2
    go_quiet (fail)
    go_wp2
    exact bodyPost_ret (v := .tuple #[.int .u64 (n), .bool false]) (by simp [results, Tryd.results71, go_sem]) rfl ⟨rfl, below_drewN (unhide BW7) _⟩

end Go.Proofs.YtpaikdlhkdgkpaaDoor

/- Contract of the reference's Nearest, any number. -/
namespace Go.Proofs.YtpaikdlhkdgkpaaDoor
open Go.RowKit

set_option maxHeartbeats 4000000 in
theorem near_up (ng : Bool) (ao : Option Addr) (ca l n : Nat) (E e q : Int) (w : World) (hE : -20000 ≤ E ∧ E ≤ 20000) (he : -20000 ≤ e ∧ e ≤ 20000) (hlt : decide (e ≤ E) = true)
    (CSH : ∀ w', Below w.heap.size w w' → Calls Tryd.prog 58 #[.agg #[.bool ng, .slice ao l ca], .int .i64 (E - e)] w' fun r w'' => ∃ v, r = .returned v ∧ IsNum 0 w'' v q ∧ Below w'.heap.size w' w'')
    (CSM : ∀ w' v, IsNum 0 w' v q → Calls Tryd.prog 100 #[v] w' fun r w'' => r = .returned (.int .u64 n) ∧ Below w'.heap.size w' w'') :
    Calls Tryd.prog 71 #[.agg #[.bool ng, .slice ao l ca, .int .i64 E], .int .i64 e] w fun r w' => r = .returned (.tuple #[.int .u64 n, .bool true]) ∧ Below w.heap.size w w' := by
  have KSH := hide CSH; have KSM := hide CSM
  clear CSH CSM
  have w1 : IntKind.i64.wrap (E - e) = E - e := by simp only [IntKind.wrap_i64]; omega
  have B0 := hide ((Below.refl w.heap.size w).alloc (Nat.le_refl _) (.cells #[.bool ng, .slice ao l ca, .int .i64 E] 58))
  clear hE he
  go_enter Tryd.func71, Tryd.ntmps71
  go_wp2_with fail
  refine (unhide KSH _ (unhide B0)).mono ?_
  rintro r w1' ⟨v, rfl, hv, hb1⟩
  have B1 := hide ((unhide B0).trans (hb1.mono (unhide B0).size))
  have HV := hide hv
  clear hv hb1 B0 KSH
  go_wp2_with fail
  refine (unhide KSM _ _ (unhide HV)).mono ?_
  rintro r w2 ⟨rfl, hb2⟩
  have B2 := hide ((unhide B1).trans (hb2.mono (unhide B1).size))
  clear hb2 B1 HV KSM
  go_wp2
  exact bodyPost_ret (v := .tuple #[.int .u64 n, .bool true]) (by simp [results, Tryd.results71, go_sem]) rfl ⟨rfl, unhide B2⟩

theorem lvl_of {z : Int} {lo : Int} {W : Nat} (h : z.natAbs < 2 ^ W) (h1 : -16384 ≤ lo) (h2 : lo + W ≤ 16384) (h3 : W ≤ 16384) : Lvl lo W z := ⟨h, h1, h2, h3⟩

theorem cmpI_nat (a b : Nat) : cmpI (a : Int) (b : Int) = if a < b then -1 else if a = b then 0 else 1 := by
  unfold cmpI
  repeat' split
  all_goals omega

theorem odd_oM {z : Int} (h : z % 2 = 1) (e : Int) : oM z = z ∧ oE z e = e := by
  have h0 : z ≠ 0 := by omega
  have := (oddOf z h0).unique (m' := z) (k' := 0) ⟨by simp, h⟩
  exact ⟨this.1, by rw [oE_ne _ _ h0, this.2]; simp⟩

theorem nearest_dy {w : World} {v : Value} {V : Nat} {E : Int} (e : Int) (hv : IsDy w v (V : Int) E) (ho : V % 2 = 1) {B : Nat} (hB : B ≤ 2600) (hV : V < 2 ^ B) (hE : -4000 ≤ E ∧ E ≤ 4000) (he : -1074 ≤ e ∧ e ≤ 980) (hm : mS V (E - e) ≤ 9007199254740992) :
    Calls Tryd.prog 71 #[v, .int .i64 e] w fun r w' => r = .returned (.tuple #[.int .u64 (mS V (E - e) : Nat), .bool (decide (e ≤ E))]) ∧ Below w.heap.size w w' := by
  have hT : (V : Int).natAbs < TOP := lt_TOP (k := B) (by rw [Int.natAbs_natCast]; exact hV) (by omega)
  have hv0 := hv
  obtain ⟨ng, ao, ca, L, rfl, h1, h2, h3, h4, h5⟩ := hv.right hT
  have hng : ng = false := by
    obtain ⟨n', a', c', L', e1, _, _, e4, _⟩ := hv0.parts
    simp only [Value.agg.injEq, Array.mk.injEq, List.cons.injEq, Value.bool.injEq] at e1
    rw [e1.1, e4]; simp
  subst hng
  have hval : val L = V := by have := congrArg Int.natAbs h3; rw [natAbs_sval] at this; simpa using this
  have CSH : ∀ w', Below w.heap.size w w' → Calls Tryd.prog 58 #[.agg #[.bool false, .slice ao L.length ca], .int .i64 (E - e)] w' fun r w'' => ∃ v, r = .returned v ∧ IsNum 0 w'' v (shV false L (E - e)) ∧ Below w'.heap.size w' w'' := fun w' hb =>
    refShift_any false ao ca L (E - e) w' (h1.below hb) h2 (by omega)
  have hsh : shV false L (E - e) = ((if 0 ≤ E - e then V * 2 ^ (E - e).toNat else V / 2 ^ (-(E - e)).toNat : Nat) : Int) := by
    unfold shV sg; rw [hval]; rfl
  rw [hsh] at CSH
  clear hsh
  rcases Int.lt_or_le E e with hlt | hle
  · obtain ⟨k, hk⟩ : ∃ k : Nat, e - E = (k : Int) := ⟨(e - E).toNat, by omega⟩
    have hj : E - e = -(k : Int) := by omega
    rw [if_neg (by omega), show (-(E - e)).toNat = k by omega] at CSH
    rw [decide_eq_false (show ¬ e ≤ E by omega)]
    rw [hj, mS_down V k (by omega)] at hm ⊢
    have hp : 0 < 2 ^ k := Nat.two_pow_pos _
    have hdm := Nat.div_add_mod V (2 ^ k)
    have hml := Nat.mod_lt V hp
    have hq := (cutE_le V k).1
    have hce : cutE V k = V / 2 ^ k + (if 2 ^ k < 2 * (V % 2 ^ k) ∨ (2 ^ k = 2 * (V % 2 ^ k) ∧ V / 2 ^ k % 2 = 1) then 1 else 0) := rfl
    obtain ⟨K, hK⟩ : ∃ K : Nat, K = 5500 := ⟨_, rfl⟩
    have hk6 : k < K := by omega
    have h2k : 2 ^ k < 2 ^ K := Nat.pow_lt_pow_right (by decide) hk6
    have hV6 : V < 2 ^ K := Nat.lt_of_lt_of_le hV (pow_le2 (by omega))
    clear hV
    have hr0 : V % 2 ^ k ≠ 0 := by
      have : V % 2 ^ k % 2 = V % 2 := Nat.mod_mod_of_dvd _ (by obtain ⟨m, rfl⟩ : ∃ m, k = m + 1 := ⟨k - 1, by omega⟩; rw [Nat.pow_succ]; exact Nat.dvd_mul_left _ _)
      omega
    have h5501 : (2 : Nat) ^ (K + 1) = 2 ^ K * 2 := Nat.pow_succ 2 K
    generalize hqq : V / 2 ^ k = q at *
    generalize hrr : V % 2 ^ k = r at *
    have hqk : ((q * 2 ^ k : Nat) : Int) = (q : Int) * 2 ^ k := by rw [Int.natCast_mul, Int.natCast_pow]; rfl
    have hqk2 : q * 2 ^ k ≤ V := by rw [Nat.mul_comm]; omega
    have l1 : Lvl E (K + 1) (V : Int) := lvl_of (by rw [Int.natAbs_natCast]; omega) (by omega) (by omega) (by omega)
    have l2 : Lvl E (K + 1) ((q : Int) * 2 ^ k) := by rw [← hqk]; exact lvl_of (by simp only [Int.natAbs_natCast]; omega) (by omega) (by omega) (by omega)
    have hz : (V : Int) - (q : Int) * 2 ^ k = (r : Int) := by rw [← hqk]; rw [Nat.mul_comm] at hqk2 ⊢; omega
    have l3 : Lvl E (K + 1) (r : Int) := lvl_of (by simp only [Int.natAbs_natCast]; omega) (by omega) (by omega) (by omega)
    have l4 : Lvl E (K + 1) ((r : Int) * 2) := lvl_of (by rw [Int.natAbs_mul, Int.natAbs_natCast, show (2 : Int).natAbs = 2 from rfl]; omega) (by omega) (by omega) (by omega)
    have l5 : Lvl E (K + 1) (1 * 2 ^ k) := lvl_of (by rw [Int.one_mul, Int.natAbs_pow, show (2 : Int).natAbs = 2 from rfl]; omega) (by omega) (by omega) (by omega)
    obtain ⟨o1, o2⟩ := odd_oM (z := (V : Int)) (by omega) E
    have s1 := oM_scale (q : Int) k E
    have s2 := oM_scale 1 k E
    rw [show E + (k : Int) = e by omega] at s1 s2
    have hc : cmpI ((r : Int) * 2) (1 * 2 ^ k) = if r * 2 < 2 ^ k then -1 else if r * 2 = 2 ^ k then 0 else 1 := by
      have := cmpI_nat (r * 2) (2 ^ k)
      rw [Int.natCast_mul, Int.natCast_pow] at this
      rw [Int.one_mul]
      exact this
    have COF : ∀ w' v, IsNum 0 w' v (q : Int) → Calls Tryd.prog 54 #[v, .int .i64 e] w' fun r w'' => ∃ u, r = .returned u ∧ IsDy w'' u (oM ((q : Int) * 2 ^ k)) (oE ((q : Int) * 2 ^ k) E) ∧ Below w'.heap.size w' w'' := fun w' v h => by
      rw [s1.1, s1.2]
      exact rof_small e (h.toM (lt_TOP (k := 64) (by have : (2 : Nat) ^ 64 = 18446744073709551616 := by decide
                                                     simp only [Int.natAbs_natCast]; omega) (by decide))) (by decide) (by omega)
    have CSU : ∀ w' u, Below w.heap.size w w' → IsDy w' u (oM ((q : Int) * 2 ^ k)) (oE ((q : Int) * 2 ^ k) E) → Calls Tryd.prog 67 #[.agg #[.bool false, .slice ao L.length ca, .int .i64 E], u] w' fun r' w'' => ∃ u, r' = .returned u ∧ IsDy w'' u (oM (r : Int)) (oE (r : Int) E) ∧ Below w'.heap.size w' w'' := fun w' u hb hu => by
      have hd : IsDy w' (.agg #[.bool false, .slice ao L.length ca, .int .i64 E]) (oM (V : Int)) (oE (V : Int) E) := by rw [o1, o2]; exact hv.below hb
      have := rsubN hd hu l1 l2
      rwa [hz] at this
    have CO2 : ∀ w' v, IsNumM 2 0 w' v 1 → Calls Tryd.prog 54 #[v, .int .i64 e] w' fun r w'' => ∃ u, r = .returned u ∧ IsDy w'' u (oM (1 * 2 ^ k)) (oE (1 * 2 ^ k) E) ∧ Below w'.heap.size w' w'' := fun w' v h => by
      rw [s2.1, s2.2]
      exact rof_small e h (by decide) (by omega)
    have hR : ∀ W np ap lp cp, IsDy W (.agg #[.bool np, .slice ap lp cp, .int .i64 (oE (r : Int) E)]) (oM (r : Int)) (oE (r : Int) E) → ((lp : Int) == 0) = false := fun W np ap lp cp h => by
      obtain ⟨n', a', c', L', e1, _, _, _, e5, _⟩ := h.parts
      simp only [Value.agg.injEq, Array.mk.injEq, List.cons.injEq, Value.slice.injEq] at e1
      have hne := (oM_ne (r : Int) (by omega)).1
      have : L'.length ≠ 0 := fun h0 => by
        have : L' = [] := List.length_eq_zero_iff.1 h0
        rw [this] at e5
        simp [val] at e5
        omega
      have e2 := e1.2.1.2.1
      simp; omega
    have CSM : ∀ w' v, IsNum 0 w' v (q : Int) → Calls Tryd.prog 100 #[v] w' fun r w'' => r = .returned (.int .u64 q) ∧ Below w'.heap.size w' w'' := fun w' v h => rsmall_num h q rfl (by omega)
    have CCM : ∀ w' v u, IsDy w' v (oM ((r : Int) * 2)) (oE ((r : Int) * 2) E) → IsDy w' u (oM (1 * 2 ^ k)) (oE (1 * 2 ^ k) E) → Calls Tryd.prog 39 #[v, u] w' fun r' w'' => r' = .returned (.int .i64 (cmpI ((r : Int) * 2) (1 * 2 ^ k))) ∧ Below w'.heap.size w' w'' := fun w' v u hv hu => rcmpN hv hu l4 l5
    have HE : -20000 ≤ E ∧ E ≤ 20000 := by omega
    have He : -20000 ≤ e ∧ e ≤ 20000 := by omega
    have hlt' : decide (e ≤ E) = false := decide_eq_false (by omega)
    rw [hj] at CSH
    rw [← hj] at CSH
    by_cases c1 : r * 2 < 2 ^ k
    · rw [if_pos c1] at hc
      rw [hc] at CCM
      rw [hce, if_neg (by omega), Nat.add_zero]
      exact near_d false ao ca L.length q E e _ _ _ _ _ _ _ _ _ _ w HE He hlt' (by omega) hR CSH COF CSU (fun w' v h => rscaleN h l3) CO2 CCM CSM (by decide) (by decide)
    · rw [if_neg c1] at hc
      by_cases c2 : r * 2 = 2 ^ k
      · rw [if_pos c2] at hc
        rw [hc] at CCM
        by_cases c3 : q % 2 = 1
        · rw [hce, if_pos (by omega)]
          exact near_b false ao ca L.length q E e _ _ _ _ _ _ _ _ _ _ w HE He hlt' (by omega) hR CSH COF CSU (fun w' v h => rscaleN h l3) CO2 CCM CSM (by decide) (by decide) (by simp; omega)
        · rw [hce, if_neg (by omega), Nat.add_zero]
          exact near_c false ao ca L.length q E e _ _ _ _ _ _ _ _ _ _ w HE He hlt' (by omega) hR CSH COF CSU (fun w' v h => rscaleN h l3) CO2 CCM CSM (by decide) (by decide) (by simp; omega)
      · rw [if_neg c2] at hc
        rw [hc] at CCM
        rw [hce, if_pos (by omega)]
        exact near_a false ao ca L.length q E e _ _ _ _ _ _ _ _ _ _ w HE He hlt' (by omega) hR CSH COF CSU (fun w' v h => rscaleN h l3) CO2 CCM CSM (by decide)
  · obtain ⟨k, hk⟩ : ∃ k : Nat, E - e = (k : Int) := ⟨(E - e).toNat, by omega⟩
    rw [if_pos (by omega), show (E - e).toNat = k by omega] at CSH
    rw [decide_eq_true hle]
    rw [hk, mS_up] at hm ⊢
    have CSM : ∀ w' v, IsNum 0 w' v ((V * 2 ^ k : Nat) : Int) → Calls Tryd.prog 100 #[v] w' fun r w'' => r = .returned (.int .u64 (V * 2 ^ k : Nat)) ∧ Below w'.heap.size w' w'' := fun w' v h => rsmall_num h _ rfl (by omega)
    exact near_up false ao ca L.length _ E e _ w (by omega) (by omega) (decide_eq_true hle) CSH CSM

end Go.Proofs.YtpaikdlhkdgkpaaDoor

/- The reference's Round: the walks. -/
namespace Go.Proofs.YtpaikdlhkdgkpaaDoor
open Go.RowKit

set_option maxHeartbeats 4000000 in
theorem rround_z (na : Bool) (ao : Option Addr) (ca : Nat) (E : Int) (w : World) :
    Calls Tryd.prog 47 #[.agg #[.bool na, .slice ao 0 ca, .int .i64 E]] w fun r w' => r = .returned (.tuple #[.int .u64 0, .int .u8 0]) ∧ Below w.heap.size w w' := by
  go_enter Tryd.func47, Tryd.ntmps47
  go_wp2
  exact bodyPost_ret (v := .tuple #[.int .u64 0, .int .u8 0]) (by simp [results, Tryd.results47, go_sem]) rfl ⟨rfl, (Below.refl _ _).alloc (Nat.le_refl _) _⟩

set_option maxHeartbeats 4000000 in
theorem rround_s (na : Bool) (ao : Option Addr) (ca l S : Nat) (E t : Int) (w : World) (h0 : 0 < l) (g1 : decide (t < -1080) = true)
    (CT : ∀ w', Below w.heap.size w w' → Calls Tryd.prog 62 #[.agg #[.bool na, .slice ao l ca, .int .i64 E]] w' fun r w'' => r = .returned (.int .i64 t) ∧ Below w'.heap.size w' w'')
    (CS : ∀ w', Calls Tryd.prog 70 #[.int .u64 0, .bool na] w' fun r w'' => r = .returned (.int .u64 S) ∧ w' = w'') :
    Calls Tryd.prog 47 #[.agg #[.bool na, .slice ao l ca, .int .i64 E]] w fun r w' => r = .returned (.tuple #[.int .u64 S, .int .u8 3]) ∧ Below w.heap.size w w' := by
  have h0' : decide (0 < l) = true := decide_eq_true h0
  have hz : ((l : Int) == 0) = false := by simp; omega
  have KT := hide CT; have KS := hide CS
  clear CT CS
  have B0 := hide ((Below.refl w.heap.size w).alloc (Nat.le_refl _) (.cells #[.bool na, .slice ao l ca, .int .i64 E] 58))
  have X0 := hide (Box3.new w (.bool na) (.slice ao l ca) (.int .i64 E))
  go_enter Tryd.func47, Tryd.ntmps47
  go_wp2_with fail
  refine (unhide KT _ (unhide B0)).mono ?_
  rintro e w1 ⟨rfl, hb1⟩
  have x1 := (unhide X0).all hb1
  have B1 := hide ((unhide B0).trans (hb1.mono (unhide B0).size))
  have X1 := hide x1
  try clear y0 y1 y2
  have y0 := x1.c0; have y1 := x1.c1; have y2 := x1.c2
  clear hb1 x1 B0 X0
  go_wp2_with (go_at_call 70; refine (unhide KS _).mono ?_; rintro e w9 ⟨rfl, rfl⟩)
  exact bodyPost_ret (v := .tuple #[.int .u64 S, .int .u8 3]) (by simp [results, Tryd.results47, go_sem]) rfl ⟨rfl, unhide B1⟩

set_option maxHeartbeats 4000000 in
theorem rround_l (na : Bool) (ao : Option Addr) (ca l S : Nat) (E t : Int) (w : World) (h0 : 0 < l) (g1 : decide (t < -1080) = false) (g2 : decide ((1030 : Int) < t) = true)
    (CT : ∀ w', Below w.heap.size w w' → Calls Tryd.prog 62 #[.agg #[.bool na, .slice ao l ca, .int .i64 E]] w' fun r w'' => r = .returned (.int .i64 t) ∧ Below w'.heap.size w' w'')
    (CS : ∀ w', Calls Tryd.prog 70 #[.int .u64 9218868437227405312, .bool na] w' fun r w'' => r = .returned (.int .u64 S) ∧ w' = w'') :
    Calls Tryd.prog 47 #[.agg #[.bool na, .slice ao l ca, .int .i64 E]] w fun r w' => r = .returned (.tuple #[.int .u64 S, .int .u8 5]) ∧ Below w.heap.size w w' := by
  have h0' : decide (0 < l) = true := decide_eq_true h0
  have hz : ((l : Int) == 0) = false := by simp; omega
  have KT := hide CT; have KS := hide CS
  clear CT CS
  have B0 := hide ((Below.refl w.heap.size w).alloc (Nat.le_refl _) (.cells #[.bool na, .slice ao l ca, .int .i64 E] 58))
  have X0 := hide (Box3.new w (.bool na) (.slice ao l ca) (.int .i64 E))
  go_enter Tryd.func47, Tryd.ntmps47
  go_wp2_with fail
  refine (unhide KT _ (unhide B0)).mono ?_
  rintro e w1 ⟨rfl, hb1⟩
  have x1 := (unhide X0).all hb1
  have B1 := hide ((unhide B0).trans (hb1.mono (unhide B0).size))
  have X1 := hide x1
  try clear y0 y1 y2
  have y0 := x1.c0; have y1 := x1.c1; have y2 := x1.c2
  clear hb1 x1 B0 X0
  go_wp2_with fail
  refine (unhide KT _ (unhide B1)).mono ?_
  rintro e w2 ⟨rfl, hb2⟩
  have x2 := (unhide X1).all hb2
  have B2 := hide ((unhide B1).trans (hb2.mono (unhide B1).size))
  have X2 := hide x2
  try clear y0 y1 y2
  have y0 := x2.c0; have y1 := x2.c1; have y2 := x2.c2
  clear hb2 x2 B1 X1
  go_wp2_with (go_at_call 70; refine (unhide KS _).mono ?_; rintro e w9 ⟨rfl, rfl⟩)
  exact bodyPost_ret (v := .tuple #[.int .u64 S, .int .u8 5]) (by simp [results, Tryd.results47, go_sem]) rfl ⟨rfl, unhide B2⟩

set_option maxHeartbeats 8000000 in
theorem rround_n (na ex : Bool) (ao : Option Addr) (ca l S m R : Nat) (E t last V fl : Int) (w : World) (h0 : 0 < l) (g1 : decide (t < -1080) = false) (g2 : decide ((1030 : Int) < t) = false) (ht : -1080 ≤ t ∧ t ≤ 1030) (hl : max (t - 53) (-1074) = last) (hl2 : -1074 ≤ last ∧ last ≤ 980)
    (CT : ∀ w', Below w.heap.size w w' → Calls Tryd.prog 62 #[.agg #[.bool na, .slice ao l ca, .int .i64 E]] w' fun r w'' => r = .returned (.int .i64 t) ∧ Below w'.heap.size w' w'')
    (CA : ∀ w', Below w.heap.size w w' → Calls Tryd.prog 72 #[.agg #[.bool na, .slice ao l ca, .int .i64 E]] w' fun r w'' => ∃ v, r = .returned v ∧ IsDy w'' v V E ∧ Below w'.heap.size w' w'')
    (CN : ∀ w' v, IsDy w' v V E → Calls Tryd.prog 71 #[v, .int .i64 last] w' fun r w'' => r = .returned (.tuple #[.int .u64 m, .bool ex]) ∧ Below w'.heap.size w' w'')
    (CB : ∀ w', Calls Tryd.prog 73 #[.int .u64 m, .int .i64 last] w' fun r w'' => r = .returned (.int .u64 R) ∧ w' = w'')
    (CF : ∀ w', Calls Tryd.prog 74 #[.int .u64 R, .bool ex] w' fun r w'' => r = .returned (.int .u8 fl) ∧ w' = w'')
    (CS : ∀ w', Calls Tryd.prog 70 #[.int .u64 R, .bool na] w' fun r w'' => r = .returned (.int .u64 S) ∧ w' = w'')
    (hm : ((m : Int) == 9007199254740992) = false) :
    Calls Tryd.prog 47 #[.agg #[.bool na, .slice ao l ca, .int .i64 E]] w fun r w' => r = .returned (.tuple #[.int .u64 S, .int .u8 fl]) ∧ Below w.heap.size w w' := by
  have hmx := fun W ts t' => max2_run Tryd.prog W ts t' (t - 53) (-1074)
  rw [hl] at hmx
  have w1 : IntKind.i64.wrap (t - 53) = t - 53 := by simp only [IntKind.wrap_i64]; omega
  have w2 : IntKind.i64.wrap (last + 1) = last + 1 := by simp only [IntKind.wrap_i64]; omega
  have KA := hide CA; have KN := hide CN; have KB := hide CB; have KF := hide CF
  clear CA CN CB CF hl ht
  have h0' : decide (0 < l) = true := decide_eq_true h0
  have hz : ((l : Int) == 0) = false := by simp; omega
  have KT := hide CT; have KS := hide CS
  clear CT CS
  have B0 := hide ((Below.refl w.heap.size w).alloc (Nat.le_refl _) (.cells #[.bool na, .slice ao l ca, .int .i64 E] 58))
  have X0 := hide (Box3.new w (.bool na) (.slice ao l ca) (.int .i64 E))
  go_enter Tryd.func47, Tryd.ntmps47
  go_wp2_with fail
  refine (unhide KT _ (unhide B0)).mono ?_
  rintro e w1 ⟨rfl, hb1⟩
  have x1 := (unhide X0).all hb1
  have B1 := hide ((unhide B0).trans (hb1.mono (unhide B0).size))
  have X1 := hide x1
  try clear y0 y1 y2
  have y0 := x1.c0; have y1 := x1.c1; have y2 := x1.c2
  clear hb1 x1 B0 X0
  go_wp2_with fail
  refine (unhide KT _ (unhide B1)).mono ?_
  rintro e w2 ⟨rfl, hb2⟩
  have x2 := (unhide X1).all hb2
  have B2 := hide ((unhide B1).trans (hb2.mono (unhide B1).size))
  have X2 := hide x2
  try clear y0 y1 y2
  have y0 := x2.c0; have y1 := x2.c1; have y2 := x2.c2
  clear hb2 x2 B1 X1
  go_wp2_with fail
  refine (unhide KT _ (unhide B2)).mono ?_
  rintro e w3 ⟨rfl, hb3⟩
  have x3 := (unhide X2).all hb3
  have B3 := hide ((unhide B2).trans (hb3.mono (unhide B2).size))
  have X3 := hide x3
  try clear y0 y1 y2
  have y0 := x3.c0; have y1 := x3.c1; have y2 := x3.c2
  clear hb3 x3 B2 X2
  go_wp2_with fail
  refine (unhide KA _ (unhide B3)).mono ?_
  rintro e w4 ⟨v, rfl, hv, hb4⟩
  have x4 := (unhide X3).all hb4
  have B4 := hide ((unhide B3).trans (hb4.mono (unhide B3).size))
  have X4 := hide x4
  have HV := hide hv
  clear hb4 x4 B3 X3 y0 y1 y2 hv KA KT
  go_wp2_with fail
  refine (unhide KN _ _ (unhide HV)).mono ?_
  rintro e w5 ⟨rfl, hb5⟩
  have x5 := (unhide X4).all hb5
  have B5 := hide ((unhide B4).trans (hb5.mono (unhide B4).size))
  have y0 := x5.c0; have y1 := x5.c1; have y2 := x5.c2
  clear hb5 x5 B4 X4 HV KN
  go_wp2_with (first | (go_at_call 73; refine (unhide KB _).mono ?_; rintro e w6 ⟨rfl, rfl⟩) | (go_at_call 70; refine (unhide KS _).mono ?_; rintro e w9 ⟨rfl, rfl⟩) | (go_at_call 74; refine (unhide KF _).mono ?_; rintro e w9 ⟨rfl, rfl⟩))
  exact bodyPost_ret (v := .tuple #[.int .u64 S, .int .u8 fl]) (by simp [results, Tryd.results47, go_sem]) rfl ⟨rfl, unhide B5⟩

set_option maxHeartbeats 8000000 in
theorem rround_c (na ex : Bool) (ao : Option Addr) (ca l S m R : Nat) (E t last V fl : Int) (w : World) (h0 : 0 < l) (g1 : decide (t < -1080) = false) (g2 : decide ((1030 : Int) < t) = false) (ht : -1080 ≤ t ∧ t ≤ 1030) (hl : max (t - 53) (-1074) = last) (hl2 : -1074 ≤ last ∧ last ≤ 980)
    (CT : ∀ w', Below w.heap.size w w' → Calls Tryd.prog 62 #[.agg #[.bool na, .slice ao l ca, .int .i64 E]] w' fun r w'' => r = .returned (.int .i64 t) ∧ Below w'.heap.size w' w'')
    (CA : ∀ w', Below w.heap.size w w' → Calls Tryd.prog 72 #[.agg #[.bool na, .slice ao l ca, .int .i64 E]] w' fun r w'' => ∃ v, r = .returned v ∧ IsDy w'' v V E ∧ Below w'.heap.size w' w'')
    (CN : ∀ w' v, IsDy w' v V E → Calls Tryd.prog 71 #[v, .int .i64 last] w' fun r w'' => r = .returned (.tuple #[.int .u64 m, .bool ex]) ∧ Below w'.heap.size w' w'')
    (CB : ∀ w', Calls Tryd.prog 73 #[.int .u64 4503599627370496, .int .i64 (last + 1)] w' fun r w'' => r = .returned (.int .u64 R) ∧ w' = w'')
    (CF : ∀ w', Calls Tryd.prog 74 #[.int .u64 R, .bool ex] w' fun r w'' => r = .returned (.int .u8 fl) ∧ w' = w'')
    (CS : ∀ w', Calls Tryd.prog 70 #[.int .u64 R, .bool na] w' fun r w'' => r = .returned (.int .u64 S) ∧ w' = w'')
    (hm : ((m : Int) == 9007199254740992) = true) :
    Calls Tryd.prog 47 #[.agg #[.bool na, .slice ao l ca, .int .i64 E]] w fun r w' => r = .returned (.tuple #[.int .u64 S, .int .u8 fl]) ∧ Below w.heap.size w w' := by
  have hmx := fun W ts t' => max2_run Tryd.prog W ts t' (t - 53) (-1074)
  rw [hl] at hmx
  have w1 : IntKind.i64.wrap (t - 53) = t - 53 := by simp only [IntKind.wrap_i64]; omega
  have w2 : IntKind.i64.wrap (last + 1) = last + 1 := by simp only [IntKind.wrap_i64]; omega
  have KA := hide CA; have KN := hide CN; have KB := hide CB; have KF := hide CF
  clear CA CN CB CF hl ht
  have h0' : decide (0 < l) = true := decide_eq_true h0
  have hz : ((l : Int) == 0) = false := by simp; omega
  have KT := hide CT; have KS := hide CS
  clear CT CS
  have B0 := hide ((Below.refl w.heap.size w).alloc (Nat.le_refl _) (.cells #[.bool na, .slice ao l ca, .int .i64 E] 58))
  have X0 := hide (Box3.new w (.bool na) (.slice ao l ca) (.int .i64 E))
  go_enter Tryd.func47, Tryd.ntmps47
  go_wp2_with fail
  refine (unhide KT _ (unhide B0)).mono ?_
  rintro e w1 ⟨rfl, hb1⟩
  have x1 := (unhide X0).all hb1
  have B1 := hide ((unhide B0).trans (hb1.mono (unhide B0).size))
  have X1 := hide x1
  try clear y0 y1 y2
  have y0 := x1.c0; have y1 := x1.c1; have y2 := x1.c2
  clear hb1 x1 B0 X0
  go_wp2_with fail
  refine (unhide KT _ (unhide B1)).mono ?_
  rintro e w2 ⟨rfl, hb2⟩
  have x2 := (unhide X1).all hb2
  have B2 := hide ((unhide B1).trans (hb2.mono (unhide B1).size))
  have X2 := hide x2
  try clear y0 y1 y2
  have y0 := x2.c0; have y1 := x2.c1; have y2 := x2.c2
  clear hb2 x2 B1 X1
  go_wp2_with fail
  refine (unhide KT _ (unhide B2)).mono ?_
  rintro e w3 ⟨rfl, hb3⟩
  have x3 := (unhide X2).all hb3
  have B3 := hide ((unhide B2).trans (hb3.mono (unhide B2).size))
  have X3 := hide x3
  try clear y0 y1 y2
  have y0 := x3.c0; have y1 := x3.c1; have y2 := x3.c2
  clear hb3 x3 B2 X2
  go_wp2_with fail
  refine (unhide KA _ (unhide B3)).mono ?_
  rintro e w4 ⟨v, rfl, hv, hb4⟩
  have x4 := (unhide X3).all hb4
  have B4 := hide ((unhide B3).trans (hb4.mono (unhide B3).size))
  have X4 := hide x4
  have HV := hide hv
  clear hb4 x4 B3 X3 y0 y1 y2 hv KA KT
  go_wp2_with fail
  refine (unhide KN _ _ (unhide HV)).mono ?_
  rintro e w5 ⟨rfl, hb5⟩
  have x5 := (unhide X4).all hb5
  have B5 := hide ((unhide B4).trans (hb5.mono (unhide B4).size))
  have y0 := x5.c0; have y1 := x5.c1; have y2 := x5.c2
  clear hb5 x5 B4 X4 HV KN
  go_wp2_with (first | (go_at_call 73; refine (unhide KB _).mono ?_; rintro e w6 ⟨rfl, rfl⟩) | (go_at_call 70; refine (unhide KS _).mono ?_; rintro e w9 ⟨rfl, rfl⟩) | (go_at_call 74; refine (unhide KF _).mono ?_; rintro e w9 ⟨rfl, rfl⟩))
  exact bodyPost_ret (v := .tuple #[.int .u64 S, .int .u8 fl]) (by simp [results, Tryd.results47, go_sem]) rfl ⟨rfl, unhide B5⟩

end Go.Proofs.YtpaikdlhkdgkpaaDoor

/- Contract of the reference's Round; the law SoftRounds, walked. -/
namespace Go.Proofs.YtpaikdlhkdgkpaaDoor
open Go.RowKit

theorem fK_rung (r : Nat) (h : r ≤ 9218868437227405312) : (fK r = 3 ↔ r = 9218868437227405312) ∧ (r ≠ 9218868437227405312 → (fK r = 2 ↔ ¬ r < 4503599627370496)) := by
  have h1 : fP r = r / 4503599627370496 := by unfold fP; omega
  have h2 : fF r = r % 4503599627370496 := rfl
  unfold fK
  rw [h1, h2]
  constructor
  · constructor
    · intro hk
      split at hk
      · omega
      · split at hk
        · split at hk <;> simp at hk
        · simp at hk
    · rintro rfl; decide
  · intro hne
    have h3 : r / 4503599627370496 ≠ 2047 := by omega
    rw [if_neg h3]
    by_cases h4 : r < 4503599627370496
    · rw [if_pos (by omega)]
      constructor
      · intro hk; split at hk <;> simp at hk
      · intro h; exact absurd h4 h
    · rw [if_neg (by omega)]
      exact ⟨fun _ => h4, fun _ => rfl⟩

theorem flags_rflag (V : Nat) (E : Int) (h : V ≠ 0) : (if fK (rnd V E) = 3 then 5 else if decide (lastE V E ≤ E) = true then 0 else if fK (rnd V E) = 2 then 1 else 3) = rflag V E := by
  obtain ⟨k1, k2⟩ := fK_rung (rnd V E) (rnd_le V E)
  by_cases ht : 1024 < (bl V : Int) + E
  · have e1 : rnd V E = 9218868437227405312 := by unfold rnd; rw [if_neg h, if_pos ht]
    have e2 : rflag V E = 5 := by unfold rflag; rw [if_neg h, if_pos ht]
    rw [if_pos (k1.2 e1), e2]
  · have e2 : rflag V E = if lastE V E ≤ E then 0 else if rnd V E = 9218868437227405312 then 5 else if rnd V E < 4503599627370496 then 3 else 1 := by unfold rflag; rw [if_neg h, if_neg ht]
    rw [e2]
    by_cases g1 : lastE V E ≤ E
    · have := rnd_exact_lt V E h (by omega) g1
      rw [if_neg (fun hk => by have := k1.1 hk; omega), if_pos (decide_eq_true g1), if_pos g1]
    · rw [if_neg g1, decide_eq_false g1]
      by_cases g2 : rnd V E = 9218868437227405312
      · rw [if_pos (k1.2 g2), if_pos g2]
      · rw [if_neg (fun hk => g2 (k1.1 hk)), if_neg g2, if_neg (by decide)]
        by_cases g3 : rnd V E < 4503599627370496
        · rw [if_neg (fun hk => (k2 g2).1 hk g3), if_pos g3]
        · rw [if_pos ((k2 g2).2 g3), if_neg g3]

theorem rnd_tiny (V : Nat) (E : Int) (h : V ≠ 0) (ht : (bl V : Int) + E < -1080) : rnd V E = 0 ∧ rflag V E = 3 := by
  obtain ⟨a1, a2, a3⟩ := bl_spec V h
  have hl : lastE V E = -1074 := by unfold lastE; omega
  have h0 : rnd V E = 0 := by
    rw [rnd_fin V E h (by omega)]
    unfold rndM
    rw [hl]
    obtain ⟨k, hk⟩ : ∃ k : Nat, -1074 - E = (k : Int) := ⟨(-1074 - E).toNat, by omega⟩
    rw [show E - -1074 = -(k : Int) by omega, mS_down V k (by omega)]
    have h1 : V < 2 ^ (k - 1) := Nat.lt_of_lt_of_le a3 (pow_le2 (by omega))
    have h2 : 2 ^ k = 2 ^ (k - 1) * 2 := by
      obtain ⟨m, rfl⟩ : ∃ m, k = m + 1 := ⟨k - 1, by omega⟩
      exact Nat.pow_succ 2 m
    have h3 : V < 2 ^ k := by omega
    unfold cutE
    rw [Nat.div_eq_of_lt h3, Nat.mod_eq_of_lt h3, if_neg (by omega)]
    simp
  refine ⟨h0, ?_⟩
  unfold rflag
  rw [if_neg h, if_neg (by omega), if_neg (by omega), h0, if_neg (by decide), if_pos (by decide)]

theorem rround_right (na : Bool) (ao : Option Addr) (ca : Nat) (A : List Nat) (E : Int) (w : World) (hA : LimbsAt w ao ca A) (hr : drB na A E = true) (h60 : A.length ≤ 80) :
    Calls Tryd.prog 47 #[.agg #[.bool na, .slice ao A.length ca, .int .i64 E]] w fun r w' => r = .returned (.tuple #[.int .u64 (wrd na (rnd (val A) E) : Nat), .int .u8 (rflag (val A) E)]) ∧ Below w.heap.size w w' := by
  obtain ⟨d1, d2, d3, d4, d5⟩ := drB_bounds hr
  by_cases h0 : A = []
  · subst h0
    have hna : na = false := by
      have := (right_canon d1).2.2
      cases na
      · rfl
      · exact absurd rfl (this rfl)
    subst hna
    have e1 : rnd (val []) E = 0 := by simp [rnd, val]
    have e2 : rflag (val []) E = 0 := by simp [rflag, val]
    rw [e1, e2, wrd_false]
    exact rround_z false ao ca E w
  · have hv := val_ne d1 h0
    have hl : 0 < A.length := List.length_pos_iff.2 h0
    have hval : val A < 2 ^ (32 * 80) := val_lt_pow A hA.2.1 80 h60
    have hbl : bl (val A) ≤ 32 * 80 := by
      have h1 := bl_spec (val A) hv
      have := pow_lt_of (Nat.lt_of_le_of_lt h1.2.1 hval)
      omega
    have hbl1 := (bl_spec (val A) hv).1
    have ho := drB_val hr h0
    have htop : topR A E = (bl (val A) : Int) + E := by unfold topR; rw [if_neg (by omega), lenL_bl hA.2.1 d1]
    have CT : ∀ w', Below w.heap.size w w' → Calls Tryd.prog 62 #[.agg #[.bool na, .slice ao A.length ca, .int .i64 E]] w' fun r w'' => r = .returned (.int .i64 ((bl (val A) : Int) + E)) ∧ Below w'.heap.size w' w'' := fun w' hb => by
      have := rtop_any na ao ca A E w' (hA.below hb) (by omega) (by omega)
      rwa [htop] at this
    have CA : ∀ w', Below w.heap.size w w' → Calls Tryd.prog 72 #[.agg #[.bool na, .slice ao A.length ca, .int .i64 E]] w' fun r w'' => ∃ v, r = .returned v ∧ IsDy w'' v (val A : Int) E ∧ Below w'.heap.size w' w'' := fun w' hb => rabs_any na ao ca A E w' (hA.below hb) d2
    have hle := rnd_le (val A) E
    have CS : ∀ w', Calls Tryd.prog 70 #[.int .u64 (rnd (val A) E : Nat), .bool na] w' fun r w'' => r = .returned (.int .u64 (wrd na (rnd (val A) E) : Nat)) ∧ w' = w'' := fun w' => signed_any _ na w' (by omega)
    have hfl := flags_rflag (val A) E hv
    have htiny := rnd_tiny (val A) E hv
    have hfin := rnd_fin (val A) E hv
    have hbig : 1024 < (bl (val A) : Int) + E → rnd (val A) E = 9218868437227405312 ∧ rflag (val A) E = 5 := fun ht => by
      unfold rnd rflag
      rw [if_neg hv, if_pos ht, if_neg hv, if_pos ht]
      exact ⟨rfl, rfl⟩
    have hM := rndM_bounds (val A) E hv
    obtain ⟨l1, l2, l3⟩ := lastE_ge (val A) E
    have hmx : max ((bl (val A) : Int) + E - 53) (-1074) = lastE (val A) E := rfl
    generalize hVV : val A = V at *
    by_cases g1 : (bl V : Int) + E < -1080
    · obtain ⟨e1, e2⟩ := htiny g1
      rw [e2]
      rw [e1] at CS ⊢
      exact rround_s na ao ca A.length _ E _ w hl (decide_eq_true g1) CT CS
    · by_cases g2 : 1030 < (bl V : Int) + E
      · obtain ⟨e1, e2⟩ := hbig (by omega)
        rw [e2]
        rw [e1] at CS ⊢
        exact rround_l na ao ca A.length _ E _ w hl (decide_eq_false g1) (decide_eq_true g2) CT CS
      · have hm0 : rndM V E = mS V (E - lastE V E) := rfl
        have CN : ∀ w' v, IsDy w' v (V : Int) E → Calls Tryd.prog 71 #[v, .int .i64 (lastE V E)] w' fun r w'' => r = .returned (.tuple #[.int .u64 (rndM V E : Nat), .bool (decide (lastE V E ≤ E))]) ∧ Below w'.heap.size w' w'' := fun w' v h =>
          nearest_dy (lastE V E) h ho (B := 32 * 80) (by decide) hval (by omega) (by omega) (by rw [← hm0]; exact hM.1)
        have CF : ∀ w', Calls Tryd.prog 74 #[.int .u64 (rnd V E : Nat), .bool (decide (lastE V E ≤ E))] w' fun r w'' => r = .returned (.int .u8 (rflag V E)) ∧ w' = w'' := fun w' => by
          have := flags_any (rnd V E) (decide (lastE V E ≤ E)) w' (by omega)
          rw [hfl] at this
          exact this
        generalize rndM V E = m at *
        by_cases g3 : m = 9007199254740992
        · have CB : ∀ w', Calls Tryd.prog 73 #[.int .u64 4503599627370496, .int .i64 (lastE V E + 1)] w' fun r w'' => r = .returned (.int .u64 (rnd V E : Nat)) ∧ w' = w'' := fun w' => by
            by_cases g4 : 971 ≤ lastE V E
            · have hR : rnd V E = 9218868437227405312 := by
                by_cases g5 : 1024 < (bl V : Int) + E
                · exact (hbig g5).1
                · rw [hfin (by omega)]; omega
              rw [hR]
              exact bits_inf 4503599627370496 (lastE V E + 1) w' (by decide) (by omega)
            · have hR := hfin (by omega)
              exact bits_mid 4503599627370496 (lastE V E + 1 + 1074).toNat _ (lastE V E + 1) w' (by decide) (by decide) (by omega) (by omega) (by omega)
          exact rround_c na _ ao ca A.length _ m _ E _ (lastE V E) _ _ w hl (decide_eq_false g1) (decide_eq_false g2) (by omega) hmx (by omega) CT CA CN CB CF CS (by rw [g3]; decide)
        · have CB : ∀ w', Calls Tryd.prog 73 #[.int .u64 m, .int .i64 (lastE V E)] w' fun r w'' => r = .returned (.int .u64 (rnd V E : Nat)) ∧ w' = w'' := fun w' => by
            by_cases g4 : m < 4503599627370496
            · have hlow : lastE V E = -1074 := by
                rcases Int.lt_or_le (-1074) (lastE V E) with h | h
                · have := hM.2.1 h; omega
                · omega
              have hR := hfin (by omega)
              rw [hlow] at hR
              have hR' : rnd V E = m := by rw [hR]; simp
              rw [hR']
              exact bits_low m _ w' (by omega)
            · by_cases g5 : 972 ≤ lastE V E
              · have hR := (hbig (by omega)).1
                rw [hR]
                exact bits_inf m (lastE V E) w' (by omega) (by omega)
              · have hR := hfin (by omega)
                exact bits_mid m (lastE V E + 1074).toNat _ (lastE V E) w' (by omega) (by omega) (by omega) (by omega) hR
          exact rround_n na _ ao ca A.length _ m _ E _ (lastE V E) _ _ w hl (decide_eq_false g1) (decide_eq_false g2) (by omega) hmx (by omega) CT CA CN CB CF CS (by simp; omega)

end Go.Proofs.YtpaikdlhkdgkpaaDoor

