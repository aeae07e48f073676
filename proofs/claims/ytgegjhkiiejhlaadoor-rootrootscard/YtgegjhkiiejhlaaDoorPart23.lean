/- Part 23 of the texts. -/
import Derived.Test.YtgegjhkiiejhlaaDoorPart20
import Derived.Test.YtgegjhkiiejhlaaDoorPart19
import Derived.Test.YtgegjhkiiejhlaaDoorPart21
import Derived.Deep.Cut
import Derived.BigQuiet
/- Contracts of package sum: nought, addFinite, Add, Sub. -/
namespace Go.Proofs.YtgegjhkiiejhlaaDoor
open Go.RowKit

def aO (s t : Bool) : Nat := if (s && t) = true then 9223372036854775808 else 0

theorem dy_len {w : World} {n : Bool} {a : Option Addr} {l c : Nat} {e m X : Int} (h : IsDy w (.agg #[.bool n, .slice a l c, .int .i64 e]) m X) : ((l : Int) == 0) = decide (m = 0) := by
  obtain ⟨n', a', c', L', e1, _, e3, _, e5, _⟩ := h.parts
  simp only [Value.agg.injEq, Array.mk.injEq, List.cons.injEq, Value.slice.injEq] at e1
  have e2 := e1.2.1.2.1
  by_cases h0 : m = 0
  · have : L' = [] := (val_zero_of_canon L' e3).1 (by rw [e5, h0]; rfl)
    rw [decide_eq_true h0, e2, this]; rfl
  · have : L'.length ≠ 0 := fun h1 => by
      have : L' = [] := List.length_eq_zero_iff.1 h1
      rw [this] at e5
      simp [val] at e5
      omega
    rw [decide_eq_false h0]; simp; omega

end Go.Proofs.YtgegjhkiiejhlaaDoor

/- Contracts of package sum: Add, Sub; awake. -/
namespace Go.Proofs.YtgegjhkiiejhlaaDoor
open Go.RowKit

theorem awake5_facts : aV 4607182418800017408 4607182418800017408 = 4611686018427387904 ∧ aF 4607182418800017408 4607182418800017408 = 0 ∧ aV 9218868437227405312 (fN 9218868437227405312) = 9221120237041090560 ∧ aF 9218868437227405312 (fN 9218868437227405312) = 16 := by decide +kernel

end Go.Proofs.YtgegjhkiiejhlaaDoor

/- Contracts of the reference's small, signed, bits, flags. -/
namespace Go.Proofs.YtgegjhkiiejhlaaDoor
open Go.RowKit

set_option maxHeartbeats 2000000 in
theorem rsmall_0 (ng : Bool) (ao : Option Addr) (ca : Nat) (w : World) :
    Calls Tryd.prog 89 #[.agg #[.bool ng, .slice ao 0 ca]] w fun e w' => e = .returned (.int .u64 0) ∧ Below w.heap.size w w' := by
  go_enter Tryd.func89, Tryd.ntmps89
  go_wp2
  refine wp_loop_rounds 1 ?_
  rw [rounds_succ]
  go_wp2
  go_ret
  exact ⟨rfl, (Below.refl _ _).alloc (Nat.le_refl _) _⟩

set_option maxHeartbeats 2000000 in
theorem rsmall_1 (ng : Bool) (b off ca x : Nat) (w : World) (hx : (x : Int) < 4294967296) (c0 : (w.alloc (.cells #[.bool ng, .slice (some ⟨b, off, none⟩) 1 ca] 44)).cell? ⟨b, off, none⟩ = some (.int .u32 x)) :
    Calls Tryd.prog 89 #[.agg #[.bool ng, .slice (some ⟨b, off, none⟩) 1 ca]] w fun e w' => e = .returned (.int .u64 x) ∧ Below w.heap.size w w' := by
  have hx0 : (0 : Int) ≤ x := by omega
  go_enter Tryd.func89, Tryd.ntmps89
  go_wp2
  refine wp_loop_rounds 2 ?_
  rw [rounds_succ]
  go_wp2
  rw [rounds_succ]
  go_wp2
  go_ret
  exact ⟨by simp, (Below.refl _ _).alloc (Nat.le_refl _) _⟩

set_option maxHeartbeats 2000000 in
theorem rsmall_2 (ng : Bool) (b off ca x y : Nat) (w : World) (hx : (x : Int) < 4294967296) (hy : (y : Int) < 2147483648) (c0 : (w.alloc (.cells #[.bool ng, .slice (some ⟨b, off, none⟩) 2 ca] 44)).cell? ⟨b, off, none⟩ = some (.int .u32 x)) (c1 : (w.alloc (.cells #[.bool ng, .slice (some ⟨b, off, none⟩) 2 ca] 44)).cell? ⟨b, off + 1, none⟩ = some (.int .u32 y)) :
    Calls Tryd.prog 89 #[.agg #[.bool ng, .slice (some ⟨b, off, none⟩) 2 ca]] w fun e w' => e = .returned (.int .u64 (y * 4294967296 + x)) ∧ Below w.heap.size w w' := by
  have hx0 : (0 : Int) ≤ x := by omega
  have hy0 : (0 : Int) ≤ y := by omega
  go_enter Tryd.func89, Tryd.ntmps89
  go_wp2
  refine wp_loop_rounds 3 ?_
  rw [rounds_succ]
  go_wp2
  rw [rounds_succ]
  go_wp2
  rw [rounds_succ]
  go_wp2
  go_ret
  exact ⟨rfl, (Below.refl _ _).alloc (Nat.le_refl _) _⟩

set_option maxHeartbeats 1000000 in
theorem signed_any (b : Nat) (ng : Bool) (w : World) (h : b < 9223372036854775808) :
    Calls Tryd.prog 66 #[.int .u64 b, .bool ng] w fun e w' => e = .returned (.int .u64 (wrd ng b : Nat)) ∧ w = w' := by
  have CM := hide (fun w' => rminus4_any b w' (by omega))
  rw [fN_wrd b h] at CM
  have hw := wrd_false b
  cases ng
  · rw [hw]
    clear CM hw h
    go_enter Tryd.func66, Tryd.ntmps66
    go_wp2
    go_ret
    exact ⟨rfl, rfl⟩
  · generalize wrd true b = c at *
    clear hw h
    go_enter Tryd.func66, Tryd.ntmps66
    go_wp2_with (go_at_call 21; refine (unhide CM _).mono ?_; rintro e w2 ⟨rfl, rfl⟩)
    go_ret
    exact ⟨rfl, rfl⟩

set_option maxHeartbeats 1000000 in
theorem flags_any (b : Nat) (ex : Bool) (w : World) (h : b < 18446744073709551616) :
    Calls Tryd.prog 70 #[.int .u64 b, .bool ex] w fun e w' => e = .returned (.int .u8 (if fK b = 3 then 5 else if ex then 0 else if fK b = 2 then 1 else 3)) ∧ w = w' := by
  have CK := hide (fun w' => rkind_any b w' h)
  have hc := fK_cases b
  generalize fK b = k at *
  clear h
  by_cases h1 : k = 3
  · subst h1
    rw [if_pos rfl]
    go_enter Tryd.func70, Tryd.ntmps70
    go_wp2_with (go_at_call 23; refine (unhide CK _).mono ?_; rintro e w2 ⟨rfl, rfl⟩)
    go_ret
    exact ⟨rfl, rfl⟩
  · rw [if_neg h1]
    have g1 : (k == 3) = false := by simp; omega
    clear hc h1
    cases ex
    · by_cases h2 : k = 2
      · subst h2
        go_enter Tryd.func70, Tryd.ntmps70
        go_wp2_with (go_at_call 23; refine (unhide CK _).mono ?_; rintro e w2 ⟨rfl, rfl⟩)
        go_ret
        exact ⟨rfl, rfl⟩
      · rw [if_neg h2]
        have g2 : (k == 2) = false := by simp; omega
        clear h2
        go_enter Tryd.func70, Tryd.ntmps70
        go_wp2_with (go_at_call 23; refine (unhide CK _).mono ?_; rintro e w2 ⟨rfl, rfl⟩)
        go_ret
        exact ⟨rfl, rfl⟩
    · go_enter Tryd.func70, Tryd.ntmps70
      go_wp2_with (go_at_call 23; refine (unhide CK _).mono ?_; rintro e w2 ⟨rfl, rfl⟩)
      go_ret
      exact ⟨rfl, rfl⟩

set_option maxHeartbeats 1000000 in
theorem bits_low (m : Nat) (e : Int) (w : World) (h : (m : Int) < 4503599627370496) :
    Calls Tryd.prog 69 #[.int .u64 m, .int .i64 e] w fun r w' => r = .returned (.int .u64 m) ∧ w = w' := by
  have g1 : decide ((m : Int) < 4503599627370496) = true := decide_eq_true h
  clear h
  go_enter Tryd.func69, Tryd.ntmps69
  go_wp2
  go_ret
  exact ⟨rfl, rfl⟩

set_option maxHeartbeats 1000000 in
theorem bits_inf (m : Nat) (e : Int) (w : World) (h : 4503599627370496 ≤ (m : Int)) (he : 972 ≤ e ∧ e ≤ 100000) :
    Calls Tryd.prog 69 #[.int .u64 m, .int .i64 e] w fun r w' => r = .returned (.int .u64 9218868437227405312) ∧ w = w' := by
  have g1 : decide ((m : Int) < 4503599627370496) = false := decide_eq_false (by omega)
  have w1 : IntKind.i64.wrap (e + 1075) = e + 1075 := by simp only [IntKind.wrap_i64]; omega
  have g2 : decide (2047 ≤ e + 1075) = true := decide_eq_true (by omega)
  clear h he
  go_enter Tryd.func69, Tryd.ntmps69
  go_wp2
  go_ret
  exact ⟨rfl, rfl⟩

set_option maxHeartbeats 1000000 in
theorem bits_mid (m k r : Nat) (e : Int) (w : World) (h : 4503599627370496 ≤ (m : Int)) (hm : (m : Int) ≤ 9007199254740992) (hk : e + 1074 = (k : Int)) (hk2 : (k : Int) ≤ 2045) (hr : r = m + k * 4503599627370496) :
    Calls Tryd.prog 69 #[.int .u64 m, .int .i64 e] w fun q w' => q = .returned (.int .u64 r) ∧ w = w' := by
  have g1 : decide ((m : Int) < 4503599627370496) = false := decide_eq_false (by omega)
  have w1 : IntKind.i64.wrap (e + 1075) = e + 1075 := by simp only [IntKind.wrap_i64]; omega
  have w2 : IntKind.u64.wrap (e + 1075) = e + 1075 := by simp only [IntKind.wrap_u64]; omega
  have w3 : IntKind.u64.wrap ((e + 1075) * 4503599627370496) = (e + 1075) * 4503599627370496 := by simp only [IntKind.wrap_u64]; omega
  have w4 : IntKind.u64.wrap ((e + 1075) * 4503599627370496 + (m : Int)) = (e + 1075) * 4503599627370496 + (m : Int) := by simp only [IntKind.wrap_u64]; omega
  have w5 : IntKind.u64.wrap ((e + 1075) * 4503599627370496 + (m : Int) - 4503599627370496) = (r : Int) := by simp only [IntKind.wrap_u64]; omega
  have g2 : decide (2047 ≤ e + 1075) = false := decide_eq_false (by omega)
  clear h hm hk hk2 hr
  go_enter Tryd.func69, Tryd.ntmps69
  go_wp2
  go_ret
  exact ⟨rfl, rfl⟩

end Go.Proofs.YtgegjhkiiejhlaaDoor

/- Contracts of the reference's small of a number, abs. -/
namespace Go.Proofs.YtgegjhkiiejhlaaDoor
open Go.RowKit

theorem rsmall_num {B : Nat} {w : World} {v : Value} {z : Int} (hv : IsNum B w v z) (n : Nat) (hz : z = (n : Int)) (hn : n < 9223372036854775808) :
    Calls Tryd.prog 89 #[v] w fun e w' => e = .returned (.int .u64 n) ∧ Below w.heap.size w w' := by
  obtain ⟨ng, ao, ca, L, rfl, h1, _, h3, _, h5, _⟩ := hv
  have hval : val L = n := by rw [h5, hz]; simp
  have hl : L.length ≤ 2 := (length_le_iff L h1.2.1 h3 2).2 (by
    have : (4294967296 : Nat) ^ 2 = 18446744073709551616 := by decide
    omega)
  have hb0 : ∀ o : Obj, Below w.heap.size w (w.alloc o) := fun o => (Below.refl _ _).alloc (Nat.le_refl _) o
  match L, hl, h1, hval with
  | [], _, h1, hval =>
    have : n = 0 := by rw [← hval]; rfl
    subst this
    exact rsmall_0 ng ao ca w
  | [x], _, h1, hval =>
    have hx : x = n := by simpa [val] using hval
    subst hx
    rcases h1.2.2 with h | ⟨b, off, rfl, h2, h4⟩
    · cases h
    · have hx := h1.2.1 x (by simp)
      have c0 := h4 0 (by simp)
      rw [← (hb0 (.cells #[.bool ng, .slice (some ⟨b, off, none⟩) 1 ca] 44)).cell (p := ⟨b, off + 0, none⟩) h2] at c0
      exact rsmall_1 ng b off ca x w (by omega) (by simpa using c0)
  | [x, y], _, h1, hval =>
    have hxy : y * 4294967296 + x = n := by
      simp only [val] at hval
      omega
    rcases h1.2.2 with h | ⟨b, off, rfl, h2, h4⟩
    · cases h
    · have hx := h1.2.1 x (by simp)
      have c0 := h4 0 (by simp)
      have c1 := h4 1 (by simp)
      rw [← (hb0 (.cells #[.bool ng, .slice (some ⟨b, off, none⟩) 2 ca] 44)).cell (p := ⟨b, off + 0, none⟩) h2] at c0
      rw [← (hb0 (.cells #[.bool ng, .slice (some ⟨b, off, none⟩) 2 ca] 44)).cell (p := ⟨b, off + 1, none⟩) h2] at c1
      have := rsmall_2 ng b off ca x y w (by omega) (by omega) (by simpa using c0) (by simpa using c1)
      rw [show ((y : Int) * 4294967296 + (x : Int)) = (n : Int) by omega] at this
      exact this

set_option maxHeartbeats 2000000 in
theorem rabs_any (na : Bool) (ao : Option Addr) (ca : Nat) (A : List Nat) (E : Int) (w : World) (hA : LimbsAt w ao ca A) (la : A.length ≤ 512) :
    Calls Tryd.prog 68 #[.agg #[.bool na, .slice ao A.length ca, .int .i64 E]] w fun r w' => ∃ v, r = .returned v ∧ IsDy w' v (val A : Int) E ∧ Below w.heap.size w w' := by
  have CN := hide (fun w' h => made_any 0 false ao ca A w' h (NewAt.zero h) (by omega))
  have hs : sval false A = (val A : Int) := rfl
  rw [hs] at CN
  generalize (val A : Int) = z at *
  have hb0 : Below w.heap.size w ((w.alloc (.cells #[.bool na, .slice ao A.length ca, .int .i64 E] 46)).alloc (.cells #[.bool false, .slice none 0 0, .int .i64 0] 46)) := ((Below.refl _ _).alloc (Nat.le_refl _) _).alloc (by simp) _
  have x0 : Box3 ((w.alloc (.cells #[.bool na, .slice ao A.length ca, .int .i64 E] 46)).alloc (.cells #[.bool false, .slice none 0 0, .int .i64 0] 46)) w.heap.size (.bool na) (.slice ao A.length ca) (.int .i64 E) := (Box3.new _ _ _ _).old _
  have x2 : Box3 ((w.alloc (.cells #[.bool na, .slice ao A.length ca, .int .i64 E] 46)).alloc (.cells #[.bool false, .slice none 0 0, .int .i64 0] 46)) (w.heap.size + 1) (.bool false) (.slice none 0 0) (.int .i64 0) := by
    have := Box3.new (w.alloc (.cells #[.bool na, .slice ao A.length ca, .int .i64 E] 46)) (.bool false) (.slice none 0 0) (.int .i64 0)
    simpa using this
  have B0 := hide hb0; have X0 := hide x0; have X2 := hide x2
  clear hb0 x0 x2 hs
  go_enter Tryd.func68, Tryd.ntmps68
  go_wp2_with fail
  refine at_world (fun W => Below w.heap.size w W ∧ Box3 W w.heap.size (.bool na) (.slice ao A.length ca) (.int .i64 E) ∧ Box3 W (w.heap.size + 1) (.bool false) (.slice none 0 0) (.int .i64 0)) ⟨unhide B0, unhide X0, unhide X2⟩ ?_
  clear B0 X0 X2
  rintro W0 ⟨b0, x0, x2⟩
  have s0 : w.heap.size + 1 < W0.heap.size := x2.lt
  have hK : ∀ w', Below (w.heap.size + 1) W0 w' → Below (w.heap.size + 1) W0 w' ∧ w'.cell? ⟨w.heap.size, 0, none⟩ = some (.bool na) ∧ w'.cell? ⟨w.heap.size, 1, none⟩ = some (.slice ao A.length ca) ∧ w'.cell? ⟨w.heap.size, 2, none⟩ = some (.int .i64 E) := fun w' h =>
    ⟨h, (x0.below h (by omega)).c0, (x0.below h (by omega)).c1, (x0.below h (by omega)).c2⟩
  have HK := hide hK; have BB := hide b0; have X2 := hide x2
  clear hK b0 x0 x2
  go_region_held3 (fun w' => Below (w.heap.size + 1) W0 w' ∧ w'.cell? ⟨w.heap.size, 0, none⟩ = some (.bool na) ∧ w'.cell? ⟨w.heap.size, 1, none⟩ = some (.slice ao A.length ca) ∧ w'.cell? ⟨w.heap.size, 2, none⟩ = some (.int .i64 E))
    (first | exact unhide HK _ (Below.refl _ _).drew | exact unhide HK _ (by assumption) | exact unhide HK _ (below_put3 hB1 (by omega) _ _ _) | fail "NO KEEP")
    (first | (go_at_call 58; refine (unhide CN _ (hA.below ((unhide BB).trans ((Below.refl _ _).drew)))).mono ?_; rintro e w3 ⟨v, rfl, ⟨n4, a4, c4, L4, rfl, i4⟩, hb1⟩; have hB1 : Below (w.heap.size + 1) W0 w3 := ((Below.refl _ _).drew).trans (hb1.mono (by simp; omega)); have X4 := ((unhide X2).drew.below hb1 (by simp; omega)); have IZ := hide (show IsNum 0 w3 (.agg #[.bool n4, .slice a4 L4.length c4]) z from ⟨n4, a4, c4, L4, rfl, i4.1, i4.2.1, i4.2.2.1, i4.2.2.2.1, i4.2.2.2.2.1, by have := i4.2.2.2.2.2; omega⟩); have y0 := X4.c0; have y1 := X4.c1; have y2 := X4.c2; have f0 := X4.free 0; have f1 := X4.free 1; have f2 := X4.free 2; have X5 := hide X4; have BB1 := hide ((unhide BB).trans (hB1.mono (by omega))); clear hb1 i4 X4) | fail "NO ARM")
  go_wp2
  have j2 : IsDy w3 (.agg #[.bool n4, .slice a4 L4.length c4, .int .i64 E]) z E := ⟨n4, a4, c4, L4, rfl, unhide IZ⟩
  refine bodyPost_ret (v := .agg #[.bool n4, .slice a4 L4.length c4, .int .i64 E]) (by simp [results, Tryd.results68, go_sem, y0, y1, y2]) rfl ⟨_, rfl, j2.put3 (unhide X5) _ _ _, below_put3 (unhide BB1) (by omega) _ _ _⟩

end Go.Proofs.YtgegjhkiiejhlaaDoor

/- Contract of the reference's Nearest, where digits are dropped: the walk. -/
namespace Go.Proofs.YtgegjhkiiejhlaaDoor
open Go.RowKit

theorem at_thenB {K : Act → World → Prop} {Q : Exit → Act → World → Prop} {a : Act} {w : World} (F : World → Prop) (h : F w) (k : ∀ W, F W → Exit.then K Q .normal a W) : Exit.then K Q .normal a w := k w h

/-- What stands behind the rest: its box g, the number in it, the quotient's box. -/
def TailN (w : World) (g1 : Nat) (n : Bool) (a : Option Addr) (l c : Nat) (np : Bool) (ap : Option Addr) (lp cp : Nat) (q R X : Int) (g : Nat) (W : World) : Prop :=
  Below w.heap.size w W ∧ Box3 W g (.bool np) (.slice ap lp cp) (.int .i64 X) ∧ IsDy W (.agg #[.bool np, .slice ap lp cp, .int .i64 X]) R X ∧ Box2 W g1 (.bool n) (.slice a l c) ∧ IsNum 0 W (.agg #[.bool n, .slice a l c]) q

theorem IsNum.box3 {B : Nat} {w : World} {v : Value} {x : Int} (h : IsNum B w v x) {g : Nat} {y : Bool} {a : Option Addr} {n c : Nat} {k : Int} (hx : Box3 w g (.bool y) (.slice a n c) (.int .i64 k)) (u u' u'' : Value) : IsNum B (((w.setCell ⟨g, 0, none⟩ u).setCell ⟨g, 1, none⟩ u').setCell ⟨g, 2, none⟩ u'') v x := by
  obtain ⟨neg, ao, cap, L, h1, h2, h3⟩ := h
  exact ⟨neg, ao, cap, L, h1, h2.box3 hx _ _ _, h3⟩

theorem Box2.other3 {w : World} {b g : Nat} {x y : Value} (h : Box2 w b x y) (hne : b ≠ g) (u u' u'' : Value) : Box2 (((w.setCell ⟨g, 0, none⟩ u).setCell ⟨g, 1, none⟩ u').setCell ⟨g, 2, none⟩ u'') b x y :=
  ((h.other (p := ⟨g, 0, none⟩) hne u).other (p := ⟨g, 1, none⟩) hne u').other (p := ⟨g, 2, none⟩) hne u''

set_option maxHeartbeats 8000000 in
theorem near_a (ng : Bool) (ao : Option Addr) (ca l n : Nat) (E e q M X R Y R2 Y2 O Z c : Int) (w : World) (hE : -20000 ≤ E ∧ E ≤ 20000) (he : -20000 ≤ e ∧ e ≤ 20000) (hlt : decide (e ≤ E) = false) (hn : (n : Int) < 1152921504606846976) (hR : ∀ W np ap lp cp, IsDy W (.agg #[.bool np, .slice ap lp cp, .int .i64 Y]) R Y → ((lp : Int) == 0) = false)
    (CSH : ∀ w', Below w.heap.size w w' → Calls Tryd.prog 32 #[.agg #[.bool ng, .slice ao l ca], .int .i64 (E - e)] w' fun r w'' => ∃ v, r = .returned v ∧ IsNum 0 w'' v q ∧ Below w'.heap.size w' w'')
    (COF : ∀ w' v, IsNum 0 w' v q → Calls Tryd.prog 40 #[v, .int .i64 e] w' fun r w'' => ∃ u, r = .returned u ∧ IsDy w'' u M X ∧ Below w'.heap.size w' w'')
    (CSU : ∀ w' u, Below w.heap.size w w' → IsDy w' u M X → Calls Tryd.prog 50 #[.agg #[.bool ng, .slice ao l ca, .int .i64 E], u] w' fun r w'' => ∃ u, r = .returned u ∧ IsDy w'' u R Y ∧ Below w'.heap.size w' w'')
    (CSC : ∀ w' v, IsDy w' v R Y → Calls Tryd.prog 46 #[v, .int .i64 1] w' fun r w'' => ∃ u, r = .returned u ∧ IsDy w'' u R2 Y2 ∧ Below w'.heap.size w' w'')
    (CO2 : ∀ w' v, IsNumM 2 0 w' v 1 → Calls Tryd.prog 40 #[v, .int .i64 e] w' fun r w'' => ∃ u, r = .returned u ∧ IsDy w'' u O Z ∧ Below w'.heap.size w' w'')
    (CCM : ∀ w' v u, IsDy w' v R2 Y2 → IsDy w' u O Z → Calls Tryd.prog 26 #[v, u] w' fun r w'' => r = .returned (.int .i64 c) ∧ Below w'.heap.size w' w'')
    (CSM : ∀ w' v, IsNum 0 w' v q → Calls Tryd.prog 89 #[v] w' fun r w'' => r = .returned (.int .u64 n) ∧ Below w'.heap.size w' w'')
    (k1 : decide ((0 : Int) < c) = true) :
    Calls Tryd.prog 67 #[.agg #[.bool ng, .slice ao l ca, .int .i64 E], .int .i64 e] w fun r w' => r = .returned (.tuple #[.int .u64 (n + 1), .bool false]) ∧ Below w.heap.size w w' := by
  have KSH := hide CSH; have KOF := hide COF; have KSU := hide CSU; have KSC := hide CSC; have KO2 := hide CO2; have KCM := hide CCM; have KSM := hide CSM; have HR := hide hR
  clear CSH COF CSU CSC CO2 CCM CSM hR
  have w1 : IntKind.i64.wrap (E - e) = E - e := by simp only [IntKind.wrap_i64]; omega
  have hn0 : (0 : Int) ≤ n := by omega
  have B0 := hide ((Below.refl w.heap.size w).alloc (Nat.le_refl _) (.cells #[.bool ng, .slice ao l ca, .int .i64 E] 46))
  have X0 := hide (Box3.new w (.bool ng) (.slice ao l ca) (.int .i64 E))
  clear hE he
  go_enter Tryd.func67, Tryd.ntmps67
  go_wp2_with fail
  refine (unhide KSH _ (unhide B0)).mono ?_
  rintro r w1' ⟨v, rfl, hv, hb1⟩
  have b1 := (unhide B0).trans (hb1.mono (unhide B0).size)
  have x1 := (unhide X0).all hb1
  obtain ⟨n1, a1, c1, L1, rfl, i1⟩ := hv
  have hb2 : Below w1'.heap.size w1' (w1'.alloc (.cells #[.bool n1, .slice a1 L1.length c1] 44)) := (Below.refl _ _).alloc (Nat.le_refl _) _
  have F0 := hide (show Below w.heap.size w (w1'.alloc (.cells #[.bool n1, .slice a1 L1.length c1] 44)) ∧ Box3 (w1'.alloc (.cells #[.bool n1, .slice a1 L1.length c1] 44)) w.heap.size (.bool ng) (.slice ao l ca) (.int .i64 E) ∧ Box2 (w1'.alloc (.cells #[.bool n1, .slice a1 L1.length c1] 44)) w1'.heap.size (.bool n1) (.slice a1 L1.length c1) ∧ IsNum 0 (w1'.alloc (.cells #[.bool n1, .slice a1 L1.length c1] 44)) (.agg #[.bool n1, .slice a1 L1.length c1]) q from
    ⟨b1.trans (hb2.mono b1.size), x1.all hb2, Box2.new _ _ _, (show IsNum 0 w1' (.agg #[.bool n1, .slice a1 L1.length c1]) q from ⟨n1, a1, c1, L1, rfl, i1⟩).below hb2⟩)
  clear b1 hb1 x1 i1 hb2 B0 X0 KSH
  generalize L1.length = l1 at *
  go_upto_region 4 with (fail)
  refine at_world (fun W => Below w.heap.size w W ∧ Box3 W w.heap.size (.bool ng) (.slice ao l ca) (.int .i64 E) ∧ Box2 W w1'.heap.size (.bool n1) (.slice a1 l1 c1) ∧ IsNum 0 W (.agg #[.bool n1, .slice a1 l1 c1]) q) (unhide F0) ?_
  clear F0
  generalize w1'.heap.size = g1 at *
  rintro W0 ⟨b0, x0, x1, iq⟩
  have hg1 : g1 < W0.heap.size := x1.lt
  have hK : ∀ w', Below W0.heap.size W0 w' → Below W0.heap.size W0 w' ∧ w'.cell? ⟨w.heap.size, 0, none⟩ = some (.bool ng) ∧ w'.cell? ⟨w.heap.size, 1, none⟩ = some (.slice ao l ca) ∧ w'.cell? ⟨w.heap.size, 2, none⟩ = some (.int .i64 E) ∧ w'.cell? ⟨g1, 0, none⟩ = some (.bool n1) ∧ w'.cell? ⟨g1, 1, none⟩ = some (.slice a1 l1 c1) := fun w' h => ⟨h, (x0.all h).c0, (x0.all h).c1, (x0.all h).c2, (x1.all h).c0, (x1.all h).c1⟩
  have HK := hide hK
  have HKA := hide (fun wn o (h1 : Below W0.heap.size W0 wn) => unhide HK (wn.alloc o) (h1.alloc h1.size o))
  have HKS := hide (fun wn g u u' u'' (h1 : Below W0.heap.size W0 wn) (h4 : W0.heap.size ≤ g) => unhide HK (((wn.setCell ⟨g, 0, none⟩ u).setCell ⟨g, 1, none⟩ u').setCell ⟨g, 2, none⟩ u'') (below_put3 h1 h4 u u' u''))
  have BXA := hide (fun wn (h1 : Below (W0.drew.alloc (.cells #[.bool false, .slice none 0 0, .int .i64 0] 46)).heap.size (W0.drew.alloc (.cells #[.bool false, .slice none 0 0, .int .i64 0] 46)) wn) => (Box3.new W0.drew (.bool false) (.slice none 0 0) (.int .i64 0)).below h1 (by simp))
  have BXB := hide (fun wn wm (h2 : Below (wn.alloc (.cells #[.bool false, .slice none 0 0, .int .i64 0] 46)).heap.size (wn.alloc (.cells #[.bool false, .slice none 0 0, .int .i64 0] 46)) wm) => (Box3.new wn (.bool false) (.slice none 0 0) (.int .i64 0)).below h2 (by simp))
  have KOF' := hide (fun w' (h : Below W0.heap.size W0 w') => unhide KOF w' _ (iq.below h))
  have KSU' := hide (fun w' u (h : Below W0.heap.size W0 w') hu => unhide KSU w' u (b0.trans (h.mono b0.size)) hu)
  have HT := hide (fun (W : World) (g : Nat) {np : Bool} {ap : Option Addr} {lp cp : Nat} (h1 : Below W0.heap.size W0 W) (h2 : Box3 W g (.bool np) (.slice ap lp cp) (.int .i64 Y)) (h3 : IsDy W (.agg #[.bool np, .slice ap lp cp, .int .i64 Y]) R Y) =>
    (show TailN w g1 n1 a1 l1 c1 np ap lp cp q R Y g W from ⟨b0.trans (h1.mono b0.size), h2, h3, x1.all h1, iq.below h1⟩))
  clear hK b0 x0 x1 iq KOF KSU
  go_region_held3 (fun w' => Below W0.heap.size W0 w' ∧ w'.cell? ⟨w.heap.size, 0, none⟩ = some (.bool ng) ∧ w'.cell? ⟨w.heap.size, 1, none⟩ = some (.slice ao l ca) ∧ w'.cell? ⟨w.heap.size, 2, none⟩ = some (.int .i64 E) ∧ w'.cell? ⟨g1, 0, none⟩ = some (.bool n1) ∧ w'.cell? ⟨g1, 1, none⟩ = some (.slice a1 l1 c1))
    (first | assumption | exact unhide HK _ (Below.refl _ _).drew | exact unhide HK _ (by assumption) | exact unhide HKA _ _ (by assumption) | exact unhide HKA _ _ (And.left (by assumption)) | exact unhide HKS _ _ _ _ _ hBwm (by first | exact Nat.le_refl _ | exact Below.size (by assumption)) | fail "NO KEEP")
    (first | (go_at_call 40; refine (unhide KOF' _ (And.left (by assumption))).mono ?_; rintro r wa ⟨u, rfl, iu, hb1⟩; have hBwa : Below W0.heap.size W0 wa := Below.trans (And.left (by assumption)) (hb1.mono (Below.size (And.left (by assumption)))); (first | (have xb : Box3 wa W0.heap.size (.bool false) (.slice none 0 0) (.int .i64 0) := unhide BXA _ hb1) | skip); have IU := hide iu; clear iu; clear hb1) | (go_at_call 50; refine (unhide KSU' _ _ (And.left (by assumption)) (by first | exact unhide IU | exact (unhide IU).below ((Below.refl _ _).alloc (Nat.le_refl _) _))).mono ?_; rintro r wm ⟨u, rfl, ⟨np, ap, cp, Lp, rfl, jp⟩, hb1⟩; have hBwm : Below W0.heap.size W0 wm := Below.trans (And.left (by assumption)) (hb1.mono (Below.size (And.left (by assumption)))); (first | (have xb := Box3.below xb hb1 xb.lt) | (have xb := unhide BXB _ _ hb1) | skip); (first | (have kb0 := xb.c0; have kb1 := xb.c1; have kb2 := xb.c2; have gb0 := xb.free 0; have gb1 := xb.free 1; have gb2 := xb.free 2) | skip); have IP := hide (show IsDy wm (.agg #[.bool np, .slice ap Lp.length cp, .int .i64 Y]) R Y from ⟨np, ap, cp, Lp, rfl, jp⟩); clear hb1 jp) | fail "NO ARM")
  all_goals
    first
      | refine at_thenB (TailN _ _ _ _ _ _ _ _ _ _ _ _ _ W0.heap.size) (unhide HT _ _ (And.left (by assumption)) (xb.put _ _ _) ((unhide IP).put3 xb _ _ _)) ?_
      | refine at_thenB (TailN _ _ _ _ _ _ _ _ _ _ _ _ _ wa.heap.size) (unhide HT _ _ (And.left (by assumption)) (xb.put _ _ _) ((unhide IP).put3 xb _ _ _)) ?_
      | refine at_thenB (TailN _ _ _ _ _ _ _ _ _ _ _ _ _ wm.heap.size) (unhide HT _ _ (And.left (by assumption)) (Box3.new _ _ _ _) ((unhide IP).below ((Below.refl _ _).alloc (Nat.le_refl _) _))) ?_
      | fail "NO WAY"
  all_goals
    rintro W ⟨bW, xg, ir, x1, iq⟩
    have hz := unhide HR _ _ _ _ _ ir
    have IR := hide ir; have IQ := hide iq; have BW := hide bW; have X1 := hide x1; have XG := hide xg
    have kc0 := xg.c0; have kc1 := xg.c1; have kc2 := xg.c2
    try clear kb0 kb1 kb2 gb0 gb1 gb2
    try clear xb
    clear xg ir iq bW x1 HT HK HKA HKS BXA BXB KOF' KSU' IP IU hBwa hBwm HR
    try clear hg1
    generalize Lp.length = lp at *
    go_wp2_with fail
    refine (unhide KSC _ _ (unhide IR)).mono ?_
    rintro r w3 ⟨u3, rfl, i3, hb3⟩
    have I3 := hide i3
    have B3 := hide hb3
    clear i3 hb3 KSC
    go_wp2_with fail
    refine (refOf_any 1 _ (by decide) (by decide)).mono ?_
    rintro r w4 ⟨u4, rfl, i4, hb4⟩
    have I4 := hide (IsNumM.zeroB i4)
    have B4 := hide ((unhide B3).trans (hb4.mono (unhide B3).size))
    have I3' := hide ((unhide I3).below hb4)
    clear i4 hb4 I3 B3
    go_wp2_with fail
    refine (unhide KO2 _ _ (unhide I4)).mono ?_
    rintro r w5 ⟨u5, rfl, i5, hb5⟩
    have I5 := hide i5
    have B5 := hide ((unhide B4).trans (hb5.mono (unhide B4).size))
    have I3 := hide ((unhide I3').below hb5)
    clear i5 hb5 I3' B4 I4 KO2
    go_wp2_with fail
    refine (unhide KCM _ _ _ (unhide I3) (unhide I5)).mono ?_
    rintro r w6 ⟨rfl, hb6⟩
    have b6 := (unhide B5).trans (hb6.mono (unhide B5).size)
    have x1 := (unhide X1).all b6
    have IQ6 := hide ((unhide IQ).below b6)
    have XG6 := hide ((unhide XG).all b6)
    have BW6 := hide ((unhide BW).trans (b6.mono (unhide BW).size))
    clear kc0 kc1 kc2
    have q0 := x1.c0; have q1 := x1.c1
    clear x1 b6 hb6 B5 I3 I5 KCM IQ X1 XG BW IR
    go_wp2_with fail
    refine (unhide KSM _ _ (unhide IQ6)).mono ?_
    rintro r w7 ⟨rfl, hb7⟩
    have x7 := (unhide XG6).all hb7
    have BW7 := hide ((unhide BW6).trans (hb7.mono (unhide BW6).size))
    have kc0 := x7.c0; have kc1 := x7.c1; have kc2 := x7.c2
    clear x7 hb7 q0 q1 IQ6 XG6 BW6 KSM
    go_wp2
    go_quiet (fail)
    go_wp2
    exact bodyPost_ret (v := .tuple #[.int .u64 (n + 1), .bool false]) (by simp [results, Tryd.results67, go_sem]) rfl ⟨rfl, below_drewN (unhide BW7) _⟩

set_option maxHeartbeats 8000000 in
theorem near_b (ng : Bool) (ao : Option Addr) (ca l n : Nat) (E e q M X R Y R2 Y2 O Z c : Int) (w : World) (hE : -20000 ≤ E ∧ E ≤ 20000) (he : -20000 ≤ e ∧ e ≤ 20000) (hlt : decide (e ≤ E) = false) (hn : (n : Int) < 1152921504606846976) (hR : ∀ W np ap lp cp, IsDy W (.agg #[.bool np, .slice ap lp cp, .int .i64 Y]) R Y → ((lp : Int) == 0) = false)
    (CSH : ∀ w', Below w.heap.size w w' → Calls Tryd.prog 32 #[.agg #[.bool ng, .slice ao l ca], .int .i64 (E - e)] w' fun r w'' => ∃ v, r = .returned v ∧ IsNum 0 w'' v q ∧ Below w'.heap.size w' w'')
    (COF : ∀ w' v, IsNum 0 w' v q → Calls Tryd.prog 40 #[v, .int .i64 e] w' fun r w'' => ∃ u, r = .returned u ∧ IsDy w'' u M X ∧ Below w'.heap.size w' w'')
    (CSU : ∀ w' u, Below w.heap.size w w' → IsDy w' u M X → Calls Tryd.prog 50 #[.agg #[.bool ng, .slice ao l ca, .int .i64 E], u] w' fun r w'' => ∃ u, r = .returned u ∧ IsDy w'' u R Y ∧ Below w'.heap.size w' w'')
    (CSC : ∀ w' v, IsDy w' v R Y → Calls Tryd.prog 46 #[v, .int .i64 1] w' fun r w'' => ∃ u, r = .returned u ∧ IsDy w'' u R2 Y2 ∧ Below w'.heap.size w' w'')
    (CO2 : ∀ w' v, IsNumM 2 0 w' v 1 → Calls Tryd.prog 40 #[v, .int .i64 e] w' fun r w'' => ∃ u, r = .returned u ∧ IsDy w'' u O Z ∧ Below w'.heap.size w' w'')
    (CCM : ∀ w' v u, IsDy w' v R2 Y2 → IsDy w' u O Z → Calls Tryd.prog 26 #[v, u] w' fun r w'' => r = .returned (.int .i64 c) ∧ Below w'.heap.size w' w'')
    (CSM : ∀ w' v, IsNum 0 w' v q → Calls Tryd.prog 89 #[v] w' fun r w'' => r = .returned (.int .u64 n) ∧ Below w'.heap.size w' w'')
    (k1 : decide ((0 : Int) < c) = false) (k2 : (c == 0) = true) (k3 : ((n : Int) % 2 == 1) = true) :
    Calls Tryd.prog 67 #[.agg #[.bool ng, .slice ao l ca, .int .i64 E], .int .i64 e] w fun r w' => r = .returned (.tuple #[.int .u64 (n + 1), .bool false]) ∧ Below w.heap.size w w' := by
  have KSH := hide CSH; have KOF := hide COF; have KSU := hide CSU; have KSC := hide CSC; have KO2 := hide CO2; have KCM := hide CCM; have KSM := hide CSM; have HR := hide hR
  clear CSH COF CSU CSC CO2 CCM CSM hR
  have w1 : IntKind.i64.wrap (E - e) = E - e := by simp only [IntKind.wrap_i64]; omega
  have hn0 : (0 : Int) ≤ n := by omega
  have B0 := hide ((Below.refl w.heap.size w).alloc (Nat.le_refl _) (.cells #[.bool ng, .slice ao l ca, .int .i64 E] 46))
  have X0 := hide (Box3.new w (.bool ng) (.slice ao l ca) (.int .i64 E))
  clear hE he
  go_enter Tryd.func67, Tryd.ntmps67
  go_wp2_with fail
  refine (unhide KSH _ (unhide B0)).mono ?_
  rintro r w1' ⟨v, rfl, hv, hb1⟩
  have b1 := (unhide B0).trans (hb1.mono (unhide B0).size)
  have x1 := (unhide X0).all hb1
  obtain ⟨n1, a1, c1, L1, rfl, i1⟩ := hv
  have hb2 : Below w1'.heap.size w1' (w1'.alloc (.cells #[.bool n1, .slice a1 L1.length c1] 44)) := (Below.refl _ _).alloc (Nat.le_refl _) _
  have F0 := hide (show Below w.heap.size w (w1'.alloc (.cells #[.bool n1, .slice a1 L1.length c1] 44)) ∧ Box3 (w1'.alloc (.cells #[.bool n1, .slice a1 L1.length c1] 44)) w.heap.size (.bool ng) (.slice ao l ca) (.int .i64 E) ∧ Box2 (w1'.alloc (.cells #[.bool n1, .slice a1 L1.length c1] 44)) w1'.heap.size (.bool n1) (.slice a1 L1.length c1) ∧ IsNum 0 (w1'.alloc (.cells #[.bool n1, .slice a1 L1.length c1] 44)) (.agg #[.bool n1, .slice a1 L1.length c1]) q from
    ⟨b1.trans (hb2.mono b1.size), x1.all hb2, Box2.new _ _ _, (show IsNum 0 w1' (.agg #[.bool n1, .slice a1 L1.length c1]) q from ⟨n1, a1, c1, L1, rfl, i1⟩).below hb2⟩)
  clear b1 hb1 x1 i1 hb2 B0 X0 KSH
  generalize L1.length = l1 at *
  go_upto_region 4 with (fail)
  refine at_world (fun W => Below w.heap.size w W ∧ Box3 W w.heap.size (.bool ng) (.slice ao l ca) (.int .i64 E) ∧ Box2 W w1'.heap.size (.bool n1) (.slice a1 l1 c1) ∧ IsNum 0 W (.agg #[.bool n1, .slice a1 l1 c1]) q) (unhide F0) ?_
  clear F0
  generalize w1'.heap.size = g1 at *
  rintro W0 ⟨b0, x0, x1, iq⟩
  have hg1 : g1 < W0.heap.size := x1.lt
  have hK : ∀ w', Below W0.heap.size W0 w' → Below W0.heap.size W0 w' ∧ w'.cell? ⟨w.heap.size, 0, none⟩ = some (.bool ng) ∧ w'.cell? ⟨w.heap.size, 1, none⟩ = some (.slice ao l ca) ∧ w'.cell? ⟨w.heap.size, 2, none⟩ = some (.int .i64 E) ∧ w'.cell? ⟨g1, 0, none⟩ = some (.bool n1) ∧ w'.cell? ⟨g1, 1, none⟩ = some (.slice a1 l1 c1) := fun w' h => ⟨h, (x0.all h).c0, (x0.all h).c1, (x0.all h).c2, (x1.all h).c0, (x1.all h).c1⟩
  have HK := hide hK
  have HKA := hide (fun wn o (h1 : Below W0.heap.size W0 wn) => unhide HK (wn.alloc o) (h1.alloc h1.size o))
  have HKS := hide (fun wn g u u' u'' (h1 : Below W0.heap.size W0 wn) (h4 : W0.heap.size ≤ g) => unhide HK (((wn.setCell ⟨g, 0, none⟩ u).setCell ⟨g, 1, none⟩ u').setCell ⟨g, 2, none⟩ u'') (below_put3 h1 h4 u u' u''))
  have BXA := hide (fun wn (h1 : Below (W0.drew.alloc (.cells #[.bool false, .slice none 0 0, .int .i64 0] 46)).heap.size (W0.drew.alloc (.cells #[.bool false, .slice none 0 0, .int .i64 0] 46)) wn) => (Box3.new W0.drew (.bool false) (.slice none 0 0) (.int .i64 0)).below h1 (by simp))
  have BXB := hide (fun wn wm (h2 : Below (wn.alloc (.cells #[.bool false, .slice none 0 0, .int .i64 0] 46)).heap.size (wn.alloc (.cells #[.bool false, .slice none 0 0, .int .i64 0] 46)) wm) => (Box3.new wn (.bool false) (.slice none 0 0) (.int .i64 0)).below h2 (by simp))
  have KOF' := hide (fun w' (h : Below W0.heap.size W0 w') => unhide KOF w' _ (iq.below h))
  have KSU' := hide (fun w' u (h : Below W0.heap.size W0 w') hu => unhide KSU w' u (b0.trans (h.mono b0.size)) hu)
  have HT := hide (fun (W : World) (g : Nat) {np : Bool} {ap : Option Addr} {lp cp : Nat} (h1 : Below W0.heap.size W0 W) (h2 : Box3 W g (.bool np) (.slice ap lp cp) (.int .i64 Y)) (h3 : IsDy W (.agg #[.bool np, .slice ap lp cp, .int .i64 Y]) R Y) =>
    (show TailN w g1 n1 a1 l1 c1 np ap lp cp q R Y g W from ⟨b0.trans (h1.mono b0.size), h2, h3, x1.all h1, iq.below h1⟩))
  clear hK b0 x0 x1 iq KOF KSU
  go_region_held3 (fun w' => Below W0.heap.size W0 w' ∧ w'.cell? ⟨w.heap.size, 0, none⟩ = some (.bool ng) ∧ w'.cell? ⟨w.heap.size, 1, none⟩ = some (.slice ao l ca) ∧ w'.cell? ⟨w.heap.size, 2, none⟩ = some (.int .i64 E) ∧ w'.cell? ⟨g1, 0, none⟩ = some (.bool n1) ∧ w'.cell? ⟨g1, 1, none⟩ = some (.slice a1 l1 c1))
    (first | assumption | exact unhide HK _ (Below.refl _ _).drew | exact unhide HK _ (by assumption) | exact unhide HKA _ _ (by assumption) | exact unhide HKA _ _ (And.left (by assumption)) | exact unhide HKS _ _ _ _ _ hBwm (by first | exact Nat.le_refl _ | exact Below.size (by assumption)) | fail "NO KEEP")
    (first | (go_at_call 40; refine (unhide KOF' _ (And.left (by assumption))).mono ?_; rintro r wa ⟨u, rfl, iu, hb1⟩; have hBwa : Below W0.heap.size W0 wa := Below.trans (And.left (by assumption)) (hb1.mono (Below.size (And.left (by assumption)))); (first | (have xb : Box3 wa W0.heap.size (.bool false) (.slice none 0 0) (.int .i64 0) := unhide BXA _ hb1) | skip); have IU := hide iu; clear iu; clear hb1) | (go_at_call 50; refine (unhide KSU' _ _ (And.left (by assumption)) (by first | exact unhide IU | exact (unhide IU).below ((Below.refl _ _).alloc (Nat.le_refl _) _))).mono ?_; rintro r wm ⟨u, rfl, ⟨np, ap, cp, Lp, rfl, jp⟩, hb1⟩; have hBwm : Below W0.heap.size W0 wm := Below.trans (And.left (by assumption)) (hb1.mono (Below.size (And.left (by assumption)))); (first | (have xb := Box3.below xb hb1 xb.lt) | (have xb := unhide BXB _ _ hb1) | skip); (first | (have kb0 := xb.c0; have kb1 := xb.c1; have kb2 := xb.c2; have gb0 := xb.free 0; have gb1 := xb.free 1; have gb2 := xb.free 2) | skip); have IP := hide (show IsDy wm (.agg #[.bool np, .slice ap Lp.length cp, .int .i64 Y]) R Y from ⟨np, ap, cp, Lp, rfl, jp⟩); clear hb1 jp) | fail "NO ARM")
  all_goals
    first
      | refine at_thenB (TailN _ _ _ _ _ _ _ _ _ _ _ _ _ W0.heap.size) (unhide HT _ _ (And.left (by assumption)) (xb.put _ _ _) ((unhide IP).put3 xb _ _ _)) ?_
      | refine at_thenB (TailN _ _ _ _ _ _ _ _ _ _ _ _ _ wa.heap.size) (unhide HT _ _ (And.left (by assumption)) (xb.put _ _ _) ((unhide IP).put3 xb _ _ _)) ?_
      | refine at_thenB (TailN _ _ _ _ _ _ _ _ _ _ _ _ _ wm.heap.size) (unhide HT _ _ (And.left (by assumption)) (Box3.new _ _ _ _) ((unhide IP).below ((Below.refl _ _).alloc (Nat.le_refl _) _))) ?_
      | fail "NO WAY"
  all_goals
    rintro W ⟨bW, xg, ir, x1, iq⟩
    have hz := unhide HR _ _ _ _ _ ir
    have IR := hide ir; have IQ := hide iq; have BW := hide bW; have X1 := hide x1; have XG := hide xg
    have kc0 := xg.c0; have kc1 := xg.c1; have kc2 := xg.c2
    try clear kb0 kb1 kb2 gb0 gb1 gb2
    try clear xb
    clear xg ir iq bW x1 HT HK HKA HKS BXA BXB KOF' KSU' IP IU hBwa hBwm HR
    try clear hg1
    generalize Lp.length = lp at *
    go_wp2_with fail
    refine (unhide KSC _ _ (unhide IR)).mono ?_
    rintro r w3 ⟨u3, rfl, i3, hb3⟩
    have I3 := hide i3
    have B3 := hide hb3
    clear i3 hb3 KSC
    go_wp2_with fail
    refine (refOf_any 1 _ (by decide) (by decide)).mono ?_
    rintro r w4 ⟨u4, rfl, i4, hb4⟩
    have I4 := hide (IsNumM.zeroB i4)
    have B4 := hide ((unhide B3).trans (hb4.mono (unhide B3).size))
    have I3' := hide ((unhide I3).below hb4)
    clear i4 hb4 I3 B3
    go_wp2_with fail
    refine (unhide KO2 _ _ (unhide I4)).mono ?_
    rintro r w5 ⟨u5, rfl, i5, hb5⟩
    have I5 := hide i5
    have B5 := hide ((unhide B4).trans (hb5.mono (unhide B4).size))
    have I3 := hide ((unhide I3').below hb5)
    clear i5 hb5 I3' B4 I4 KO2
    go_wp2_with fail
    refine (unhide KCM _ _ _ (unhide I3) (unhide I5)).mono ?_
    rintro r w6 ⟨rfl, hb6⟩
    have b6 := (unhide B5).trans (hb6.mono (unhide B5).size)
    have x1 := (unhide X1).all b6
    have IQ6 := hide ((unhide IQ).below b6)
    have XG6 := hide ((unhide XG).all b6)
    have BW6 := hide ((unhide BW).trans (b6.mono (unhide BW).size))
    clear kc0 kc1 kc2
    have q0 := x1.c0; have q1 := x1.c1
    clear x1 b6 hb6 B5 I3 I5 KCM IQ X1 XG BW IR
    go_wp2_with fail
    refine (unhide KSM _ _ (unhide IQ6)).mono ?_
    rintro r w7 ⟨rfl, hb7⟩
    have x7 := (unhide XG6).all hb7
    have BW7 := hide ((unhide BW6).trans (hb7.mono (unhide BW6).size))
    have kc0 := x7.c0; have kc1 := x7.c1; have kc2 := x7.c2
    clear x7 hb7 q0 q1 IQ6 XG6 BW6 KSM
    go_wp2
    go_quiet (fail)
    go_wp2
    exact bodyPost_ret (v := .tuple #[.int .u64 (n + 1), .bool false]) (by simp [results, Tryd.results67, go_sem]) rfl ⟨rfl, below_drewN (unhide BW7) _⟩

set_option maxHeartbeats 8000000 in
theorem near_c (ng : Bool) (ao : Option Addr) (ca l n : Nat) (E e q M X R Y R2 Y2 O Z c : Int) (w : World) (hE : -20000 ≤ E ∧ E ≤ 20000) (he : -20000 ≤ e ∧ e ≤ 20000) (hlt : decide (e ≤ E) = false) (hn : (n : Int) < 1152921504606846976) (hR : ∀ W np ap lp cp, IsDy W (.agg #[.bool np, .slice ap lp cp, .int .i64 Y]) R Y → ((lp : Int) == 0) = false)
    (CSH : ∀ w', Below w.heap.size w w' → Calls Tryd.prog 32 #[.agg #[.bool ng, .slice ao l ca], .int .i64 (E - e)] w' fun r w'' => ∃ v, r = .returned v ∧ IsNum 0 w'' v q ∧ Below w'.heap.size w' w'')
    (COF : ∀ w' v, IsNum 0 w' v q → Calls Tryd.prog 40 #[v, .int .i64 e] w' fun r w'' => ∃ u, r = .returned u ∧ IsDy w'' u M X ∧ Below w'.heap.size w' w'')
    (CSU : ∀ w' u, Below w.heap.size w w' → IsDy w' u M X → Calls Tryd.prog 50 #[.agg #[.bool ng, .slice ao l ca, .int .i64 E], u] w' fun r w'' => ∃ u, r = .returned u ∧ IsDy w'' u R Y ∧ Below w'.heap.size w' w'')
    (CSC : ∀ w' v, IsDy w' v R Y → Calls Tryd.prog 46 #[v, .int .i64 1] w' fun r w'' => ∃ u, r = .returned u ∧ IsDy w'' u R2 Y2 ∧ Below w'.heap.size w' w'')
    (CO2 : ∀ w' v, IsNumM 2 0 w' v 1 → Calls Tryd.prog 40 #[v, .int .i64 e] w' fun r w'' => ∃ u, r = .returned u ∧ IsDy w'' u O Z ∧ Below w'.heap.size w' w'')
    (CCM : ∀ w' v u, IsDy w' v R2 Y2 → IsDy w' u O Z → Calls Tryd.prog 26 #[v, u] w' fun r w'' => r = .returned (.int .i64 c) ∧ Below w'.heap.size w' w'')
    (CSM : ∀ w' v, IsNum 0 w' v q → Calls Tryd.prog 89 #[v] w' fun r w'' => r = .returned (.int .u64 n) ∧ Below w'.heap.size w' w'')
    (k1 : decide ((0 : Int) < c) = false) (k2 : (c == 0) = true) (k3 : ((n : Int) % 2 == 1) = false) :
    Calls Tryd.prog 67 #[.agg #[.bool ng, .slice ao l ca, .int .i64 E], .int .i64 e] w fun r w' => r = .returned (.tuple #[.int .u64 (n), .bool false]) ∧ Below w.heap.size w w' := by
  have KSH := hide CSH; have KOF := hide COF; have KSU := hide CSU; have KSC := hide CSC; have KO2 := hide CO2; have KCM := hide CCM; have KSM := hide CSM; have HR := hide hR
  clear CSH COF CSU CSC CO2 CCM CSM hR
  have w1 : IntKind.i64.wrap (E - e) = E - e := by simp only [IntKind.wrap_i64]; omega
  have hn0 : (0 : Int) ≤ n := by omega
  have B0 := hide ((Below.refl w.heap.size w).alloc (Nat.le_refl _) (.cells #[.bool ng, .slice ao l ca, .int .i64 E] 46))
  have X0 := hide (Box3.new w (.bool ng) (.slice ao l ca) (.int .i64 E))
  clear hE he
  go_enter Tryd.func67, Tryd.ntmps67
  go_wp2_with fail
  refine (unhide KSH _ (unhide B0)).mono ?_
  rintro r w1' ⟨v, rfl, hv, hb1⟩
  have b1 := (unhide B0).trans (hb1.mono (unhide B0).size)
  have x1 := (unhide X0).all hb1
  obtain ⟨n1, a1, c1, L1, rfl, i1⟩ := hv
  have hb2 : Below w1'.heap.size w1' (w1'.alloc (.cells #[.bool n1, .slice a1 L1.length c1] 44)) := (Below.refl _ _).alloc (Nat.le_refl _) _
  have F0 := hide (show Below w.heap.size w (w1'.alloc (.cells #[.bool n1, .slice a1 L1.length c1] 44)) ∧ Box3 (w1'.alloc (.cells #[.bool n1, .slice a1 L1.length c1] 44)) w.heap.size (.bool ng) (.slice ao l ca) (.int .i64 E) ∧ Box2 (w1'.alloc (.cells #[.bool n1, .slice a1 L1.length c1] 44)) w1'.heap.size (.bool n1) (.slice a1 L1.length c1) ∧ IsNum 0 (w1'.alloc (.cells #[.bool n1, .slice a1 L1.length c1] 44)) (.agg #[.bool n1, .slice a1 L1.length c1]) q from
    ⟨b1.trans (hb2.mono b1.size), x1.all hb2, Box2.new _ _ _, (show IsNum 0 w1' (.agg #[.bool n1, .slice a1 L1.length c1]) q from ⟨n1, a1, c1, L1, rfl, i1⟩).below hb2⟩)
  clear b1 hb1 x1 i1 hb2 B0 X0 KSH
  generalize L1.length = l1 at *
  go_upto_region 4 with (fail)
  refine at_world (fun W => Below w.heap.size w W ∧ Box3 W w.heap.size (.bool ng) (.slice ao l ca) (.int .i64 E) ∧ Box2 W w1'.heap.size (.bool n1) (.slice a1 l1 c1) ∧ IsNum 0 W (.agg #[.bool n1, .slice a1 l1 c1]) q) (unhide F0) ?_
  clear F0
  generalize w1'.heap.size = g1 at *
  rintro W0 ⟨b0, x0, x1, iq⟩
  have hg1 : g1 < W0.heap.size := x1.lt
  have hK : ∀ w', Below W0.heap.size W0 w' → Below W0.heap.size W0 w' ∧ w'.cell? ⟨w.heap.size, 0, none⟩ = some (.bool ng) ∧ w'.cell? ⟨w.heap.size, 1, none⟩ = some (.slice ao l ca) ∧ w'.cell? ⟨w.heap.size, 2, none⟩ = some (.int .i64 E) ∧ w'.cell? ⟨g1, 0, none⟩ = some (.bool n1) ∧ w'.cell? ⟨g1, 1, none⟩ = some (.slice a1 l1 c1) := fun w' h => ⟨h, (x0.all h).c0, (x0.all h).c1, (x0.all h).c2, (x1.all h).c0, (x1.all h).c1⟩
  have HK := hide hK
  have HKA := hide (fun wn o (h1 : Below W0.heap.size W0 wn) => unhide HK (wn.alloc o) (h1.alloc h1.size o))
  have HKS := hide (fun wn g u u' u'' (h1 : Below W0.heap.size W0 wn) (h4 : W0.heap.size ≤ g) => unhide HK (((wn.setCell ⟨g, 0, none⟩ u).setCell ⟨g, 1, none⟩ u').setCell ⟨g, 2, none⟩ u'') (below_put3 h1 h4 u u' u''))
  have BXA := hide (fun wn (h1 : Below (W0.drew.alloc (.cells #[.bool false, .slice none 0 0, .int .i64 0] 46)).heap.size (W0.drew.alloc (.cells #[.bool false, .slice none 0 0, .int .i64 0] 46)) wn) => (Box3.new W0.drew (.bool false) (.slice none 0 0) (.int .i64 0)).below h1 (by simp))
  have BXB := hide (fun wn wm (h2 : Below (wn.alloc (.cells #[.bool false, .slice none 0 0, .int .i64 0] 46)).heap.size (wn.alloc (.cells #[.bool false, .slice none 0 0, .int .i64 0] 46)) wm) => (Box3.new wn (.bool false) (.slice none 0 0) (.int .i64 0)).below h2 (by simp))
  have KOF' := hide (fun w' (h : Below W0.heap.size W0 w') => unhide KOF w' _ (iq.below h))
  have KSU' := hide (fun w' u (h : Below W0.heap.size W0 w') hu => unhide KSU w' u (b0.trans (h.mono b0.size)) hu)
  have HT := hide (fun (W : World) (g : Nat) {np : Bool} {ap : Option Addr} {lp cp : Nat} (h1 : Below W0.heap.size W0 W) (h2 : Box3 W g (.bool np) (.slice ap lp cp) (.int .i64 Y)) (h3 : IsDy W (.agg #[.bool np, .slice ap lp cp, .int .i64 Y]) R Y) =>
    (show TailN w g1 n1 a1 l1 c1 np ap lp cp q R Y g W from ⟨b0.trans (h1.mono b0.size), h2, h3, x1.all h1, iq.below h1⟩))
  clear hK b0 x0 x1 iq KOF KSU
  go_region_held3 (fun w' => Below W0.heap.size W0 w' ∧ w'.cell? ⟨w.heap.size, 0, none⟩ = some (.bool ng) ∧ w'.cell? ⟨w.heap.size, 1, none⟩ = some (.slice ao l ca) ∧ w'.cell? ⟨w.heap.size, 2, none⟩ = some (.int .i64 E) ∧ w'.cell? ⟨g1, 0, none⟩ = some (.bool n1) ∧ w'.cell? ⟨g1, 1, none⟩ = some (.slice a1 l1 c1))
    (first | assumption | exact unhide HK _ (Below.refl _ _).drew | exact unhide HK _ (by assumption) | exact unhide HKA _ _ (by assumption) | exact unhide HKA _ _ (And.left (by assumption)) | exact unhide HKS _ _ _ _ _ hBwm (by first | exact Nat.le_refl _ | exact Below.size (by assumption)) | fail "NO KEEP")
    (first | (go_at_call 40; refine (unhide KOF' _ (And.left (by assumption))).mono ?_; rintro r wa ⟨u, rfl, iu, hb1⟩; have hBwa : Below W0.heap.size W0 wa := Below.trans (And.left (by assumption)) (hb1.mono (Below.size (And.left (by assumption)))); (first | (have xb : Box3 wa W0.heap.size (.bool false) (.slice none 0 0) (.int .i64 0) := unhide BXA _ hb1) | skip); have IU := hide iu; clear iu; clear hb1) | (go_at_call 50; refine (unhide KSU' _ _ (And.left (by assumption)) (by first | exact unhide IU | exact (unhide IU).below ((Below.refl _ _).alloc (Nat.le_refl _) _))).mono ?_; rintro r wm ⟨u, rfl, ⟨np, ap, cp, Lp, rfl, jp⟩, hb1⟩; have hBwm : Below W0.heap.size W0 wm := Below.trans (And.left (by assumption)) (hb1.mono (Below.size (And.left (by assumption)))); (first | (have xb := Box3.below xb hb1 xb.lt) | (have xb := unhide BXB _ _ hb1) | skip); (first | (have kb0 := xb.c0; have kb1 := xb.c1; have kb2 := xb.c2; have gb0 := xb.free 0; have gb1 := xb.free 1; have gb2 := xb.free 2) | skip); have IP := hide (show IsDy wm (.agg #[.bool np, .slice ap Lp.length cp, .int .i64 Y]) R Y from ⟨np, ap, cp, Lp, rfl, jp⟩); clear hb1 jp) | fail "NO ARM")
  all_goals
    first
      | refine at_thenB (TailN _ _ _ _ _ _ _ _ _ _ _ _ _ W0.heap.size) (unhide HT _ _ (And.left (by assumption)) (xb.put _ _ _) ((unhide IP).put3 xb _ _ _)) ?_
      | refine at_thenB (TailN _ _ _ _ _ _ _ _ _ _ _ _ _ wa.heap.size) (unhide HT _ _ (And.left (by assumption)) (xb.put _ _ _) ((unhide IP).put3 xb _ _ _)) ?_
      | refine at_thenB (TailN _ _ _ _ _ _ _ _ _ _ _ _ _ wm.heap.size) (unhide HT _ _ (And.left (by assumption)) (Box3.new _ _ _ _) ((unhide IP).below ((Below.refl _ _).alloc (Nat.le_refl _) _))) ?_
      | fail "NO WAY"
  all_goals
    rintro W ⟨bW, xg, ir, x1, iq⟩
    have hz := unhide HR _ _ _ _ _ ir
    have IR := hide ir; have IQ := hide iq; have BW := hide bW; have X1 := hide x1; have XG := hide xg
    have kc0 := xg.c0; have kc1 := xg.c1; have kc2 := xg.c2
    try clear kb0 kb1 kb2 gb0 gb1 gb2
    try clear xb
    clear xg ir iq bW x1 HT HK HKA HKS BXA BXB KOF' KSU' IP IU hBwa hBwm HR
    try clear hg1
    generalize Lp.length = lp at *
    go_wp2_with fail
    refine (unhide KSC _ _ (unhide IR)).mono ?_
    rintro r w3 ⟨u3, rfl, i3, hb3⟩
    have I3 := hide i3
    have B3 := hide hb3
    clear i3 hb3 KSC
    go_wp2_with fail
    refine (refOf_any 1 _ (by decide) (by decide)).mono ?_
    rintro r w4 ⟨u4, rfl, i4, hb4⟩
    have I4 := hide (IsNumM.zeroB i4)
    have B4 := hide ((unhide B3).trans (hb4.mono (unhide B3).size))
    have I3' := hide ((unhide I3).below hb4)
    clear i4 hb4 I3 B3
    go_wp2_with fail
    refine (unhide KO2 _ _ (unhide I4)).mono ?_
    rintro r w5 ⟨u5, rfl, i5, hb5⟩
    have I5 := hide i5
    have B5 := hide ((unhide B4).trans (hb5.mono (unhide B4).size))
    have I3 := hide ((unhide I3').below hb5)
    clear i5 hb5 I3' B4 I4 KO2
    go_wp2_with fail
    refine (unhide KCM _ _ _ (unhide I3) (unhide I5)).mono ?_
    rintro r w6 ⟨rfl, hb6⟩
    have b6 := (unhide B5).trans (hb6.mono (unhide B5).size)
    have x1 := (unhide X1).all b6
    have IQ6 := hide ((unhide IQ).below b6)
    have XG6 := hide ((unhide XG).all b6)
    have BW6 := hide ((unhide BW).trans (b6.mono (unhide BW).size))
    clear kc0 kc1 kc2
    have q0 := x1.c0; have q1 := x1.c1
    clear x1 b6 hb6 B5 I3 I5 KCM IQ X1 XG BW IR
    go_wp2_with fail
    refine (unhide KSM _ _ (unhide IQ6)).mono ?_
    rintro r w7 ⟨rfl, hb7⟩
    have x7 := (unhide XG6).all hb7
    have BW7 := hide ((unhide BW6).trans (hb7.mono (unhide BW6).size))
    have kc0 := x7.c0; have kc1 := x7.c1; have kc2 := x7.c2
    clear x7 hb7 q0 q1 IQ6 XG6 BW6 KSM
    go_wp2
    go_quiet (fail)
    go_wp2
    exact bodyPost_ret (v := .tuple #[.int .u64 (n), .bool false]) (by simp [results, Tryd.results67, go_sem]) rfl ⟨rfl, below_drewN (unhide BW7) _⟩

set_option maxHeartbeats 8000000 in
theorem near_d (ng : Bool) (ao : Option Addr) (ca l n : Nat) (E e q M X R Y R2 Y2 O Z c : Int) (w : World) (hE : -20000 ≤ E ∧ E ≤ 20000) (he : -20000 ≤ e ∧ e ≤ 20000) (hlt : decide (e ≤ E) = false) (hn : (n : Int) < 1152921504606846976) (hR : ∀ W np ap lp cp, IsDy W (.agg #[.bool np, .slice ap lp cp, .int .i64 Y]) R Y → ((lp : Int) == 0) = false)
    (CSH : ∀ w', Below w.heap.size w w' → Calls Tryd.prog 32 #[.agg #[.bool ng, .slice ao l ca], .int .i64 (E - e)] w' fun r w'' => ∃ v, r = .returned v ∧ IsNum 0 w'' v q ∧ Below w'.heap.size w' w'')
    (COF : ∀ w' v, IsNum 0 w' v q → Calls Tryd.prog 40 #[v, .int .i64 e] w' fun r w'' => ∃ u, r = .returned u ∧ IsDy w'' u M X ∧ Below w'.heap.size w' w'')
    (CSU : ∀ w' u, Below w.heap.size w w' → IsDy w' u M X → Calls Tryd.prog 50 #[.agg #[.bool ng, .slice ao l ca, .int .i64 E], u] w' fun r w'' => ∃ u, r = .returned u ∧ IsDy w'' u R Y ∧ Below w'.heap.size w' w'')
    (CSC : ∀ w' v, IsDy w' v R Y → Calls Tryd.prog 46 #[v, .int .i64 1] w' fun r w'' => ∃ u, r = .returned u ∧ IsDy w'' u R2 Y2 ∧ Below w'.heap.size w' w'')
    (CO2 : ∀ w' v, IsNumM 2 0 w' v 1 → Calls Tryd.prog 40 #[v, .int .i64 e] w' fun r w'' => ∃ u, r = .returned u ∧ IsDy w'' u O Z ∧ Below w'.heap.size w' w'')
    (CCM : ∀ w' v u, IsDy w' v R2 Y2 → IsDy w' u O Z → Calls Tryd.prog 26 #[v, u] w' fun r w'' => r = .returned (.int .i64 c) ∧ Below w'.heap.size w' w'')
    (CSM : ∀ w' v, IsNum 0 w' v q → Calls Tryd.prog 89 #[v] w' fun r w'' => r = .returned (.int .u64 n) ∧ Below w'.heap.size w' w'')
    (k1 : decide ((0 : Int) < c) = false) (k2 : (c == 0) = false) :
    Calls Tryd.prog 67 #[.agg #[.bool ng, .slice ao l ca, .int .i64 E], .int .i64 e] w fun r w' => r = .returned (.tuple #[.int .u64 (n), .bool false]) ∧ Below w.heap.size w w' := by
  have KSH := hide CSH; have KOF := hide COF; have KSU := hide CSU; have KSC := hide CSC; have KO2 := hide CO2; have KCM := hide CCM; have KSM := hide CSM; have HR := hide hR
  clear CSH COF CSU CSC CO2 CCM CSM hR
  have w1 : IntKind.i64.wrap (E - e) = E - e := by simp only [IntKind.wrap_i64]; omega
  have hn0 : (0 : Int) ≤ n := by omega
  have B0 := hide ((Below.refl w.heap.size w).alloc (Nat.le_refl _) (.cells #[.bool ng, .slice ao l ca, .int .i64 E] 46))
  have X0 := hide (Box3.new w (.bool ng) (.slice ao l ca) (.int .i64 E))
  clear hE he
  go_enter Tryd.func67, Tryd.ntmps67
  go_wp2_with fail
  refine (unhide KSH _ (unhide B0)).mono ?_
  rintro r w1' ⟨v, rfl, hv, hb1⟩
  have b1 := (unhide B0).trans (hb1.mono (unhide B0).size)
  have x1 := (unhide X0).all hb1
  obtain ⟨n1, a1, c1, L1, rfl, i1⟩ := hv
  have hb2 : Below w1'.heap.size w1' (w1'.alloc (.cells #[.bool n1, .slice a1 L1.length c1] 44)) := (Below.refl _ _).alloc (Nat.le_refl _) _
  have F0 := hide (show Below w.heap.size w (w1'.alloc (.cells #[.bool n1, .slice a1 L1.length c1] 44)) ∧ Box3 (w1'.alloc (.cells #[.bool n1, .slice a1 L1.length c1] 44)) w.heap.size (.bool ng) (.slice ao l ca) (.int .i64 E) ∧ Box2 (w1'.alloc (.cells #[.bool n1, .slice a1 L1.length c1] 44)) w1'.heap.size (.bool n1) (.slice a1 L1.length c1) ∧ IsNum 0 (w1'.alloc (.cells #[.bool n1, .slice a1 L1.length c1] 44)) (.agg #[.bool n1, .slice a1 L1.length c1]) q from
    ⟨b1.trans (hb2.mono b1.size), x1.all hb2, Box2.new _ _ _, (show IsNum 0 w1' (.agg #[.bool n1, .slice a1 L1.length c1]) q from ⟨n1, a1, c1, L1, rfl, i1⟩).below hb2⟩)
  clear b1 hb1 x1 i1 hb2 B0 X0 KSH
  generalize L1.length = l1 at *
  go_upto_region 4 with (fail)
  refine at_world (fun W => Below w.heap.size w W ∧ Box3 W w.heap.size (.bool ng) (.slice ao l ca) (.int .i64 E) ∧ Box2 W w1'.heap.size (.bool n1) (.slice a1 l1 c1) ∧ IsNum 0 W (.agg #[.bool n1, .slice a1 l1 c1]) q) (unhide F0) ?_
  clear F0
  generalize w1'.heap.size = g1 at *
  rintro W0 ⟨b0, x0, x1, iq⟩
  have hg1 : g1 < W0.heap.size := x1.lt
  have hK : ∀ w', Below W0.heap.size W0 w' → Below W0.heap.size W0 w' ∧ w'.cell? ⟨w.heap.size, 0, none⟩ = some (.bool ng) ∧ w'.cell? ⟨w.heap.size, 1, none⟩ = some (.slice ao l ca) ∧ w'.cell? ⟨w.heap.size, 2, none⟩ = some (.int .i64 E) ∧ w'.cell? ⟨g1, 0, none⟩ = some (.bool n1) ∧ w'.cell? ⟨g1, 1, none⟩ = some (.slice a1 l1 c1) := fun w' h => ⟨h, (x0.all h).c0, (x0.all h).c1, (x0.all h).c2, (x1.all h).c0, (x1.all h).c1⟩
  have HK := hide hK
  have HKA := hide (fun wn o (h1 : Below W0.heap.size W0 wn) => unhide HK (wn.alloc o) (h1.alloc h1.size o))
  have HKS := hide (fun wn g u u' u'' (h1 : Below W0.heap.size W0 wn) (h4 : W0.heap.size ≤ g) => unhide HK (((wn.setCell ⟨g, 0, none⟩ u).setCell ⟨g, 1, none⟩ u').setCell ⟨g, 2, none⟩ u'') (below_put3 h1 h4 u u' u''))
  have BXA := hide (fun wn (h1 : Below (W0.drew.alloc (.cells #[.bool false, .slice none 0 0, .int .i64 0] 46)).heap.size (W0.drew.alloc (.cells #[.bool false, .slice none 0 0, .int .i64 0] 46)) wn) => (Box3.new W0.drew (.bool false) (.slice none 0 0) (.int .i64 0)).below h1 (by simp))
  have BXB := hide (fun wn wm (h2 : Below (wn.alloc (.cells #[.bool false, .slice none 0 0, .int .i64 0] 46)).heap.size (wn.alloc (.cells #[.bool false, .slice none 0 0, .int .i64 0] 46)) wm) => (Box3.new wn (.bool false) (.slice none 0 0) (.int .i64 0)).below h2 (by simp))
  have KOF' := hide (fun w' (h : Below W0.heap.size W0 w') => unhide KOF w' _ (iq.below h))
  have KSU' := hide (fun w' u (h : Below W0.heap.size W0 w') hu => unhide KSU w' u (b0.trans (h.mono b0.size)) hu)
  have HT := hide (fun (W : World) (g : Nat) {np : Bool} {ap : Option Addr} {lp cp : Nat} (h1 : Below W0.heap.size W0 W) (h2 : Box3 W g (.bool np) (.slice ap lp cp) (.int .i64 Y)) (h3 : IsDy W (.agg #[.bool np, .slice ap lp cp, .int .i64 Y]) R Y) =>
    (show TailN w g1 n1 a1 l1 c1 np ap lp cp q R Y g W from ⟨b0.trans (h1.mono b0.size), h2, h3, x1.all h1, iq.below h1⟩))
  clear hK b0 x0 x1 iq KOF KSU
  go_region_held3 (fun w' => Below W0.heap.size W0 w' ∧ w'.cell? ⟨w.heap.size, 0, none⟩ = some (.bool ng) ∧ w'.cell? ⟨w.heap.size, 1, none⟩ = some (.slice ao l ca) ∧ w'.cell? ⟨w.heap.size, 2, none⟩ = some (.int .i64 E) ∧ w'.cell? ⟨g1, 0, none⟩ = some (.bool n1) ∧ w'.cell? ⟨g1, 1, none⟩ = some (.slice a1 l1 c1))
    (first | assumption | exact unhide HK _ (Below.refl _ _).drew | exact unhide HK _ (by assumption) | exact unhide HKA _ _ (by assumption) | exact unhide HKA _ _ (And.left (by assumption)) | exact unhide HKS _ _ _ _ _ hBwm (by first | exact Nat.le_refl _ | exact Below.size (by assumption)) | fail "NO KEEP")
    (first | (go_at_call 40; refine (unhide KOF' _ (And.left (by assumption))).mono ?_; rintro r wa ⟨u, rfl, iu, hb1⟩; have hBwa : Below W0.heap.size W0 wa := Below.trans (And.left (by assumption)) (hb1.mono (Below.size (And.left (by assumption)))); (first | (have xb : Box3 wa W0.heap.size (.bool false) (.slice none 0 0) (.int .i64 0) := unhide BXA _ hb1) | skip); have IU := hide iu; clear iu; clear hb1) | (go_at_call 50; refine (unhide KSU' _ _ (And.left (by assumption)) (by first | exact unhide IU | exact (unhide IU).below ((Below.refl _ _).alloc (Nat.le_refl _) _))).mono ?_; rintro r wm ⟨u, rfl, ⟨np, ap, cp, Lp, rfl, jp⟩, hb1⟩; have hBwm : Below W0.heap.size W0 wm := Below.trans (And.left (by assumption)) (hb1.mono (Below.size (And.left (by assumption)))); (first | (have xb := Box3.below xb hb1 xb.lt) | (have xb := unhide BXB _ _ hb1) | skip); (first | (have kb0 := xb.c0; have kb1 := xb.c1; have kb2 := xb.c2; have gb0 := xb.free 0; have gb1 := xb.free 1; have gb2 := xb.free 2) | skip); have IP := hide (show IsDy wm (.agg #[.bool np, .slice ap Lp.length cp, .int .i64 Y]) R Y from ⟨np, ap, cp, Lp, rfl, jp⟩); clear hb1 jp) | fail "NO ARM")
  all_goals
    first
      | refine at_thenB (TailN _ _ _ _ _ _ _ _ _ _ _ _ _ W0.heap.size) (unhide HT _ _ (And.left (by assumption)) (xb.put _ _ _) ((unhide IP).put3 xb _ _ _)) ?_
      | refine at_thenB (TailN _ _ _ _ _ _ _ _ _ _ _ _ _ wa.heap.size) (unhide HT _ _ (And.left (by assumption)) (xb.put _ _ _) ((unhide IP).put3 xb _ _ _)) ?_
      | refine at_thenB (TailN _ _ _ _ _ _ _ _ _ _ _ _ _ wm.heap.size) (unhide HT _ _ (And.left (by assumption)) (Box3.new _ _ _ _) ((unhide IP).below ((Below.refl _ _).alloc (Nat.le_refl _) _))) ?_
      | fail "NO WAY"
  all_goals
    rintro W ⟨bW, xg, ir, x1, iq⟩
    have hz := unhide HR _ _ _ _ _ ir
    have IR := hide ir; have IQ := hide iq; have BW := hide bW; have X1 := hide x1; have XG := hide xg
    have kc0 := xg.c0; have kc1 := xg.c1; have kc2 := xg.c2
    try clear kb0 kb1 kb2 gb0 gb1 gb2
    try clear xb
    clear xg ir iq bW x1 HT HK HKA HKS BXA BXB KOF' KSU' IP IU hBwa hBwm HR
    try clear hg1
    generalize Lp.length = lp at *
    go_wp2_with fail
    refine (unhide KSC _ _ (unhide IR)).mono ?_
    rintro r w3 ⟨u3, rfl, i3, hb3⟩
    have I3 := hide i3
    have B3 := hide hb3
    clear i3 hb3 KSC
    go_wp2_with fail
    refine (refOf_any 1 _ (by decide) (by decide)).mono ?_
    rintro r w4 ⟨u4, rfl, i4, hb4⟩
    have I4 := hide (IsNumM.zeroB i4)
    have B4 := hide ((unhide B3).trans (hb4.mono (unhide B3).size))
    have I3' := hide ((unhide I3).below hb4)
    clear i4 hb4 I3 B3
    go_wp2_with fail
    refine (unhide KO2 _ _ (unhide I4)).mono ?_
    rintro r w5 ⟨u5, rfl, i5, hb5⟩
    have I5 := hide i5
    have B5 := hide ((unhide B4).trans (hb5.mono (unhide B4).size))
    have I3 := hide ((unhide I3').below hb5)
    clear i5 hb5 I3' B4 I4 KO2
    go_wp2_with fail
    refine (unhide KCM _ _ _ (unhide I3) (unhide I5)).mono ?_
    rintro r w6 ⟨rfl, hb6⟩
    have b6 := (unhide B5).trans (hb6.mono (unhide B5).size)
    have x1 := (unhide X1).all b6
    have IQ6 := hide ((unhide IQ).below b6)
    have XG6 := hide ((unhide XG).all b6)
    have BW6 := hide ((unhide BW).trans (b6.mono (unhide BW).size))
    clear kc0 kc1 kc2
    have q0 := x1.c0; have q1 := x1.c1
    clear x1 b6 hb6 B5 I3 I5 KCM IQ X1 XG BW IR
    go_wp2_with fail
    refine (unhide KSM _ _ (unhide IQ6)).mono ?_
    rintro r w7 ⟨rfl, hb7⟩
    have x7 := (unhide XG6).all hb7
    have BW7 := hide ((unhide BW6).trans (hb7.mono (unhide BW6).size))
    have kc0 := x7.c0; have kc1 := x7.c1; have kc2 := x7.c2
    clear x7 hb7 q0 q1 IQ6 XG6 BW6 KSM
    go_wp2
    go_quiet (fail)
    go_wp2
    exact bodyPost_ret (v := .tuple #[.int .u64 (n), .bool false]) (by simp [results, Tryd.results67, go_sem]) rfl ⟨rfl, below_drewN (unhide BW7) _⟩

end Go.Proofs.YtgegjhkiiejhlaaDoor

