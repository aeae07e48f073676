/- Part 33 of the texts. -/
import Derived.Test.YtfnnbkclnflpfaaGreatDoorPartS32
import Derived.Test.YtfnnbkclnflpfaaGreatDoorPartS26
import Derived.Test.YtfnnbkclnflpfaaGreatDoorPartS31
/- Package certify: build, at, wholes of whole numbers. -/
namespace Go.Proofs.YtfnnbkclnflpfaaGreatDoor
open Go.RowKit
attribute [local go_sem ↓] Go.wp_at_zero Go.wp_at_succ

/-- What holds in build: the answer's box, the grid's, its row. -/
def BwSt (w wr : World) (r c n : Nat) (po : Option Addr) (pc : Nat) (f : Nat → Int) : Prop :=
  BoxT 89 wr w.heap.size (.int .i64 0) (.int .i64 0) (.slice none 0 0) ∧ BoxT 89 wr (w.heap.size + 1) (.int .i64 r) (.int .i64 c) (.slice po n pc) ∧ OwnW (w.heap.size + 2) wr (.slice po n pc) n f ∧ Below w.heap.size w wr
theorem BwSt.all {w wr w' : World} {r c n : Nat} {po : Option Addr} {pc : Nat} {f : Nat → Int} (h : BwSt w wr r c n po pc f) (hb : Below wr.heap.size wr w') : BwSt w w' r c n po pc f :=
  ⟨h.1.all hb, h.2.1.all hb, h.2.2.1.below hb, h.2.2.2.trans (hb.mono h.2.2.2.size)⟩
theorem BwSt.start (w : World) (r c : Nat) (f : Nat → Int) : BwSt w ((w.alloc (.cells #[.int .i64 0, .int .i64 0, .slice none 0 0] 89)).alloc (.cells #[.int .i64 r, .int .i64 c, .slice none 0 0] 89)) r c 0 none 0 f := by
  have b0 := below_alloc9 w (.cells #[.int .i64 0, .int .i64 0, .slice none 0 0] 89)
  have s0 := size_alloc9 w (.cells #[.int .i64 0, .int .i64 0, .slice none 0 0] 89)
  have x0 := BoxT.new 89 w (.int .i64 0) (.int .i64 0) (.slice none 0 0)
  have x1 := BoxT.new 89 (w.alloc (.cells #[.int .i64 0, .int .i64 0, .slice none 0 0] 89)) (.int .i64 r) (.int .i64 c) (.slice none 0 0)
  have b1 := below_alloc9 (w.alloc (.cells #[.int .i64 0, .int .i64 0, .slice none 0 0] 89)) (.cells #[.int .i64 r, .int .i64 c, .slice none 0 0] 89)
  rw [s0] at x1
  exact ⟨x0.all b1, x1, OwnW.nil _ _ _, b0.trans (b1.mono b0.size)⟩
/-- One number more: appended, and the grid's box written. -/
theorem BwSt.push {w w4 : World} {r c n : Nat} {po : Option Addr} {pc : Nat} {f : Nat → Int} (h : BwSt w w4 r c n po pc f) (ng : Bool) (a : Option Addr) (l cp : Nat) (hx : IsNum 0 w4 (.agg #[.bool ng, .slice a l cp]) (f n)) (hn : n ≤ 36) (ty : TypeId) :
    ∃ qo qc w', (Builtin.append_ #[87, 87] ty #[.slice po n pc, .slice (some ⟨w4.heap.size, 0, none⟩) 1 1]).run Tryz.prog (w4.alloc (.cells #[.bool ng, .slice a l cp] 27)) = .ok (.slice qo (n + 1) qc) w' ∧ (BoxT 89 w' (w.heap.size + 1) (.int .i64 r) (.int .i64 c) (.slice po n pc) ∧ BwSt w (w'.setCell ⟨w.heap.size + 1, 2, none⟩ (.slice qo (n + 1) qc)) r c (n + 1) qo qc f) := by
  have ba := below_alloc9 w4 (.cells #[.bool ng, .slice a l cp] 27)
  have hsz := h.2.1.lt
  obtain ⟨h1, h2, h3, h4⟩ := h.all ba
  obtain ⟨qo, qc, w', e1, ho, hg, _⟩ := h3.push w4.heap.size ng a l cp (hx.below ba) (heap_alloc_new w4 _) (by omega) (by simp; omega) ty
  have hl := h3.lt
  have n0 : (Value.slice po n pc).ownBlock ≠ some w.heap.size := fun e => by have := (hl _ e).1; omega
  have n1 : (Value.slice po n pc).ownBlock ≠ some (w.heap.size + 1) := fun e => by have := (hl _ e).1; omega
  have y0 := h1.grown hg n0
  have y1 := h2.grown hg n1
  refine ⟨qo, qc, w', e1, y1, y0.other (p := ⟨w.heap.size + 1, 2, none⟩) (by show w.heap.size ≠ w.heap.size + 1; omega) _, y1.put2 _, ho.set y1.clr (by omega) _ _, ?_⟩
  exact (h4.grown hg h4.size (fun k hk => by have := (hl _ hk).1; omega)).setCell (p := ⟨w.heap.size + 1, 2, none⟩) (by show w.heap.size ≤ w.heap.size + 1; omega) _

set_option maxRecDepth 20000 in
set_option maxHeartbeats 8000000 in
theorem buildW_any (fn : Nat) (caps : Array Value) (r c : Nat) (F : Nat → Nat → Int) (w : World)
    (hcf : ∀ args w, (callFunc fn args).run Tryz.prog w = .ok (.enter fn args) w) (hr : r ≤ 6) (hc : c ≤ 6)
    (hstep : ∀ w' i k, Below w.heap.size w w' → i < r → k < c → Calls Tryz.prog fn (#[.int .i64 (i : Nat), .int .i64 (k : Nat)] ++ caps) w' fun e w'' => ∃ v, e = .returned v ∧ IsNum 0 w'' v (F i k) ∧ Below w'.heap.size w' w'') :
    Calls Tryz.prog 108 #[.int .i64 r, .int .i64 c, .func (.func fn) #[] caps] w fun e w' => ∃ ao cap, e = .returned (.agg #[.int .i64 r, .int .i64 c, .slice ao (r * c) cap]) ∧ GrW w' ao cap r c F ∧ Below w.heap.size w w' := by
  have HS := hide hstep
  obtain ⟨f, hf⟩ : ∃ f : Nat → Int, f = fun p => F (p / c) (p % c) := ⟨_, rfl⟩
  have FV := hide (show ∀ j k, k < c → f (j * c + k) = F j k from fun j k hk => by rw [hf]; show F ((j * c + k) / c) ((j * c + k) % c) = _; rw [place_div hk, place_mod hk])
  have GR := hide (show ∀ w' ao cap, WhsAt w' ao cap (r * c) f → GrW w' ao cap r c F from fun w' ao cap h => ⟨by rw [hf] at h; exact h, hr, hc⟩)
  have ST := hide (BwSt.start w r c f)
  have h36 : r * c ≤ 36 := Nat.mul_le_mul hr hc
  have HN := hide (fun j k (hj : j < r) (hk : k < c) => place_lt hj hk)
  clear hstep hf
  go_enter Tryz.func108, Tryz.ntmps108
  go_wp2_with fail
  go_loopw [14] (fun i wr => ∃ (j : Nat) (po : Option Addr) (pc : Nat), j ≤ r ∧ i = .int .i64 j ∧ Hid (BwSt w wr r c (j * c) po pc f)) (fun i _ => r - (intOf i).toNat)
  case atStart => exact ⟨0, none, 0, Nat.zero_le _, rfl, by rw [Nat.zero_mul]; exact ST⟩
  case round =>
    clear ST
    obtain ⟨j, po, pc, hj, rfl, hS⟩ := hrel
    by_cases hlt : j < r
    · have hjI : (j : Int) < (r : Int) := by omega
      go_wp2_with fail
      go_loopw [18] (fun i wr => ∃ (k : Nat) (po : Option Addr) (pc : Nat), k ≤ c ∧ i = .int .i64 k ∧ Hid (BwSt w wr r c (j * c + k) po pc f)) (fun i _ => c - (intOf i).toNat)
      case atStart => exact ⟨0, po, pc, Nat.zero_le _, rfl, hS⟩
      case round =>
        clear hS
        obtain ⟨k, po, pc, hk, rfl, hS⟩ := hrel
        by_cases hkc : k < c
        · have hkI : (k : Int) < (c : Int) := by omega
          have C := hide (fun w' h => unhide HS w' j k h hlt hkc)
          have eo := hide (unhide FV j k hkc)
          have hpl := hide (unhide HN j k hlt hkc)
          go_wp2_with fail
          refine at_world (fun W => BwSt w W r c (j * c + k) po pc f) (unhide hS) ?_
          clear hS
          rintro W0 hS
          replace hS := hS.all ((Below.refl W0.heap.size W0).drew)
          have SS := hide hS
          have y2 := hS.2.1.c2; have f2 := hS.2.1.free 2
          clear hS
          obtain ⟨n, hn⟩ : ∃ n, j * c + k = n := ⟨_, rfl⟩
          have HN2 := hide hn
          rw [hn] at SS y2
          have hn36 := hide (show n ≤ 36 from by have := unhide hpl; omega)
          clear hn
          go_region_law (first | (refine step_append_ex _ (by rfl) _ _ 87 (by rfl) _ _ _ _ (by rfl) (by rfl) (unhide PU) ?_; rintro qo qc w5 ⟨bx, st⟩; clear y2 y3 f2; have ST5 := hide st; have y2 := bx.c2; have f2 := bx.free 2; clear bx st PU) | (go_simp; refine (unhide C _ (unhide SS).2.2.2).mono ?_; rintro e w4 ⟨q, rfl, ⟨n4, a4, c4, L4, rfl, i4⟩, hb4⟩; clear y2 f2; have S4 := (unhide SS).all hb4; have Q4 := hide (show IsNum 0 w4 (.agg #[.bool n4, .slice a4 L4.length c4]) (F j k) from ⟨n4, a4, c4, L4, rfl, i4⟩); generalize L4.length = l4 at *; have y2 := S4.2.1.c2; have f2 := S4.2.1.free 2; have y3 := cell_keep y2 (below_alloc9 w4 (.cells #[.bool n4, .slice a4 l4 c4] 27)); have PU := hide (S4.push n4 a4 l4 c4 (by rw [← unhide HN2, unhide eo]; exact unhide Q4) (unhide hn36) 87); clear i4 hb4 SS S4 Q4))
          all_goals
            go_wp2_with fail
            go_round
            case rel => exact ⟨k + 1, qo, qc, by omega, by go_num, by rw [← Nat.add_assoc, unhide HN2]; exact ST5⟩
            case measure => simp [intOf]; omega
        · have hkk : k = c := by omega
          subst hkk
          go_wp2_with fail
          go_round
          case rel => exact ⟨j + 1, po, pc, by omega, by go_num, by rw [Nat.add_mul, Nat.one_mul]; exact hS⟩
          case measure => simp [intOf]; omega
    · have hjj : j = r := by omega
      subst hjj
      obtain ⟨h1, h2, h3, h4⟩ := unhide hS
      have DY := h3.whs
      have s0 := h1.c0; have s1 := h1.c1; have s2 := h1.c2
      have f0 := h1.free 0; have f1 := h1.free 1; have f2 := h1.free 2
      have t0 := h2.c0; have t1 := h2.c1; have t2 := h2.c2
      have XP := h1.put (.int .i64 j) (.int .i64 c) (.slice po (j * c) pc)
      have z0 := XP.c0; have z1 := XP.c1; have z2 := XP.c2
      obtain ⟨ao, cap, e1, q1⟩ := ((h3.set h1.clr (by omega) 0 (.int .i64 j)).set ((h1.clr).set _ _ rfl) (by omega) 1 (.int .i64 c)).set (((h1.clr).set _ _ rfl).set _ _ rfl) (by omega) 2 (.slice po (j * c) pc) |>.whs
      cases e1
      have QP := hide (unhide GR _ _ _ q1)
      have BP := hide (below_putM h4 (Nat.le_refl _) (.int .i64 j) (.int .i64 c) (.slice po (j * c) pc))
      clear h1 h2 h3 h4 DY XP q1 hS
      go_wp2
      exact bodyPost_ret (v := .agg #[.int .i64 j, .int .i64 c, .slice po (j * c) pc]) (by simp [results, Tryz.results108, go_sem, z0, z1, z2]) rfl ⟨_, _, rfl, unhide QP, unhide BP⟩

set_option maxRecDepth 20000 in
set_option maxHeartbeats 4000000 in
theorem wat_of (r c n cap b off i k q : Nat) (ng : Bool) (a : Option Addr) (l cp : Nat) (z : Int) (w : World) (hq : (i : Int) * (c : Int) = (q : Int)) (hlt : q + k < n) (hn : n ≤ 36)
    (h0 : w.cell? ⟨b, off + (q + k) * 2, none⟩ = some (.bool ng)) (h1 : w.cell? ⟨b, off + (q + k) * 2 + 1, none⟩ = some (.slice a l cp)) (hx : IsNum 0 w (.agg #[.bool ng, .slice a l cp]) z) :
    Calls Tryz.prog 111 #[.agg #[.int .i64 r, .int .i64 c, .slice (some ⟨b, off, none⟩) n cap], .int .i64 i, .int .i64 k] w fun e w' => ∃ v, e = .returned v ∧ IsNum 0 w' v z ∧ Below w.heap.size w w' := by
  have b0 := below_alloc9 w (.cells #[.int .i64 r, .int .i64 c, .slice (some ⟨b, off, none⟩) n cap] 89)
  have b1 := below_alloc9 (w.alloc (.cells #[.int .i64 r, .int .i64 c, .slice (some ⟨b, off, none⟩) n cap] 89)) (.cells #[.bool false, .slice none 0 0] 27)
  have b2 := below_alloc9 (w.alloc (.cells #[.int .i64 r, .int .i64 c, .slice (some ⟨b, off, none⟩) n cap] 89)) (.cells #[.bool ng, .slice a l cp] 27)
  have bb := b0.trans (b1.mono b0.size)
  have bc := b0.trans (b2.mono b0.size)
  have k0 := cell_keep h0 bb; have k1 := cell_keep h1 bb
  have HX := hide (hx.below bc)
  have HB := hide bc
  have hkI : (q : Int) + (k : Int) < (n : Int) := by omega
  clear b0 b1 b2 bb bc h0 h1 hx
  go_enter Tryz.func111, Tryz.ntmps111
  go_wp2
  exact bodyPost_ret (v := .agg #[.bool ng, .slice a l cp]) (by simp [results, Tryz.results111, go_sem]) rfl ⟨_, rfl, unhide HX, unhide HB⟩

theorem wat_any (r c cap i k : Nat) (ao : Option Addr) (F : Nat → Nat → Int) (w : World) (h : GrW w ao cap r c F) (hi : i < r) (hk : k < c) :
    Calls Tryz.prog 111 #[.agg #[.int .i64 r, .int .i64 c, .slice ao (r * c) cap], .int .i64 i, .int .i64 k] w fun e w' => ∃ v, e = .returned v ∧ IsNum 0 w' v (F i k) ∧ Below w.heap.size w w' := by
  have hp := place_lt hi hk
  rcases h.1.2 with e | ⟨b, off, rfl, h2, h3⟩
  · omega
  · obtain ⟨ng, a, l, cp, c0, c1, hx⟩ := h3 (i * c + k) hp
    replace hx : IsNum 0 w _ (F ((i * c + k) / c) ((i * c + k) % c)) := hx
    rw [place_div hk, place_mod hk] at hx
    exact wat_of r c (r * c) cap b off i k (i * c) ng a l cp (F i k) w (cast_mul10 i c) hp (Nat.mul_le_mul h.2.1 h.2.2) c0 c1 hx

end Go.Proofs.YtfnnbkclnflpfaaGreatDoor

/- Package certify: wholes. -/
namespace Go.Proofs.YtfnnbkclnflpfaaGreatDoor
open Go.RowKit
attribute [local go_sem ↓] Go.wp_at_zero Go.wp_at_succ

theorem shift_up11 {B : Nat} {w : World} {v : Value} {x n : Int} (k : Nat) (hv : IsNum B w v x) (hx : x.natAbs < TOP) (hn : n = (k : Int)) (hk : k ≤ 10000) (hz : (x * 2 ^ k).natAbs < TOP) :
    Calls Tryz.prog 110 #[v, .int .i64 n] w fun e w' => ∃ r, e = .returned (.tuple #[r, .int .i64 0]) ∧ IsNum 0 w' r (x * 2 ^ k) ∧ Below w.heap.size w w' := by
  obtain ⟨na, ao, ca, A, rfl, a1, a2, a3, a4⟩ := hv.right hx
  have := shift_any na ao ca A n w a1 (by omega) (by omega)
  have hok : shOk na A n = true := by unfold shOk; rw [a2, decide_eq_true (by omega)]; rfl
  have hV : shV na A n = x * 2 ^ k := by
    unfold shV
    rw [if_pos (by omega), show n.toNat = k by omega, ← a3, sval_sg]
    unfold sg
    cases na <;> simp [Int.neg_mul]
  rw [show shE na A n = 0 by unfold shE; rw [hok, if_pos rfl, hV, errOf_small _ hz], show shN na A n = x * 2 ^ k by unfold shN; rw [hok, if_pos rfl, hV, numOf_small _ hz]] at this
  exact this.mono fun e w' ⟨r, h1, h2, h3⟩ => ⟨r, h1, h2.mono (Nat.zero_le _), h3⟩

/-- A number at a level, shifted so that it is whole there. -/
theorem shift_lv {w : World} {n1 : Bool} {a1 : Option Addr} {l1 c1 : Nat} {X z : Int} (h : IsLv w (.agg #[.bool n1, .slice a1 l1 c1, .int .i64 X]) (-1074) z) (hz : z.natAbs < 2 ^ 2098) :
    (-1074 ≤ X ∧ X ≤ 1100) ∧ Calls Tryz.prog 110 #[.agg #[.bool n1, .slice a1 l1 c1], .int .i64 (X + 1074)] w fun e w' => ∃ r, e = .returned (.tuple #[r, .int .i64 0]) ∧ IsNum 0 w' r z ∧ Below w.heap.size w w' := by
  obtain ⟨neg, ao, cap, L, e1, hn⟩ := h
  simp only [Value.agg.injEq, Array.mk.injEq, List.cons.injEq, Value.bool.injEq, Value.slice.injEq, Value.int.injEq, and_true, true_and] at e1
  obtain ⟨rfl, ⟨rfl, rfl, rfl⟩, rfl⟩ := e1
  have hT : z.natAbs < TOP := lt_TOP (k := 2098) hz (by decide)
  have hO : (oM z).natAbs < TOP := Nat.lt_of_le_of_lt (oM_le z) hT
  by_cases h0 : z = 0
  · subst h0
    rw [oE_zero]
    refine ⟨by omega, ?_⟩
    have := shift_up11 (n := 0 + 1074) 1074 hn hO rfl (by decide) (by rw [oM_zero, Int.zero_mul]; exact hT)
    rw [oM_zero, Int.zero_mul] at this
    exact this
  · have ht : tz z.natAbs < 2098 := tz_lt _ 2098 (by omega) hz
    rw [oE_ne _ _ h0]
    refine ⟨by omega, ?_⟩
    have e : oM z * 2 ^ tz z.natAbs = z := (oddOf z h0).1.symm
    have := shift_up11 (n := -1074 + (tz z.natAbs : Int) + 1074) (tz z.natAbs) hn hO (by omega) (by omega) (by rw [e]; exact hT)
    rwa [e] at this

set_option maxRecDepth 20000 in
set_option maxHeartbeats 4000000 in
theorem wholes1_of (r c n cap bg i k : Nat) (ao : Option Addr) (lo z y : Int) (w : World) (hx : BoxT 61 w bg (.int .i64 r) (.int .i64 c) (.slice ao n cap))
    (CA : ∀ w', Below w.heap.size w w' → Calls Tryz.prog 86 #[.agg #[.int .i64 r, .int .i64 c, .slice ao n cap], .int .i64 i, .int .i64 k] w' fun e w'' => ∃ v, e = .returned v ∧ IsLv w'' v lo z ∧ Below w'.heap.size w' w'')
    (CS : ∀ w' n1 a1 l1 c1 X, Below w.heap.size w w' → IsLv w' (.agg #[.bool n1, .slice a1 l1 c1, .int .i64 X]) lo z → (-1074 ≤ X ∧ X ≤ 1100) ∧ Calls Tryz.prog 110 #[.agg #[.bool n1, .slice a1 l1 c1], .int .i64 (X + 1074)] w' fun e w'' => ∃ r, e = .returned (.tuple #[r, .int .i64 0]) ∧ IsNum 0 w'' r y ∧ Below w'.heap.size w' w'') :
    Calls Tryz.prog 109 #[.int .i64 i, .int .i64 k, .pointer (some ⟨bg, 0, none⟩)] w fun e w' => ∃ v, e = .returned v ∧ IsNum 0 w' v y ∧ Below w.heap.size w w' := by
  have K1 := hide CA; have K2 := hide CS
  have b0 := below_alloc9 w (.cells #[.bool false, .slice none 0 0] 27)
  have X0 := hide (Box2.new w (.bool false) (.slice none 0 0))
  have m0 := (hx.all b0).c0; have m1 := (hx.all b0).c1; have m2 := (hx.all b0).c2
  have B0 := hide b0
  clear b0 hx CA CS
  go_enter Tryz.func109, Tryz.ntmps109
  go_wp2_with fail
  refine (unhide K1 _ (unhide B0)).mono ?_
  rintro e w1 ⟨u, rfl, ⟨n1, a1, c1, L1, rfl, i1⟩, hb1⟩
  have hv : IsLv w1 (.agg #[.bool n1, .slice a1 L1.length c1, .int .i64 (oE z lo)]) lo z := ⟨n1, a1, c1, L1, rfl, i1⟩
  generalize L1.length = l1 at *
  generalize oE z lo = X1 at *
  have ba := below_alloc9 w1 (.cells #[.bool n1, .slice a1 l1 c1, .int .i64 X1] 29)
  have hbb := hb1.trans (ba.mono hb1.size)
  replace B0 := hide ((unhide B0).trans (hbb.mono (unhide B0).size))
  replace X0 := hide ((unhide X0).below hbb (unhide X0).lt)
  obtain ⟨hX, C⟩ := unhide K2 _ n1 a1 l1 c1 X1 (unhide B0) (hv.below ba)
  have KC := hide C
  clear i1 hv hb1 ba hbb C K1 K2 m0 m1 m2
  go_wp2_with fail
  refine Calls.mono (unhide KC) ?_
  rintro e w2 ⟨v, rfl, ⟨n2, a2, c2, L2, rfl, i2⟩, hb2⟩
  have hq : IsNum 0 w2 (.agg #[.bool n2, .slice a2 L2.length c2]) y := ⟨n2, a2, c2, L2, rfl, i2⟩
  generalize L2.length = l2 at *
  have ba := below_alloc9 w2 (.cells #[.bool n2, .slice a2 l2 c2] 27)
  have hbb := hb2.trans (ba.mono hb2.size)
  have x0 := (unhide X0).below hbb (unhide X0).lt
  have b3 := (unhide B0).trans (hbb.mono (unhide B0).size)
  have y0 := x0.c0; have y1 := x0.c1; have f0 := x0.free 0; have f1 := x0.free 1
  have xp := x0.put (.bool n2) (.slice a2 l2 c2)
  have z0 := xp.c0; have z1 := xp.c1
  have HV := hide (x0.clr.set w.heap.size 0 (u := .bool n2) rfl |>.num (x0.clr.num (hq.below ba) 0 (.bool n2)) 1 (.slice a2 l2 c2))
  have HB := hide ((b3.setCell (p := ⟨w.heap.size, 0, none⟩) (Nat.le_refl _) (.bool n2)).setCell (p := ⟨w.heap.size, 1, none⟩) (Nat.le_refl _) (.slice a2 l2 c2))
  clear i2 hq ba hbb hb2 b3 x0 xp X0 B0 KC
  go_wp2
  exact bodyPost_ret (v := .agg #[.bool n2, .slice a2 l2 c2]) (by simp [results, Tryz.results109, go_sem, z0, z1]) rfl ⟨_, rfl, unhide HV, unhide HB⟩

set_option maxRecDepth 20000 in
theorem cf_wholes1 (args : Array Value) (w : World) : (callFunc 109 args).run Tryz.prog w = .ok (.enter 109 args) w := by
  simp only [callFunc, go_sem]
  rfl

set_option maxRecDepth 20000 in
set_option maxHeartbeats 4000000 in
theorem wholes_of (r c n cap : Nat) (ao : Option Addr) (lo : Int) (F G : Nat → Nat → Int) (w : World)
    (C1 : ∀ w', Below w.heap.size w w' → Calls Tryz.prog 34 #[.agg #[.int .i64 r, .int .i64 c, .slice ao n cap]] w' fun e w'' => ∃ go q, e = .returned (.agg #[.int .i64 r, .int .i64 c, .slice go (r * c) q]) ∧ Gr w'' go q r c lo F ∧ Below w'.heap.size w' w'')
    (C2 : ∀ w2 g go q, BoxT 61 w2 g (.int .i64 r) (.int .i64 c) (.slice go (r * c) q) → Gr w2 go q r c lo F → Below w.heap.size w w2 → Calls Tryz.prog 108 #[.int .i64 r, .int .i64 c, .func (.func 109) #[] #[.pointer (some ⟨g, 0, none⟩)]] w2 fun e w'' => ∃ ho d, e = .returned (.agg #[.int .i64 r, .int .i64 c, .slice ho (r * c) d]) ∧ GrW w'' ho d r c G ∧ Below w2.heap.size w2 w'') :
    Calls Tryz.prog 64 #[.agg #[.int .i64 r, .int .i64 c, .slice ao n cap]] w fun e w' => ∃ ho d, e = .returned (.agg #[.int .i64 r, .int .i64 c, .slice ho (r * c) d]) ∧ GrW w' ho d r c G ∧ Below w.heap.size w w' := by
  have b0 := below_alloc9 w (.cells #[.int .i64 r, .int .i64 c, .slice ao n cap] 24)
  have s0 := size_alloc9 w (.cells #[.int .i64 r, .int .i64 c, .slice ao n cap] 24)
  have x0 := BoxM.new w (.int .i64 r) (.int .i64 c) (.slice ao n cap)
  have b1 := below_alloc9 (w.alloc (.cells #[.int .i64 r, .int .i64 c, .slice ao n cap] 24)) (.cells #[.int .i64 0, .int .i64 0, .slice none 0 0] 89)
  have x1 := BoxT.new 89 (w.alloc (.cells #[.int .i64 r, .int .i64 c, .slice ao n cap] 24)) (.int .i64 0) (.int .i64 0) (.slice none 0 0)
  rw [s0] at x1
  have X0 := hide (x0.all b1); have X1 := hide x1; have BB := hide (b0.trans (b1.mono b0.size))
  have K1 := hide C1; have K2 := hide C2
  clear b0 b1 s0 x0 x1 C1 C2
  generalize r * c = rc at *
  go_enter Tryz.func64, Tryz.ntmps64
  go_wp2_with fail
  refine (unhide K1 _ (unhide BB)).mono ?_
  rintro e w1 ⟨go, q, rfl, hq, hb1⟩
  have ba := below_alloc9 w1 (.cells #[.int .i64 r, .int .i64 c, .slice go rc q] 61)
  have hbb := hb1.trans (ba.mono hb1.size)
  replace BB := hide ((unhide BB).trans (hbb.mono (unhide BB).size)); replace X0 := hide ((unhide X0).all hbb); replace X1 := hide ((unhide X1).all hbb)
  have C := hide (unhide K2 _ _ go q (BoxT.new 61 w1 (.int .i64 r) (.int .i64 c) (.slice go rc q)) (hq.below ba) (unhide BB))
  have y0 := (unhide X0).c0; have y1 := (unhide X0).c1
  clear K1 K2 hq hb1 ba hbb X0
  go_wp2_with fail
  refine Calls.mono (unhide C) ?_
  rintro e w2 ⟨ho, d, rfl, hz, hb2⟩
  have x1 := (unhide X1).all hb2
  clear y0 y1
  have y0 := x1.c0; have y1 := x1.c1; have y2 := x1.c2; have f0 := x1.free 0; have f1 := x1.free 1; have f2 := x1.free 2
  have xp := x1.put (.int .i64 r) (.int .i64 c) (.slice ho rc d)
  have z0 := xp.c0; have z1 := xp.c1; have z2 := xp.c2
  have PZ := hide (hz.putT x1 (r : Nat) (c : Nat) ho rc d)
  have PB := hide (below_putM ((unhide BB).trans (hb2.mono (unhide BB).size)) (show w.heap.size ≤ w.heap.size + 1 by omega) (.int .i64 r) (.int .i64 c) (.slice ho rc d))
  clear x1 xp C BB X1 hz hb2
  go_wp2
  exact bodyPost_ret (v := .agg #[.int .i64 r, .int .i64 c, .slice ho rc d]) (by simp [results, Tryz.results64, go_sem, z0, z1, z2]) rfl ⟨_, _, rfl, unhide PZ, unhide PB⟩

/-- The numbers of a matrix in units of 2^-1074. -/
theorem wholes_any (r c cap : Nat) (ao : Option Addr) (S : List Nat) (w : World) (h : Mx w ao cap r c S) (hf : ∀ x ∈ S, fFin x = true) (hT : Tab w) :
    Calls Tryz.prog 64 #[.agg #[.int .i64 r, .int .i64 c, .slice ao S.length cap]] w fun e w' => ∃ ho d, e = .returned (.agg #[.int .i64 r, .int .i64 c, .slice ho (r * c) d]) ∧ GrW w' ho d r c (fun i k => fZ (elM c S i k)) ∧ Below w.heap.size w w' := by
  refine wholes_of r c S.length cap ao (-1074) (fun i k => fZ (elM c S i k)) _ w (fun w' hb => values_any r c cap ao S w' (h.below hb) hf (hT.all hb)) (fun w2 g go q hx hg hb => ?_)
  refine buildW_any _ _ r c _ w2 cf_wholes1 h.2.2.1 h.2.2.2 (fun w' i k hb2 hi hk => ?_)
  exact wholes1_of r c (r * c) q g i k go (-1074) (fZ (elM c S i k)) (fZ (elM c S i k)) w' (hx.all hb2) (fun w'' hb3 => gat_any r c q i k go (-1074) _ w'' ((hg.below hb2).below hb3) hi hk) (fun w'' n1 a1 l1 c1 X _ hl => shift_lv hl (fZ_lt _ (el_fin c S i k hf)))

end Go.Proofs.YtfnnbkclnflpfaaGreatDoor

/- Package certify: lines. -/
namespace Go.Proofs.YtfnnbkclnflpfaaGreatDoor
open Go.RowKit
attribute [local go_sem ↓] Go.wp_at_zero Go.wp_at_succ

/-- The row at a place; none behind the last one. -/
def vAt (V : List Value) (i : Nat) : Value := V.getD i (.slice none 0 0)
theorem vAt_set_same (V : List Value) {j : Nat} (h : j < V.length) (u : Value) : vAt (V.set j u) j = u := by simp [vAt, List.getD_eq_getElem?_getD, h]
theorem vAt_set_other (V : List Value) {i j : Nat} (h : i ≠ j) (u : Value) : vAt (V.set j u) i = vAt V i := by
  unfold vAt
  rw [List.getD_eq_getElem?_getD, List.getD_eq_getElem?_getD, List.getElem?_set_ne (fun e => h e.symm)]

/-- Block g holds rows of the call's own, cnt i numbers of F i in row i, each in a block of its own. -/
def LnAt (base : Nat) (w : World) (g r : Nat) (V : List Value) (cnt : Nat → Nat) (F : Nat → Nat → Int) : Prop :=
  V.length = r ∧ w.heap[g]? = some (.cells V.toArray 87 (0, 0)) ∧ g < base ∧ (∀ i, i < r → OwnW base w (vAt V i) (cnt i) (F i)) ∧ (∀ i j, i < r → j < r → i ≠ j → ∀ b, (vAt V i).ownBlock = some b → (vAt V j).ownBlock ≠ some b)
theorem LnAt.below {base : Nat} {w w' : World} {g r : Nat} {V : List Value} {cnt : Nat → Nat} {F : Nat → Nat → Int} (h : LnAt base w g r V cnt F) (hb : Below w.heap.size w w') : LnAt base w' g r V cnt F := by
  obtain ⟨h1, h2, h3, h4, h5⟩ := h
  exact ⟨h1, (hb.block g (Array.getElem?_eq_some_iff.1 h2).1).trans h2, h3, fun i hi => (h4 i hi).below hb, h5⟩
theorem LnAt.congr {base : Nat} {w : World} {g r : Nat} {V : List Value} {cnt cnt' : Nat → Nat} {F : Nat → Nat → Int} (h : LnAt base w g r V cnt F) (he : ∀ i, i < r → cnt i = cnt' i) : LnAt base w g r V cnt' F := by
  obtain ⟨h1, h2, h3, h4, h5⟩ := h
  exact ⟨h1, h2, h3, fun i hi => by rw [← he i hi]; exact h4 i hi, h5⟩
theorem LnAt.cell {base : Nat} {w : World} {g r : Nat} {V : List Value} {cnt : Nat → Nat} {F : Nat → Nat → Int} (h : LnAt base w g r V cnt F) {j : Nat} (hj : j < r) : w.cell? ⟨g, j, none⟩ = some (vAt V j) ∧ w.frozen? ⟨g, j, none⟩ = false := by
  obtain ⟨h1, h2, h3, h4, h5⟩ := h
  refine ⟨?_, frozen_of_row w g j _ _ h2⟩
  rw [cell_of_row w g j _ _ _ h2]
  unfold vAt
  rw [List.getD_eq_getElem?_getD]
  simp [List.getElem?_eq_getElem (show j < V.length by omega)]
theorem LnAt.clr {base : Nat} {w : World} {g r : Nat} {V : List Value} {cnt : Nat → Nat} {F : Nat → Nat → Int} (h : LnAt base w g r V cnt F) : Clr w g := by
  obtain ⟨h1, h2, h3, h4, h5⟩ := h
  refine ⟨_, _, h2, fun u hu => ?_⟩
  obtain ⟨i, hi, rfl⟩ := List.getElem_of_mem (show u ∈ V from hu)
  obtain ⟨po, pc, e⟩ := (h4 i (by omega)).slice
  unfold vAt at e
  rw [List.getD_eq_getElem?_getD, List.getElem?_eq_getElem hi] at e
  have e' : V[i] = .slice po (cnt i) pc := e
  rw [e']
  rfl
theorem LnAt.lt {base : Nat} {w : World} {g r : Nat} {V : List Value} {cnt : Nat → Nat} {F : Nat → Nat → Int} (h : LnAt base w g r V cnt F) : g < w.heap.size := (Array.getElem?_eq_some_iff.1 h.2.1).1

theorem made_slices (n : Nat) : madeCells #[Value.slice none 0 0] n = (List.replicate n (Value.slice none 0 0)).toArray := by
  apply Array.toList_inj.1
  refine List.ext_getElem (by simp [madeCells]) fun i h1 h2 => ?_
  simp [madeCells, Nat.mod_one]
theorem LnAt.start (w : World) (r : Nat) (F : Nat → Nat → Int) : LnAt (w.heap.size + 1) (w.alloc (.cells (madeCells #[.slice none 0 0] r) 87)) w.heap.size r (List.replicate r (.slice none 0 0)) (fun _ => 0) F := by
  have e : ∀ i, vAt (List.replicate r (.slice none 0 0)) i = .slice none 0 0 := fun i => by
    unfold vAt
    rw [List.getD_eq_getElem?_getD, List.getElem?_replicate]
    split <;> rfl
  refine ⟨by simp, ?_, by omega, fun i hi => ?_, fun i j _ _ _ b hb => ?_⟩
  · rw [heap_alloc_new w _, made_slices]
  · rw [e i]; exact OwnW.nil _ _ _
  · rw [e i] at hb; cases hb

/-- One number more in row j: appended, and the row written. -/
theorem LnAt.push {base : Nat} {W : World} {g r : Nat} {V : List Value} {cnt : Nat → Nat} {F : Nat → Nat → Int} (h : LnAt base W g r V cnt F) {j : Nat} (hj : j < r) (ng : Bool) (a : Option Addr) (l cp : Nat) (hx : IsNum 0 W (.agg #[.bool ng, .slice a l cp]) (F j (cnt j))) (hb : base ≤ W.heap.size) (hn : cnt j ≤ 36) (ty : TypeId) :
    ∃ qo qc w', (Builtin.append_ #[87, 87] ty #[vAt V j, .slice (some ⟨W.heap.size, 0, none⟩) 1 1]).run Tryz.prog (W.alloc (.cells #[.bool ng, .slice a l cp] 27)) = .ok (.slice qo (cnt j + 1) qc) w' ∧ ((w'.cell? ⟨g, j, none⟩ = some (vAt V j) ∧ w'.frozen? ⟨g, j, none⟩ = false) ∧ LnAt base (w'.setCell ⟨g, j, none⟩ (.slice qo (cnt j + 1) qc)) g r (V.set j (.slice qo (cnt j + 1) qc)) (fun i => if i = j then cnt j + 1 else cnt i) F ∧ Below g W (w'.setCell ⟨g, j, none⟩ (.slice qo (cnt j + 1) qc))) := by
  have ba := below_alloc9 W (.cells #[.bool ng, .slice a l cp] 27)
  have hgW := h.lt
  have h' := h.below ba
  obtain ⟨h1, h2, h3, h4, h5⟩ := h'
  obtain ⟨qo, qc, w', e1, ho, hg, hat⟩ := (h4 j hj).push W.heap.size ng a l cp (hx.below ba) (heap_alloc_new W _) (by omega) (by simp; omega) ty
  have hcl := (h4 j hj).clear
  have hgn : (vAt V j).ownBlock ≠ some g := fun e => by have := ((h4 j hj).lt g e).1; omega
  have hblk : w'.heap[g]? = some (.cells V.toArray 87 (0, 0)) := (hg.block g (by simp; omega) hgn.symm).trans h2
  have hoth : ∀ i, i < r → i ≠ j → OwnW base w' (vAt V i) (cnt i) (F i) := fun i hi hij => (h4 i hi).grownBy hcl hg (fun b hb' => fun e => h5 i j hi hj hij b hb' e)
  have hc' : Clr w' g := by
    obtain ⟨cur, e, g1, g2⟩ := h.clr
    rw [h.2.1] at g1
    cases g1
    exact ⟨_, _, hblk, g2⟩
  have hset : V.set j (.slice qo (cnt j + 1) qc) = V.set j (.slice qo (cnt j + 1) qc) := rfl
  refine ⟨qo, qc, w', e1, ⟨?_, frozen_of_row w' g j _ _ hblk⟩, ⟨by simpa using h1, ?_, h3, fun i hi => ?_, fun i i' hi hi' hne b hb' => ?_⟩, ?_⟩
  · rw [cell_of_row w' g j _ _ _ hblk]
    unfold vAt
    rw [List.getD_eq_getElem?_getD]
    simp [List.getElem?_eq_getElem (show j < V.length by omega)]
  · rw [heap_setCell_same w' g j _ _ _ hblk]
    simp
  · show OwnW base _ _ (if i = j then cnt j + 1 else cnt i) (F i)
    by_cases hij : i = j
    · subst hij
      rw [if_pos rfl, vAt_set_same V (by omega)]
      exact ho.set hc' h3 _ _
    · rw [if_neg hij, vAt_set_other V hij]
      exact (hoth i hi hij).set hc' h3 _ _
  · by_cases hij : i = j
    · subst hij
      rw [vAt_set_same V (by omega)] at hb'
      rw [vAt_set_other V (fun e => hne e.symm)]
      rcases hat with e | e
      · rw [e] at hb'
        exact h5 i i' hi hi' hne b hb'
      · rw [e] at hb'
        intro e'
        have := ((h4 i' hi').lt b e').2
        simp at hb' this
        have e6 := ((h.2.2.2.1 i' hi').lt b e').2
        omega
    · rw [vAt_set_other V hij] at hb'
      by_cases hij' : i' = j
      · subst hij'
        rw [vAt_set_same V (by omega)]
        rcases hat with e | e
        · rw [e]
          exact h5 i i' hi hi' hne b hb'
        · rw [e]
          intro e'
          have e6 := ((h.2.2.2.1 i hi).lt b hb').2
          simp at e'
          omega
      · rw [vAt_set_other V hij']
        exact h5 i i' hi hi' hne b hb'
  · exact ((ba.mono (Nat.le_of_lt hgW)).grown hg (by simp; omega) (fun k hk => by have := ((h4 j hj).lt k hk).1; omega)).setCell (p := ⟨g, j, none⟩) (Nat.le_refl _) _

/-- The rows as exact's layer has them. -/
theorem LnAt.mat {base : Nat} {w : World} {g r c : Nat} {V : List Value} {F : Nat → Nat → Int} (h : LnAt base w g r V (fun _ => c) F) :
    ∃ M : List Rw, M.length = r ∧ MatAt w (some ⟨g, 0, none⟩) r M ∧ (∀ i, i < r → (rwAt M i).R.length = c) ∧ (∀ i k, i < r → k < c → IsNm w (entry M i k) (F i k)) := by
  obtain ⟨h1, h2, h3, h4, h5⟩ := h
  have hex : ∀ n, n ≤ r → ∃ M : List Rw, M.length = n ∧ ∀ i, i < n → (rwAt M i).v = vAt V i ∧ (rwAt M i).R.length = c ∧ NumsAt w (rwAt M i).ao (rwAt M i).cap (rwAt M i).R ∧ ∀ k, k < c → IsNm w (nmAt (rwAt M i).R k) (F i k) := by
    intro n
    induction n with
    | zero => intro _; exact ⟨[], rfl, fun i hi => by omega⟩
    | succ n ih =>
      intro hn
      obtain ⟨M, m1, m2⟩ := ih (by omega)
      obtain ⟨x, x1, x2, x3, x4⟩ := (h4 n (by omega)).rw
      refine ⟨M ++ [x], by simp [m1], fun i hi => ?_⟩
      by_cases hin : i < n
      · have e : rwAt (M ++ [x]) i = rwAt M i := by unfold rwAt; rw [List.getElem?_append_left (by omega)]
        rw [e]; exact m2 i hin
      · obtain rfl : i = n := by omega
        have e : rwAt (M ++ [x]) i = x := by unfold rwAt; rw [← m1, List.getElem?_append_right (Nat.le_refl _)]; simp
        rw [e]; exact ⟨x1.symm, x2, x3, x4⟩
  obtain ⟨M, m1, m2⟩ := hex r (Nat.le_refl _)
  refine ⟨M, m1, ⟨by omega, fun x hx => ?_, .inr ⟨g, 0, rfl, (Array.getElem?_eq_some_iff.1 h2).1, fun i hi => ?_⟩⟩, fun i hi => (m2 i hi).2.1, fun i k hi hk => (m2 i hi).2.2.2 k hk⟩
  · obtain ⟨i, hi, rfl⟩ := List.getElem_of_mem hx
    have := (m2 i (by omega)).2.2.1
    unfold rwAt at this
    rwa [List.getElem?_eq_getElem hi] at this
  · rw [(m2 i (by omega)).1, Nat.zero_add, cell_of_row w g i _ _ _ h2]
    unfold vAt
    rw [List.getD_eq_getElem?_getD]
    simp [List.getElem?_eq_getElem (show i < V.length by omega)]

end Go.Proofs.YtfnnbkclnflpfaaGreatDoor

/- Contract of exact's Det. -/
namespace Go.Proofs.YtfnnbkclnflpfaaGreatDoor
open Go.RowKit
attribute [local go_sem ↓] Go.wp_at_zero Go.wp_at_succ

theorem mChk_zero {M : List Rw} (h : mChk M = 0) : shapeB M = true ∧ (M.all (fun r => r.R.all rightN)) = true ∧ (M.all (fun r => r.R.all shortN)) = true := by
  unfold mChk at h
  cases h1 : shapeB M
  · simp [h1] at h
  · cases h2 : M.all (fun r => r.R.all rightN)
    · simp [h1, h2] at h
    · cases h3 : M.all (fun r => r.R.all shortN)
      · simp [h1, h2, h3] at h
      · exact ⟨rfl, rfl, rfl⟩

theorem good_of {M : List Rw} {w : World} {ao : Option Addr} {cap : Nat} (hM : MatAt w ao cap M) (h : mChk M = 0) : GoodM M (width M) := by
  obtain ⟨h1, h2, h3⟩ := mChk_zero h
  unfold shapeB at h1
  simp only [Bool.and_eq_true, decide_eq_true_eq, List.all_eq_true] at h1
  have hrow : ∀ i, i < M.length → (rwAt M i).R.length = width M := fun i hi => h1.2 _ (rwAt_mem hi)
  refine ⟨h1.1.1, h1.1.2, hrow, fun i j hi hj => ?_⟩
  have hmem : nmAt (rwAt M i).R j ∈ (rwAt M i).R := nmAt_mem (by rw [hrow i hi]; exact hj)
  have hr := List.all_eq_true.1 (List.all_eq_true.1 h2 _ (rwAt_mem hi)) _ hmem
  have hs := List.all_eq_true.1 (List.all_eq_true.1 h3 _ (rwAt_mem hi)) _ hmem
  refine ⟨hr, ?_⟩
  have hL := (hM.nums hi).2.1 _ hmem
  unfold valM entry
  rw [natAbs_sval]
  refine Nat.le_of_lt (Nat.lt_of_lt_of_le (val_lt _ hL.2.1) ?_)
  unfold B80
  exact Nat.pow_le_pow_right (by decide) (show _ ≤ N80 by unfold shortN at hs; exact of_decide_eq_true hs)

theorem mChk_range (M : List Rw) : mChk M = 0 ∨ mChk M = 1 ∨ mChk M = 2 ∨ mChk M = 3 := by
  unfold mChk; split
  · split
    · split <;> simp
    · simp
  · simp

end Go.Proofs.YtfnnbkclnflpfaaGreatDoor

/- Contract of exact's expand, with the other closure. Made of X5 by program: the same text, the other function's number. -/
namespace Go.Proofs.YtfnnbkclnflpfaaGreatDoor
open Go.RowKit
attribute [local go_sem ↓] Go.wp_at_zero Go.wp_at_succ

set_option maxHeartbeats 4000000 in
theorem expandL_any (caps : Array Value) (Base : Nat) (b : Option Nat) (I : World → Prop) (r D : Nat → Int) (s Bd N : Nat) (ao : Option Addr) (cap : Nat) (R : List Nm)
    (hI : ∀ w w', I w → Stb Base w w' → I w') (hR : ∀ w, I w → NumsAt w ao cap R)
    (hr : ∀ c, c < R.length → rightN (nmAt R c) = true ∧ sval (nmAt R c).neg (nmAt R c).L = r c)
    (hBd : ∀ c, c < R.length → (r c).natAbs ≤ Bd) (hD : ∀ c, c < R.length → s.testBit c = true → (D (del s c)).natAbs ≤ N) (hN : 6 * (Bd * N) < TOP) (hBT : Bd < TOP) (hNT : N < TOP)
    (hl : R.length ≤ 6) (hs : s < 64)
    (hrest : ∀ w c, I w → c < R.length → s.testBit c = true → Calls Tryz.prog 172 (#[.int .u64 (del s c)] ++ caps) w fun e w' => ∃ v, e = .returned v ∧ IsNum 0 w' v (D (del s c)) ∧ I w' ∧ Fr w.heap.size b w w')
    (w : World) (hIw : I w) (hBase : Base ≤ w.heap.size) (hb : ∀ m, b = some m → m < w.heap.size) :
    Calls Tryz.prog 171 #[.slice ao R.length cap, .int .u64 s, .func (.func 172) #[] caps] w fun e w' => ∃ v, e = .returned v ∧ IsNum 0 w' v (exS r s D R.length) ∧ I w' ∧ Fr w.heap.size b w w' := by
  have HI := hide hI; have HR := hide hR; have HRR := hide hr; have HBD := hide hBd; have HD := hide hD; have HN := hide hN; have HREST := hide hrest; have HB := hide hb
  have HIW := hide hIw; have HTT := hide (And.intro hBT hNT)
  clear hI hR hr hBd hD hN hrest hb hIw hBT hNT
  go_enter Tryz.func171, Tryz.ntmps171
  go_wp2_with fail
  go_loopw [14] (fun i wr => ∃ (k : Nat) (n : Bool) (a : Option Addr) (c : Nat) (L : List Nat), k ≤ R.length ∧ i = .int .i64 k ∧ Box2 wr (w.heap.size + 1) (.bool n) (.slice a L.length c) ∧ Box2 wr w.heap.size (.bool false) (.slice none 0 0) ∧ Hid (IsNum (w.heap.size + 2) wr (.agg #[.bool n, .slice a L.length c]) (exS r s D k)) ∧ Hid (I wr) ∧ Hid (Fr w.heap.size b w wr)) (fun i _ => R.length - (intOf i).toNat)
  case atStart =>
    refine ⟨0, false, none, 0, [], Nat.zero_le _, rfl, ?_, (Box2.new _ _ _).old _, ?_, ?_, ?_⟩
    · have := Box2.new (w.alloc (.cells #[.bool false, .slice none 0 0] 27)) (.bool false) (.slice none 0 0)
      simpa using this
    · exact hide (IsNum.zero _ _ _ _)
    · exact hide (unhide HI _ _ (unhide HIW) (.of (((Below.refl _ _).alloc (Nat.le_refl _) _).alloc (by simp) _)))
    · exact hide (((Fr.refl _ _ _).alloc (Nat.le_refl _) _).alloc (by simp) _)
  case round =>
    obtain ⟨k, n, a, c, L, hk, rfl, hx1, hx0, hnum, hIr, hfr⟩ := hrel
    by_cases hlt : k < R.length
    · have hkI : (k : Int) < (R.length : Int) := by omega
      have CH := hide (fun w => has_any s k w hs (by omega))
      by_cases hbit : s.testBit k = true
      · rw [hbit] at CH
        have hX1 := hide hx1; have hX0 := hide hx0
        clear hx1 hx0
        have hrow := unhide HR _ (unhide hIr)
        obtain ⟨b1, o1, hao, hb1, _⟩ := hrow.ne (by omega)
        subst hao
        clear hrow hb1
        obtain ⟨x, hx⟩ : ∃ x, nmAt R k = x := ⟨_, rfl⟩
        have hxr := unhide HRR k hlt
        rw [hx] at hxr
        have hxB := unhide HBD k hlt
        have hdB := unhide HD k hlt hbit
        obtain ⟨hBT, hNT⟩ := unhide HTT
        have CMUL := hide (fun w' (h : I w') v B' (hv : IsNum B' w' v (D (del s k))) => by
          have h1 := (unhide HR _ h).limbs hlt
          rw [hx] at h1
          have h2 := right_num h1 hxr.1 (NewAt.zero h1)
          rw [hxr.2] at h2
          have hm : (r k * D (del s k)).natAbs ≤ Bd * N := by
            rw [Int.natAbs_mul]; exact Nat.mul_le_mul hxB hdB
          have := unhide HN
          exact mul_new h2 hv (by omega) (by omega) (by omega))
        have CREST := hide (fun w' h => unhide HREST w' k h hlt hbit)
        have CW := hide (fun w => without_any s k w hs (by omega))
        have CA := hide (fun w => above_any s k w hs (by omega))
        have hK : ∀ w', Fr wr.heap.size b wr w' → I w' → Fr wr.heap.size b wr w' ∧ I w' ∧ w'.cell? ⟨b1, o1 + k * 2, none⟩ = some (.bool x.neg) ∧ w'.cell? ⟨b1, o1 + k * 2 + 1, none⟩ = some (.slice x.ao x.L.length x.cap) := fun w' h1 h2 => by
          have := (unhide HR _ h2).cells hlt
          rw [hx] at this
          exact ⟨h1, h2, this⟩
        have hres : Hid (exS r s D (k + 1) = exS r s D k + (if abv s k % 2 = 0 then r k * D (del s k) else -(r k * D (del s k)))) := by
          unfold Hid; conv => lhs; unfold exS
          rw [if_pos hbit]
        have hbnd : Hid ((exS r s D k).natAbs < TOP ∧ (r k * D (del s k)).natAbs < TOP ∧ (exS r s D k + r k * D (del s k)).natAbs < TOP ∧ (exS r s D k - r k * D (del s k)).natAbs < TOP) := by
          unfold Hid
          have e1 := exS_bound r s D Bd N k (fun c hc => unhide HBD c (by omega)) (fun c hc => unhide HD c (by omega))
          have hm : (r k * D (del s k)).natAbs ≤ Bd * N := by
            rw [Int.natAbs_mul]; exact Nat.mul_le_mul hxB hdB
          have h5 : k * (Bd * N) ≤ 5 * (Bd * N) := Nat.mul_le_mul_right _ (by omega)
          have := unhide HN
          generalize Bd * N = BN at *
          generalize r k * D (del s k) = t at *
          generalize exS r s D k = u at *
          generalize k * BN = kb at *
          refine ⟨by omega, by omega, by omega, by omega⟩
        have HK := hide hK
        obtain ⟨nx, ax, cx, Lx⟩ := x
        simp only at hxr HK
        clear hxr hxB hdB hBT hNT hK hx HRR HBD HD HREST HTT HN
        generalize D (del s k) = dv at *
        generalize hdel : del s k = ds at *
        generalize habv : abv s k = av at *
        go_wp2_with (go_at_call 150; refine (unhide CH _).mono ?_; rintro e w' ⟨rfl, rfl⟩)
        refine at_world (fun W => W = wr) rfl ?_
        rintro W0 e0
        subst e0
        have hI0 := unhide hIr
        have HKA := hide (fun wn o (h1 : Fr W0.heap.size b W0 wn) (h2 : I wn) => unhide HK (wn.alloc o) (h1.alloc h1.size o) (unhide HI _ _ h2 (.of ((Below.refl _ _).alloc (Nat.le_refl _) o))))
        have HKS := hide (fun wn g x a n c u u' (h1 : Fr W0.heap.size b W0 wn) (h2 : I wn) (h3 : Box2 wn g (.bool x) (.slice a n c)) (h4 : W0.heap.size ≤ g) => unhide HK _ (h1.put2 h4 u u') (unhide HI _ _ h2 (.put2 h3 (by have := (unhide hfr).size; omega) u u')))
        have BXA := hide (fun wn wm (h1 : Fr (W0.drew.alloc (.cells #[.bool false, .slice none 0 0] 27)).heap.size b (W0.drew.alloc (.cells #[.bool false, .slice none 0 0] 27)) wn) (h2 : Below wn.heap.size wn wm) => (h1.box (Box2.new W0.drew (.bool false) (.slice none 0 0)) (by simp) (fun m e => by have := unhide HB m e; have := (unhide hfr).size; simp; omega)).below h2 (by have := h1.size; simp at this; simp; omega))
        have BXB := hide (fun wn wm (h2 : Below (wn.alloc (.cells #[.bool false, .slice none 0 0] 27)).heap.size (wn.alloc (.cells #[.bool false, .slice none 0 0] 27)) wm) => (Box2.new wn (.bool false) (.slice none 0 0)).below h2 (by simp))
        have IPF := hide (fun (B : Nat) (wm : World) n a c L (h : LimbsAt wm a c L ∧ NewAt B a L ∧ Canon L ∧ n = decide (r k * dv < 0) ∧ val L = (r k * dv).natAbs ∧ L.length ≤ 35184372088832) => (show IsNum B wm (.agg #[.bool n, .slice a L.length c]) (r k * dv) from ⟨n, a, c, L, rfl, h⟩))
        have HT := hide (fun (W : World) (g : Nat) {np : Bool} {ap : Option Addr} {Lp : List Nat} {cp B : Nat} (h1 : Fr W0.heap.size b W0 W) (h2 : I W) (h3 : Box2 W g (.bool np) (.slice ap Lp.length cp)) (h4 : IsNum B W (.agg #[.bool np, .slice ap Lp.length cp]) (r k * dv)) =>
          (show TailF I b w n a L c np ap Lp cp (exS r s D k) (r k * dv) B g W from
            ⟨h3, h4, (unhide hnum).fr h1 (fun m e => by have := unhide HB m e; omega), h2, (unhide hfr).then (Nat.le_refl _) h1, h1.box (unhide hX1) (unhide hX1).lt (fun m e => by have := unhide HB m e; omega), h1.box (unhide hX0) (unhide hX0).lt (fun m e => unhide HB m e)⟩))
        go_region_held3 (fun w' => Fr W0.heap.size b W0 w' ∧ I w' ∧ w'.cell? ⟨b1, o1 + k * 2, none⟩ = some (.bool nx) ∧ w'.cell? ⟨b1, o1 + k * 2 + 1, none⟩ = some (.slice ax Lx.length cx))
          (first | assumption | exact unhide HK _ (Fr.refl _ _ _).drew (unhide HI _ _ (by assumption) Stb.drewed) | exact unhide HK _ (by assumption) (by assumption) | exact unhide HKA _ _ (by assumption) (by assumption) | exact unhide HKA _ _ (And.left (by assumption)) (And.left (And.right (by assumption))) | exact unhide HKS _ _ _ _ _ _ _ _ hFm hIm xb (by first | omega | exact Fr.size (by assumption)) | fail "KK")
          (first | (go_at_call 173; refine (unhide CW _).mono ?_; rintro e wx ⟨rfl, rfl⟩) | (go_at_call 172; refine (unhide CREST _ (And.left (And.right (by assumption)))).mono ?_; rintro e wn ⟨v, rfl, iv, hIn, hfn⟩; have hFn : Fr W0.heap.size b W0 wn := Fr.then (And.left (by assumption)) (Nat.le_refl _) hfn; have IV := hide iv; have HFN := hide hfn; clear hfn iv) | (go_at_call 163; refine (unhide CMUL _ (And.left (And.right (by assumption))) _ 0 (by first | exact unhide IV | exact (unhide IV).below ((Below.refl _ _).alloc (Nat.le_refl _) _))).mono ?_; rintro e wm ⟨pv, rfl, ⟨np, ap, cp, Lp, rfl, ip⟩, hb1⟩; have hFm : Fr W0.heap.size b W0 wm := Fr.thenB (And.left (by assumption)) (Nat.le_refl _) hb1; have hIm : I wm := unhide HI _ _ (And.left (And.right (by assumption))) (.of hb1); have IP := hide (unhide IPF _ _ _ _ _ _ ip); (first | (have xb : Box2 wm W0.heap.size (.bool false) (.slice none 0 0) := unhide BXA _ _ (unhide HFN) hb1) | (have xb : Box2 wm wn.heap.size (.bool false) (.slice none 0 0) := unhide BXB _ _ hb1) | (have xb : True := trivial)); (first | (have y0 := xb.c0; have y1 := xb.c1; have f0 := xb.free 0; have f1 := xb.free 1) | skip); clear hb1 ip) | fail "NO ARM")
        all_goals
          first
            | refine at_then (TailF _ _ _ _ _ _ _ _ _ _ _ _ _ _ W0.heap.size) (unhide HT _ _ (And.left (by assumption)) (And.left (And.right (by assumption))) (xb.put _ _) ((unhide IP).stb (Stb.put2 (Base := 0) xb (Nat.zero_le _) _ _))) ?_
            | refine at_then (TailF _ _ _ _ _ _ _ _ _ _ _ _ _ _ wn.heap.size) (unhide HT _ _ (And.left (by assumption)) (And.left (And.right (by assumption))) (xb.put _ _) ((unhide IP).stb (Stb.put2 (Base := 0) xb (Nat.zero_le _) _ _))) ?_
            | refine at_then (TailF _ _ _ _ _ _ _ _ _ _ _ _ _ _ wm.heap.size) (unhide HT _ _ (And.left (by assumption)) (And.left (And.right (by assumption))) (Box2.new _ _ _) ((unhide IP).below ((Below.refl _ _).alloc (Nat.le_refl _) _))) ?_
            | fail "NO WAY"
        all_goals
          rintro W ⟨xg, iq, isum, hIW, hFW, x1, x0⟩
          have c0 := xg.c0; have c1 := xg.c1; have d0 := x1.c0; have d1 := x1.c1
          have IS := hide isum; have IQ := hide iq; have IW := hide hIW; have FW := hide hFW; have X1 := hide x1; have X0 := hide x0
          try clear y0 y1 f0 f1
          clear xg iq isum hIW hFW x1 x0 xb hFm hIm hIn hFn IP IV HFN HT IPF BXA BXB HKS HKA HK hI0 CREST CMUL CW CH hX1 hX0 hnum hfr hIr HIW HR
          by_cases hpar : av % 2 = 0
          · have hp1 : ((av : Int).tmod 2 == 0) = true := by
              have : (av : Int).tmod 2 = ((av % 2 : Nat) : Int) := by simp [Int.tmod_eq_emod]
              rw [this, hpar]; rfl
            go_wp2_with (go_at_call 182; refine (unhide CA _).mono ?_; rintro e w' ⟨rfl, rfl⟩)
            refine (add_new (unhide IS) (unhide IQ) (unhide hbnd).1 (unhide hbnd).2.1 (unhide hbnd).2.2.1).mono ?_
            rintro e w4 ⟨rr, rfl, ⟨n4, a4, c4, L4, rfl, i4⟩, hb4⟩
            have x4 := (unhide X1).below hb4 (unhide X1).lt
            have x5 := (unhide X0).below hb4 (unhide X0).lt
            have hsz := (unhide X1).lt
            have e0 := x4.c0; have e1 := x4.c1; have fr0 := x4.free 0; have fr1 := x4.free 1
            have N4 := hide (show IsNum W.heap.size w4 (.agg #[.bool n4, .slice a4 L4.length c4]) _ from ⟨n4, a4, c4, L4, rfl, i4⟩)
            have I4 := hide (unhide HI _ _ (unhide HI _ _ (unhide IW) (.of hb4)) (.put2 x4 (by omega) (.bool n4) (.slice a4 L4.length c4)))
            have F4 := hide (((unhide FW).thenB (Nat.le_refl _) hb4).put2 (g := w.heap.size + 1) (by omega) (.bool n4) (.slice a4 L4.length c4))
            have X4 := hide x4; have X5 := hide x5
            clear i4 hb4 x4 x5 X1 X0 IS IQ IW FW hbnd
            go_wp2
            go_roundw
            case rel => exact ⟨k + 1, n4, a4, c4, L4, by omega, by go_num, (unhide X4).put _ _, (unhide X5).otherx (by omega) _ _, hide (by rw [hres.out, if_pos hpar]; exact ((unhide N4).mono (by omega)).putx (by omega) _ _), I4, F4⟩
            case measure => simp [intOf]; omega
          · have hp1 : ((av : Int).tmod 2 == 0) = false := by
              have : (av : Int).tmod 2 = ((av % 2 : Nat) : Int) := by simp [Int.tmod_eq_emod]
              rw [this]; simp; omega
            go_wp2_with (go_at_call 182; refine (unhide CA _).mono ?_; rintro e w' ⟨rfl, rfl⟩)
            refine (sub_ok (unhide IS) (unhide IQ) (unhide hbnd).1 (unhide hbnd).2.1 (unhide hbnd).2.2.2).mono ?_
            rintro e w4 ⟨rr, rfl, ⟨n4, a4, c4, L4, rfl, i4⟩, hb4⟩
            have x4 := (unhide X1).below hb4 (unhide X1).lt
            have x5 := (unhide X0).below hb4 (unhide X0).lt
            have hsz := (unhide X1).lt
            have e0 := x4.c0; have e1 := x4.c1; have fr0 := x4.free 0; have fr1 := x4.free 1
            have N4 := hide (show IsNum W.heap.size w4 (.agg #[.bool n4, .slice a4 L4.length c4]) _ from ⟨n4, a4, c4, L4, rfl, i4⟩)
            have I4 := hide (unhide HI _ _ (unhide HI _ _ (unhide IW) (.of hb4)) (.put2 x4 (by omega) (.bool n4) (.slice a4 L4.length c4)))
            have F4 := hide (((unhide FW).thenB (Nat.le_refl _) hb4).put2 (g := w.heap.size + 1) (by omega) (.bool n4) (.slice a4 L4.length c4))
            have X4 := hide x4; have X5 := hide x5
            clear i4 hb4 x4 x5 X1 X0 IS IQ IW FW hbnd
            go_wp2
            go_roundw
            case rel => exact ⟨k + 1, n4, a4, c4, L4, by omega, by go_num, (unhide X4).put _ _, (unhide X5).otherx (by omega) _ _, hide (by rw [hres.out, if_neg hpar, ← Int.sub_eq_add_neg]; exact ((unhide N4).mono (by omega)).putx (by omega) _ _), I4, F4⟩
            case measure => simp [intOf]; omega
      · have hbf : s.testBit k = false := by simpa using hbit
        rw [hbf] at CH
        have hres : Hid (exS r s D (k + 1) = exS r s D k) := by
          unfold Hid; conv => lhs; unfold exS
          rw [if_neg hbit, Int.add_zero]
        have hX1 := hide hx1; have hX0 := hide hx0
        clear hx1 hx0
        go_wp2_with (go_at_call 150; refine (unhide CH _).mono ?_; rintro e w' ⟨rfl, rfl⟩)
        go_roundw
        case rel => exact ⟨k + 1, n, a, c, L, by omega, by go_num, unhide hX1, unhide hX0, by rw [hres.out]; exact hnum, hIr, hfr⟩
        case measure => simp [intOf]; omega
    · have hkk : k = R.length := by omega
      have d0 := hx1.c0; have d1 := hx1.c1; have e0 := hx0.c0; have e1 := hx0.c1; have fr0 := hx0.free 0; have fr1 := hx0.free 1
      have I4 := hide (unhide HI _ _ (unhide hIr) (.put2 hx0 hBase (.bool n) (.slice a L.length c)))
      have F4 := hide ((unhide hfr).put2 (g := w.heap.size) (Nat.le_refl _) (.bool n) (.slice a L.length c))
      have N4 := hide (((unhide hnum).putx (g := w.heap.size) (by omega) (.bool n) (.slice a L.length c)).mono (Nat.zero_le _))
      rw [hkk] at N4
      subst hkk
      clear hx1 hx0 hnum hIr hfr
      go_wp2
      refine bodyPost_ret (v := .agg #[.bool n, .slice a L.length c]) (by simp [results, Tryz.results171, go_sem, e0, e1]) rfl ⟨_, rfl, unhide N4, unhide I4, unhide F4⟩

end Go.Proofs.YtfnnbkclnflpfaaGreatDoor

