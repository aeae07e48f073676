/- Part 26 of the texts. -/
import Derived.Test.YtfnnbkclnflpfaaGreatDoorPartS25
import Derived.Deep.RegionLaw
import Derived.Test.YtfnnbkclnflpfaaGreatDoorPartS14
/- The reference of layer 10: Right, At, Zeros, Row, With. -/
namespace Go.Proofs.YtfnnbkclnflpfaaGreatDoor
open Go.RowKit
attribute [local go_sem ↓] Go.wp_at_zero Go.wp_at_succ

set_option maxRecDepth 20000 in
set_option maxHeartbeats 4000000 in
theorem rright_any (r c : Int) (ao : Option Addr) (n cap : Nat) (w : World) :
    Calls Tryz.prog 39 #[.agg #[.int .i64 r, .int .i64 c, .slice ao n cap]] w fun e w' => e = .returned (.bool (okB r c n)) ∧ Below w.heap.size w w' := by
  have hb0 := hide (below_alloc9 w (.cells #[.int .i64 r, .int .i64 c, .slice ao n cap] 24))
  rcases (show (r < 0 ∧ okB r c n = false) ∨ (0 ≤ r ∧ 6 < r ∧ okB r c n = false) ∨ (0 ≤ r ∧ r ≤ 6 ∧ c < 0 ∧ okB r c n = false) ∨ (0 ≤ r ∧ r ≤ 6 ∧ 0 ≤ c ∧ 6 < c ∧ okB r c n = false) ∨ (0 ≤ r ∧ r ≤ 6 ∧ 0 ≤ c ∧ c ≤ 6) by
    unfold okB
    by_cases h : 0 ≤ r ∧ r ≤ 6 ∧ 0 ≤ c ∧ c ≤ 6
    · omega
    · rw [decide_eq_false (fun g => h g.1)]; simp; omega) with ⟨h1, e⟩ | ⟨h1, h2, e⟩ | ⟨h1, h2, h3, e⟩ | ⟨h1, h2, h3, h4, e⟩ | ⟨h1, h2, h3, h4⟩
  · rw [e]
    clear e
    go_enter Tryz.func39, Tryz.ntmps39
    go_wp2
    go_ret
    exact ⟨rfl, unhide hb0⟩
  · rw [e]
    clear e
    go_enter Tryz.func39, Tryz.ntmps39
    go_wp2
    go_ret
    exact ⟨rfl, unhide hb0⟩
  · rw [e]
    clear e
    go_enter Tryz.func39, Tryz.ntmps39
    go_wp2
    go_ret
    exact ⟨rfl, unhide hb0⟩
  · rw [e]
    clear e
    go_enter Tryz.func39, Tryz.ntmps39
    go_wp2
    go_ret
    exact ⟨rfl, unhide hb0⟩
  · have hm : ∃ m : Nat, r * c = (m : Int) ∧ m ≤ 36 := by
      obtain ⟨a, rfl⟩ := Int.eq_ofNat_of_zero_le h1
      obtain ⟨b, rfl⟩ := Int.eq_ofNat_of_zero_le h3
      refine ⟨a * b, by simp, ?_⟩
      have : a * b ≤ 6 * 6 := Nat.mul_le_mul (by omega) (by omega)
      omega
    obtain ⟨m, hm, h36⟩ := hm
    have e2 : okB r c n = decide ((n : Int) = (m : Int)) := decide_eq_decide.2 (by rw [hm]; exact ⟨fun h => h.2, fun h => ⟨⟨h1, h2, h3, h4⟩, h⟩⟩)
    rw [e2]
    clear e2
    go_enter Tryz.func39, Tryz.ntmps39
    go_wp2
    go_ret
    refine ⟨?_, unhide hb0⟩
    first | rfl | simp

end Go.Proofs.YtfnnbkclnflpfaaGreatDoor

/- The reference of layer 10: With, Copy, Same. -/
namespace Go.Proofs.YtfnnbkclnflpfaaGreatDoor
open Go.RowKit
attribute [local go_sem ↓] Go.wp_at_zero Go.wp_at_succ

/-- A number of a list of one's own written over. -/
theorem OwnB.at {base : Nat} {w : World} {ao : Option Addr} {n cap : Nat} {S : List Nat} (h : OwnB base w (.slice ao n cap) S) {j : Nat} (hj : j < S.length) :
    ∃ g, ao = some ⟨g, 0, none⟩ ∧ base ≤ g ∧ g < w.heap.size ∧ w.cell? ⟨g, j, none⟩ = some (.int .u64 (S.getD j 0 : Nat)) ∧ w.frozen? ⟨g, j, none⟩ = false ∧
      ∀ x, x < 18446744073709551616 → OwnB base (w.setCell ⟨g, j, none⟩ (.int .u64 (x : Nat))) (.slice ao n cap) (S.set j x) := by
  obtain ⟨⟨h1, h2⟩, h3⟩ := h
  rcases h2 with ⟨_, h0⟩ | ⟨g, cap', cur, hv, hg, hh, hc, hm, hs, ht⟩
  · omega
  · simp only [Value.slice.injEq] at hv
    obtain ⟨rfl, rfl, rfl⟩ := hv
    have q : (S.map bitV)[j]? = some (.int .u64 ((S[j] : Nat) : Int)) := by
      rw [List.getElem?_map, List.getElem?_eq_getElem hj]; rfl
    rw [← ht, List.getElem?_take, if_pos (by omega)] at q
    refine ⟨g, rfl, hg, (Array.getElem?_eq_some_iff.1 hh).1, ?_, frozen_of_row w g j _ _ hh, fun x hx => ⟨⟨by simp, .inr ⟨g, cap, cur.setIfInBounds j (.int .u64 (x : Nat)), ?_, hg, heap_setCell_same w g j _ _ _ hh, by simpa using hc, hm, by simpa using hs, ?_⟩⟩, ?_⟩⟩
    · rw [cell_of_row w g j _ _ _ hh]
      have e : S.getD j 0 = S[j] := by rw [List.getD_eq_getElem?_getD, List.getElem?_eq_getElem hj]; rfl
      rw [e]
      simpa using q
    · simp
    · rw [Array.toList_setIfInBounds, List.take_set, List.length_set, ht, List.map_set]
      rfl
    · intro y hy
      rcases List.mem_or_eq_of_mem_set hy with e | e
      · exact h3 y e
      · rw [e]; exact hx

end Go.Proofs.YtfnnbkclnflpfaaGreatDoor

/- The reference of layer 10: With, Copy, Stack, Same, Eye, Col; the law's told, form. -/
namespace Go.Proofs.YtfnnbkclnflpfaaGreatDoor
open Go.RowKit
attribute [local go_sem ↓] Go.wp_at_zero Go.wp_at_succ

/-- An append in a region that draws, its run known of the world at hand. -/
theorem step_append_ex {P : Program} (w : World) {ops : Array Oper} {o : Oper} {a : Act} {K : Act → World → Prop} {Q : Exit → Act → World → Prop} {E : Prop} (hgd : o.guard = none) (s x : Operand) (t : TypeId)
    (ho : o.op = .call { callee := .builtin .append, args := #[s, x], argTypes := #[t, t] }) (v1 v2 : Value) (n : Nat) (F : Option Addr → Nat → World → Prop) (hs : a.eval s = v1) (hx : a.eval x = v2)
    (hr : ∃ po pc w', (Builtin.append_ #[t, t] o.type #[v1, v2]).run P w = .ok (.slice po n pc) w' ∧ F po pc w') (h : ∀ po pc w', F po pc w' → K (a.put o.dst (.slice po n pc)) w') :
    if Region.wanted o (yielded ops a.tmps) = true then Oper.wp P o a w K Q else E := by
  have hw : Region.wanted o (yielded ops a.tmps) = true := by simp [Region.wanted, hgd]
  rw [if_pos hw]
  obtain ⟨po, pc, w', hrun, hF⟩ := hr
  unfold Oper.wp execOp
  simp only [ho, resolve, invoke, builtin, Sem.run_bind, Sem.run_pure, Result.andThen_ok, List.map_toArray, List.map_cons, List.map_nil, hs, hx, hrun]
  exact h po pc w' hF

end Go.Proofs.YtfnnbkclnflpfaaGreatDoor

/- Package certify: build, at. -/
namespace Go.Proofs.YtfnnbkclnflpfaaGreatDoor
open Go.RowKit
attribute [local go_sem ↓] Go.wp_at_zero Go.wp_at_succ

/-- What holds in build: the answer's box, the grid's, its row. -/
def BdSt (w wr : World) (r c n : Nat) (po : Option Addr) (pc : Nat) (lo : Int) (f : Nat → Int) : Prop :=
  BoxT 61 wr w.heap.size (.int .i64 0) (.int .i64 0) (.slice none 0 0) ∧ BoxT 61 wr (w.heap.size + 1) (.int .i64 r) (.int .i64 c) (.slice po n pc) ∧ OwnD (w.heap.size + 2) wr (.slice po n pc) n lo f ∧ Below w.heap.size w wr
theorem BdSt.all {w wr w' : World} {r c n : Nat} {po : Option Addr} {pc : Nat} {lo : Int} {f : Nat → Int} (h : BdSt w wr r c n po pc lo f) (hb : Below wr.heap.size wr w') : BdSt w w' r c n po pc lo f :=
  ⟨h.1.all hb, h.2.1.all hb, h.2.2.1.below hb, h.2.2.2.trans (hb.mono h.2.2.2.size)⟩
theorem BdSt.start (w : World) (r c : Nat) (lo : Int) (f : Nat → Int) : BdSt w ((w.alloc (.cells #[.int .i64 0, .int .i64 0, .slice none 0 0] 61)).alloc (.cells #[.int .i64 r, .int .i64 c, .slice none 0 0] 61)) r c 0 none 0 lo f := by
  have b0 := below_alloc9 w (.cells #[.int .i64 0, .int .i64 0, .slice none 0 0] 61)
  have s0 := size_alloc9 w (.cells #[.int .i64 0, .int .i64 0, .slice none 0 0] 61)
  have x0 := BoxT.new 61 w (.int .i64 0) (.int .i64 0) (.slice none 0 0)
  have x1 := BoxT.new 61 (w.alloc (.cells #[.int .i64 0, .int .i64 0, .slice none 0 0] 61)) (.int .i64 r) (.int .i64 c) (.slice none 0 0)
  have b1 := below_alloc9 (w.alloc (.cells #[.int .i64 0, .int .i64 0, .slice none 0 0] 61)) (.cells #[.int .i64 r, .int .i64 c, .slice none 0 0] 61)
  rw [s0] at x1
  exact ⟨x0.all b1, x1, OwnD.nil _ _ _ _, b0.trans (b1.mono b0.size)⟩
/-- One number more: appended, and the grid's box written. -/
theorem BdSt.push {w w4 : World} {r c n : Nat} {po : Option Addr} {pc : Nat} {lo : Int} {f : Nat → Int} (h : BdSt w w4 r c n po pc lo f) (ng : Bool) (a : Option Addr) (l cp : Nat) (X : Int) (hx : IsLv w4 (.agg #[.bool ng, .slice a l cp, .int .i64 X]) lo (f n)) (hn : n ≤ 36) (ty : TypeId) :
    ∃ qo qc w', (Builtin.append_ #[59, 59] ty #[.slice po n pc, .slice (some ⟨w4.heap.size, 0, none⟩) 1 1]).run Tryz.prog (w4.alloc (.cells #[.bool ng, .slice a l cp, .int .i64 X] 29)) = .ok (.slice qo (n + 1) qc) w' ∧ (BoxT 61 w' (w.heap.size + 1) (.int .i64 r) (.int .i64 c) (.slice po n pc) ∧ BdSt w (w'.setCell ⟨w.heap.size + 1, 2, none⟩ (.slice qo (n + 1) qc)) r c (n + 1) qo qc lo f) := by
  have ba := below_alloc9 w4 (.cells #[.bool ng, .slice a l cp, .int .i64 X] 29)
  have hsz := h.2.1.lt
  obtain ⟨h1, h2, h3, h4⟩ := h.all ba
  obtain ⟨qo, qc, w', e1, ho, hg⟩ := h3.push w4.heap.size ⟨ng, a, l, cp, X⟩ (hx.below ba) (heap_alloc_new w4 _) (by omega) (by simp; omega) ty
  have hl := h3.lt
  have n0 : (Value.slice po n pc).ownBlock ≠ some w.heap.size := fun e => by have := (hl _ e).1; omega
  have n1 : (Value.slice po n pc).ownBlock ≠ some (w.heap.size + 1) := fun e => by have := (hl _ e).1; omega
  have y0 := h1.grown hg n0
  have y1 := h2.grown hg n1
  refine ⟨qo, qc, w', e1, y1, y0.other (p := ⟨w.heap.size + 1, 2, none⟩) (by show w.heap.size ≠ w.heap.size + 1; omega) _, y1.put2 _, ho.set y1.clr (by omega) _ _, ?_⟩
  exact (h4.grown hg h4.size (fun k hk => by have := (hl _ hk).1; omega)).setCell (p := ⟨w.heap.size + 1, 2, none⟩) (by show w.heap.size ≤ w.heap.size + 1; omega) _

set_option maxRecDepth 20000 in
set_option maxHeartbeats 8000000 in
theorem buildD_any (fn : Nat) (caps : Array Value) (r c : Nat) (lo : Int) (F : Nat → Nat → Int) (w : World)
    (hcf : ∀ args w, (callFunc fn args).run Tryz.prog w = .ok (.enter fn args) w) (hr : r ≤ 6) (hc : c ≤ 6)
    (hstep : ∀ w' i k, Below w.heap.size w w' → i < r → k < c → Calls Tryz.prog fn (#[.int .i64 (i : Nat), .int .i64 (k : Nat)] ++ caps) w' fun e w'' => ∃ v, e = .returned v ∧ IsLv w'' v lo (F i k) ∧ Below w'.heap.size w' w'') :
    Calls Tryz.prog 78 #[.int .i64 r, .int .i64 c, .func (.func fn) #[] caps] w fun e w' => ∃ ao cap, e = .returned (.agg #[.int .i64 r, .int .i64 c, .slice ao (r * c) cap]) ∧ Gr w' ao cap r c lo F ∧ Below w.heap.size w w' := by
  have HS := hide hstep
  obtain ⟨f, hf⟩ : ∃ f : Nat → Int, f = fun p => F (p / c) (p % c) := ⟨_, rfl⟩
  have FV := hide (show ∀ j k, k < c → f (j * c + k) = F j k from fun j k hk => by rw [hf]; show F ((j * c + k) / c) ((j * c + k) % c) = _; rw [place_div hk, place_mod hk])
  have GR := hide (show ∀ w' ao cap, DysAt w' ao cap (r * c) lo f → Gr w' ao cap r c lo F from fun w' ao cap h => ⟨by rw [hf] at h; exact h, hr, hc⟩)
  have ST := hide (BdSt.start w r c lo f)
  have h36 : r * c ≤ 36 := Nat.mul_le_mul hr hc
  have HN := hide (fun j k (hj : j < r) (hk : k < c) => place_lt hj hk)
  clear hstep hf
  go_enter Tryz.func78, Tryz.ntmps78
  go_wp2_with fail
  go_loopw [14] (fun i wr => ∃ (j : Nat) (po : Option Addr) (pc : Nat), j ≤ r ∧ i = .int .i64 j ∧ Hid (BdSt w wr r c (j * c) po pc lo f)) (fun i _ => r - (intOf i).toNat)
  case atStart => exact ⟨0, none, 0, Nat.zero_le _, rfl, by rw [Nat.zero_mul]; exact ST⟩
  case round =>
    clear ST
    obtain ⟨j, po, pc, hj, rfl, hS⟩ := hrel
    by_cases hlt : j < r
    · have hjI : (j : Int) < (r : Int) := by omega
      go_wp2_with fail
      go_loopw [18] (fun i wr => ∃ (k : Nat) (po : Option Addr) (pc : Nat), k ≤ c ∧ i = .int .i64 k ∧ Hid (BdSt w wr r c (j * c + k) po pc lo f)) (fun i _ => c - (intOf i).toNat)
      case atStart => exact ⟨0, po, pc, Nat.zero_le _, rfl, hS⟩
      case round =>
        clear hS
        obtain ⟨k, po, pc, hk, rfl, hS⟩ := hrel
        by_cases hkc : k < c
        · have hkI : (k : Int) < (c : Int) := by omega
          have C := hide (fun w' h => unhide HS w' j k h hlt hkc)
          have eo := hide (unhide FV j k hkc)
          have hpl := hide (unhide HN j k hlt hkc)
          go_wp2_with fail
          refine at_world (fun W => BdSt w W r c (j * c + k) po pc lo f) (unhide hS) ?_
          clear hS
          rintro W0 hS
          replace hS := hS.all ((Below.refl W0.heap.size W0).drew)
          have SS := hide hS
          have y2 := hS.2.1.c2; have f2 := hS.2.1.free 2
          clear hS
          obtain ⟨n, hn⟩ : ∃ n, j * c + k = n := ⟨_, rfl⟩
          have HN2 := hide hn
          rw [hn] at SS y2
          have hn36 := hide (show n ≤ 36 from by have := unhide hpl; omega)
          clear hn
          go_region_law (first | (refine step_append_ex _ (by rfl) _ _ 59 (by rfl) _ _ _ _ (by rfl) (by rfl) (unhide PU) ?_; rintro qo qc w5 ⟨bx, st⟩; clear y2 y3 f2; have ST5 := hide st; have y2 := bx.c2; have f2 := bx.free 2; clear bx st PU) | (go_simp; refine (unhide C _ (unhide SS).2.2.2).mono ?_; rintro e w4 ⟨q, rfl, ⟨n4, a4, c4, L4, rfl, i4⟩, hb4⟩; clear y2 f2; have S4 := (unhide SS).all hb4; have Q4 := hide (show IsLv w4 (.agg #[.bool n4, .slice a4 L4.length c4, .int .i64 (oE (F j k) lo)]) lo (F j k) from ⟨n4, a4, c4, L4, rfl, i4⟩); generalize L4.length = l4 at *; generalize oE (F j k) lo = X4 at *; have y2 := S4.2.1.c2; have f2 := S4.2.1.free 2; have y3 := cell_keep y2 (below_alloc9 w4 (.cells #[.bool n4, .slice a4 l4 c4, .int .i64 X4] 29)); have PU := hide (S4.push n4 a4 l4 c4 X4 (by rw [← unhide HN2, unhide eo]; exact unhide Q4) (unhide hn36) 59); clear i4 hb4 SS S4 Q4))
          all_goals
            go_wp2_with fail
            go_round
            case rel => exact ⟨k + 1, qo, qc, by omega, by go_num, by rw [← Nat.add_assoc, unhide HN2]; exact ST5⟩
            case measure => simp [intOf]; omega
        · have hkk : k = c := by omega
          subst hkk
          go_wp2_with fail
          go_round
          case rel => exact ⟨j + 1, po, pc, by omega, by go_num, by rw [Nat.add_mul, Nat.one_mul]; exact hS⟩
          case measure => simp [intOf]; omega
    · have hjj : j = r := by omega
      subst hjj
      obtain ⟨h1, h2, h3, h4⟩ := unhide hS
      have DY := h3.dys
      have s0 := h1.c0; have s1 := h1.c1; have s2 := h1.c2
      have f0 := h1.free 0; have f1 := h1.free 1; have f2 := h1.free 2
      have t0 := h2.c0; have t1 := h2.c1; have t2 := h2.c2
      have XP := h1.put (.int .i64 j) (.int .i64 c) (.slice po (j * c) pc)
      have z0 := XP.c0; have z1 := XP.c1; have z2 := XP.c2
      obtain ⟨ao, cap, e1, q1⟩ := ((h3.set h1.clr (by omega) 0 (.int .i64 j)).set ((h1.clr).set _ _ rfl) (by omega) 1 (.int .i64 c)).set (((h1.clr).set _ _ rfl).set _ _ rfl) (by omega) 2 (.slice po (j * c) pc) |>.dys
      cases e1
      have QP := hide (unhide GR _ _ _ q1)
      have BP := hide (below_putM h4 (Nat.le_refl _) (.int .i64 j) (.int .i64 c) (.slice po (j * c) pc))
      clear h1 h2 h3 h4 DY XP q1 hS
      go_wp2
      exact bodyPost_ret (v := .agg #[.int .i64 j, .int .i64 c, .slice po (j * c) pc]) (by simp [results, Tryz.results78, go_sem, z0, z1, z2]) rfl ⟨_, _, rfl, unhide QP, unhide BP⟩

end Go.Proofs.YtfnnbkclnflpfaaGreatDoor

/- Package certify: at, values, turned. -/
namespace Go.Proofs.YtfnnbkclnflpfaaGreatDoor
open Go.RowKit
attribute [local go_sem ↓] Go.wp_at_zero Go.wp_at_succ

set_option maxRecDepth 20000 in
set_option maxHeartbeats 4000000 in
theorem gat_of (r c n cap b off i k q : Nat) (x : Dn) (lo z : Int) (w : World) (hq : (i : Int) * (c : Int) = (q : Int)) (hlt : q + k < n) (hn : n ≤ 36)
    (h0 : w.cell? ⟨b, off + (q + k) * 3, none⟩ = some (.bool x.neg)) (h1 : w.cell? ⟨b, off + (q + k) * 3 + 1, none⟩ = some (.slice x.ao x.len x.cap)) (h2 : w.cell? ⟨b, off + (q + k) * 3 + 2, none⟩ = some (.int .i64 x.e)) (hx : IsLv w x.v lo z) :
    Calls Tryz.prog 86 #[.agg #[.int .i64 r, .int .i64 c, .slice (some ⟨b, off, none⟩) n cap], .int .i64 i, .int .i64 k] w fun e w' => ∃ v, e = .returned v ∧ IsLv w' v lo z ∧ Below w.heap.size w w' := by
  have b0 := below_alloc9 w (.cells #[.int .i64 r, .int .i64 c, .slice (some ⟨b, off, none⟩) n cap] 61)
  have b1 := below_alloc9 (w.alloc (.cells #[.int .i64 r, .int .i64 c, .slice (some ⟨b, off, none⟩) n cap] 61)) (.cells #[.bool false, .slice none 0 0, .int .i64 0] 29)
  have b2 := below_alloc9 (w.alloc (.cells #[.int .i64 r, .int .i64 c, .slice (some ⟨b, off, none⟩) n cap] 61)) (.cells #[.bool x.neg, .slice x.ao x.len x.cap, .int .i64 x.e] 29)
  have bb := b0.trans (b1.mono b0.size)
  have bc := b0.trans (b2.mono b0.size)
  have k0 := cell_keep h0 bb; have k1 := cell_keep h1 bb; have k2 := cell_keep h2 bb
  have HX := hide (hx.below bc)
  have HB := hide bc
  have hkI : (q : Int) + (k : Int) < (n : Int) := by omega
  clear b0 b1 b2 bb bc h0 h1 h2 hx
  go_enter Tryz.func86, Tryz.ntmps86
  go_wp2
  exact bodyPost_ret (v := .agg #[.bool x.neg, .slice x.ao x.len x.cap, .int .i64 x.e]) (by simp [results, Tryz.results86, go_sem]) rfl ⟨_, rfl, unhide HX, unhide HB⟩

theorem gat_any (r c cap i k : Nat) (ao : Option Addr) (lo : Int) (F : Nat → Nat → Int) (w : World) (h : Gr w ao cap r c lo F) (hi : i < r) (hk : k < c) :
    Calls Tryz.prog 86 #[.agg #[.int .i64 r, .int .i64 c, .slice ao (r * c) cap], .int .i64 i, .int .i64 k] w fun e w' => ∃ v, e = .returned v ∧ IsLv w' v lo (F i k) ∧ Below w.heap.size w w' := by
  have hp := place_lt hi hk
  rcases h.1.2 with e | ⟨b, off, rfl, h2, h3⟩
  · omega
  · obtain ⟨x, c0, c1, c2, hx⟩ := h3 (i * c + k) hp
    replace hx : IsLv w x.v lo (F ((i * c + k) / c) ((i * c + k) % c)) := hx
    rw [place_div hk, place_mod hk] at hx
    exact gat_of r c (r * c) cap b off i k (i * c) x lo (F i k) w (cast_mul10 i c) hp (Nat.mul_le_mul h.2.1 h.2.2) c0 c1 c2 hx

/-- A number's value. -/
theorem valueN (b : Nat) (w : World) (h : b < 18446744073709551616) (hf : fFin b = true) (hT : Tab w) :
    Calls Tryz.prog 80 #[.int .u64 b] w fun r w' => ∃ u, r = .returned (.tuple #[u, .int .i64 0]) ∧ IsLv w' u (-1074) (fZ b) ∧ Below w.heap.size w w' := by
  obtain ⟨d1, d2⟩ := fZ_level b h hf
  refine (value_some b w h hf hT).mono ?_
  rintro e w' ⟨⟨v, rfl, hv⟩, hb⟩
  refine ⟨v, rfl, ?_, hb⟩
  unfold IsLv
  rw [d1, d2]
  exact hv

set_option maxRecDepth 20000 in
set_option maxHeartbeats 4000000 in
theorem values1_of (r c n cap bm b off i k q x : Nat) (z : Int) (w : World) (hq : (i : Int) * (c : Int) = (q : Int)) (hlt : q + k < n) (hn : n ≤ 36)
    (hm : BoxM w bm (.int .i64 r) (.int .i64 c) (.slice (some ⟨b, off, none⟩) n cap)) (hx : w.cell? ⟨b, off + (q + k), none⟩ = some (.int .u64 (x : Nat)))
    (C : ∀ w', Below w.heap.size w w' → Calls Tryz.prog 80 #[.int .u64 x] w' fun r w'' => ∃ u, r = .returned (.tuple #[u, .int .i64 0]) ∧ IsLv w'' u (-1074) z ∧ Below w'.heap.size w' w'') :
    Calls Tryz.prog 79 #[.int .i64 i, .int .i64 k, .pointer (some ⟨bm, 0, none⟩)] w fun e w' => ∃ v, e = .returned v ∧ IsLv w' v (-1074) z ∧ Below w.heap.size w w' := by
  have K := hide C
  have b0 := below_alloc9 w (.cells #[.bool false, .slice none 0 0, .int .i64 0] 29)
  have X0 := hide (Box3.new w (.bool false) (.slice none 0 0) (.int .i64 0))
  have cx := cell_keep hx b0
  have m1 := (hm.all b0).c1; have m2 := (hm.all b0).c2
  have B0 := hide b0
  have hkI : (q : Int) + (k : Int) < (n : Int) := by omega
  clear b0 hm hx C
  go_enter Tryz.func79, Tryz.ntmps79
  go_wp2_with fail
  refine (unhide K _ (unhide B0)).mono ?_
  rintro e w1 ⟨u, rfl, ⟨n1, a1, c1, L1, rfl, i1⟩, hb1⟩
  have hv : IsLv w1 (.agg #[.bool n1, .slice a1 L1.length c1, .int .i64 (oE z (-1074))]) (-1074) z := ⟨n1, a1, c1, L1, rfl, i1⟩
  generalize L1.length = l1 at *
  generalize oE z (-1074) = X1 at *
  have x0 := (unhide X0).all hb1
  have b1 := (unhide B0).trans (hb1.mono (unhide B0).size)
  have ba := below_alloc9 w1 (.cells #[.bool n1, .slice a1 l1 c1, .int .i64 X1] 29)
  have x1 := x0.all ba
  have y0 := x1.c0; have y1 := x1.c1; have y2 := x1.c2; have f0 := x1.free 0; have f1 := x1.free 1; have f2 := x1.free 2
  have xp := x1.put (.bool n1) (.slice a1 l1 c1) (.int .i64 X1)
  have z0 := xp.c0; have z1 := xp.c1; have z2 := xp.c2
  have HV := hide (IsDy.put3 (hv.below ba) x1 (.bool n1) (.slice a1 l1 c1) (.int .i64 X1))
  have HB := hide (below_put3 (b1.trans (ba.mono b1.size)) (Nat.le_refl _) (.bool n1) (.slice a1 l1 c1) (.int .i64 X1))
  clear i1 hv hb1 x0 b1 ba x1 xp X0 B0 K cx m1 m2
  go_wp2
  exact bodyPost_ret (v := .agg #[.bool n1, .slice a1 l1 c1, .int .i64 X1]) (by simp [results, Tryz.results79, go_sem, z0, z1, z2]) rfl ⟨_, rfl, unhide HV, unhide HB⟩

set_option maxRecDepth 20000 in
theorem cfValues1 (args : Array Value) (w : World) : (callFunc 79 args).run Tryz.prog w = .ok (.enter 79 args) w := by
  simp only [callFunc, go_sem]
  rfl

set_option maxRecDepth 20000 in
set_option maxHeartbeats 4000000 in
theorem values_of (r c n cap : Nat) (ao : Option Addr) (Z : World → Nat → Option Addr → Prop) (w : World)
    (C : Calls Tryz.prog 78 #[.int .i64 r, .int .i64 c, .func (.func 79) #[] #[.pointer (some ⟨w.heap.size, 0, none⟩)]] ((w.alloc (.cells #[.int .i64 r, .int .i64 c, .slice ao n cap] 24)).alloc (.cells #[.int .i64 0, .int .i64 0, .slice none 0 0] 61)) fun e w'' => ∃ bo d, e = .returned (.agg #[.int .i64 r, .int .i64 c, .slice bo (r * c) d]) ∧ Hid (Z w'' d bo) ∧ Below ((w.alloc (.cells #[.int .i64 r, .int .i64 c, .slice ao n cap] 24)).alloc (.cells #[.int .i64 0, .int .i64 0, .slice none 0 0] 61)).heap.size ((w.alloc (.cells #[.int .i64 r, .int .i64 c, .slice ao n cap] 24)).alloc (.cells #[.int .i64 0, .int .i64 0, .slice none 0 0] 61)) w'')
    (hZ : ∀ w' d bo, BoxT 61 w' (w.heap.size + 1) (.int .i64 0) (.int .i64 0) (.slice none 0 0) → Z w' d bo → Z (((w'.setCell ⟨w.heap.size + 1, 0, none⟩ (.int .i64 r)).setCell ⟨w.heap.size + 1, 1, none⟩ (.int .i64 c)).setCell ⟨w.heap.size + 1, 2, none⟩ (.slice bo (r * c) d)) d bo) :
    Calls Tryz.prog 34 #[.agg #[.int .i64 r, .int .i64 c, .slice ao n cap]] w fun e w' => ∃ bo d, e = .returned (.agg #[.int .i64 r, .int .i64 c, .slice bo (r * c) d]) ∧ Z w' d bo ∧ Below w.heap.size w w' := by
  have b0 := below_alloc9 w (.cells #[.int .i64 r, .int .i64 c, .slice ao n cap] 24)
  have s0 := size_alloc9 w (.cells #[.int .i64 r, .int .i64 c, .slice ao n cap] 24)
  have b1 := below_alloc9 (w.alloc (.cells #[.int .i64 r, .int .i64 c, .slice ao n cap] 24)) (.cells #[.int .i64 0, .int .i64 0, .slice none 0 0] 61)
  have x1 := BoxT.new 61 (w.alloc (.cells #[.int .i64 r, .int .i64 c, .slice ao n cap] 24)) (.int .i64 0) (.int .i64 0) (.slice none 0 0)
  rw [s0] at x1
  have K := hide C; have HZ := hide hZ; have BB := hide (b0.trans (b1.mono b0.size)); have X1 := hide x1
  clear C hZ b0 b1 s0 x1
  go_enter Tryz.func34, Tryz.ntmps34
  go_wp2_with fail
  refine Calls.mono (unhide K) ?_
  rintro e w1 ⟨bo, d, rfl, hz, hb1⟩
  have x1 := (unhide X1).all hb1
  have y0 := x1.c0; have y1 := x1.c1; have y2 := x1.c2; have f0 := x1.free 0; have f1 := x1.free 1; have f2 := x1.free 2
  have xp := x1.put (.int .i64 r) (.int .i64 c) (.slice bo (r * c) d)
  have z0 := xp.c0; have z1 := xp.c1; have z2 := xp.c2
  have PZ := hide (unhide HZ w1 d bo x1 (unhide hz))
  have PB := hide (below_putM ((unhide BB).trans (hb1.mono (unhide BB).size)) (show w.heap.size ≤ w.heap.size + 1 by omega) (.int .i64 r) (.int .i64 c) (.slice bo (r * c) d))
  clear x1 xp K HZ BB X1 hz hb1
  go_wp2
  exact bodyPost_ret (v := .agg #[.int .i64 r, .int .i64 c, .slice bo (r * c) d]) (by simp [results, Tryz.results34, go_sem, z0, z1, z2]) rfl ⟨_, _, rfl, unhide PZ, unhide PB⟩

/-- Numbers lie in no grid's box. -/
theorem DysAt.putT {T : Nat} {w : World} {ao : Option Addr} {cap n : Nat} {lo : Int} {f : Nat → Int} (h : DysAt w ao cap n lo f) {g : Nat} {x y : Int} {a : Option Addr} {m d : Nat} (hx : BoxT T w g (.int .i64 x) (.int .i64 y) (.slice a m d)) (j : Nat) (u : Value) :
    DysAt (w.setCell ⟨g, j, none⟩ u) ao cap n lo f := by
  refine ⟨h.1, ?_⟩
  rcases h.2 with e | ⟨b, off, h1, h2, h3⟩
  · exact .inl e
  · by_cases he : n = 0
    · exact .inl he
    · have hne : b ≠ g := by
        rintro rfl
        obtain ⟨q, c0, _, _, _⟩ := h3 0 (by omega)
        rw [cell_of_row w b _ _ _ _ hx] at c0
        rcases (show off = 0 ∨ off = 1 ∨ off = 2 ∨ 3 ≤ off by omega) with e | e | e | e
        · subst e; simp at c0
        · subst e; simp at c0
        · subst e; simp at c0
        · rw [Array.getElem?_eq_none (by simp; omega)] at c0; simp at c0
      refine .inr ⟨b, off, h1, by simpa [World.setCell] using h2, fun i hi => ?_⟩
      obtain ⟨q, c0, c1, c2, hq⟩ := h3 i hi
      refine ⟨q, ?_, ?_, ?_, hx.clr.lv hq j u⟩
      · rw [cell_setCell_other _ _ _ _ (show b ≠ g from hne)]; exact c0
      · rw [cell_setCell_other _ _ _ _ (show b ≠ g from hne)]; exact c1
      · rw [cell_setCell_other _ _ _ _ (show b ≠ g from hne)]; exact c2
theorem Gr.putT {T : Nat} {w : World} {ao : Option Addr} {cap r c : Nat} {lo : Int} {F : Nat → Nat → Int} (h : Gr w ao cap r c lo F) {g : Nat} (hx : BoxT T w g (.int .i64 0) (.int .i64 0) (.slice none 0 0)) (x y : Int) (a : Option Addr) (m d : Nat) :
    Gr (((w.setCell ⟨g, 0, none⟩ (.int .i64 x)).setCell ⟨g, 1, none⟩ (.int .i64 y)).setCell ⟨g, 2, none⟩ (.slice a m d)) ao cap r c lo F := by
  have x1 : BoxT T (w.setCell ⟨g, 0, none⟩ (.int .i64 x)) g (.int .i64 x) (.int .i64 0) (.slice none 0 0) := by
    unfold BoxT; rw [heap_setCell_same w g 0 _ _ _ hx]; simp
  have x2 : BoxT T ((w.setCell ⟨g, 0, none⟩ (.int .i64 x)).setCell ⟨g, 1, none⟩ (.int .i64 y)) g (.int .i64 x) (.int .i64 y) (.slice none 0 0) := by
    unfold BoxT; rw [heap_setCell_same _ g 1 _ _ _ x1]; simp
  exact ⟨((h.1.putT hx 0 _).putT x1 1 _).putT x2 2 _, h.2⟩

/-- The values of a matrix of finite numbers. -/
theorem values_any (r c cap : Nat) (ao : Option Addr) (S : List Nat) (w : World) (h : Mx w ao cap r c S) (hf : ∀ x ∈ S, fFin x = true) (hT : Tab w) :
    Calls Tryz.prog 34 #[.agg #[.int .i64 r, .int .i64 c, .slice ao S.length cap]] w fun e w' => ∃ bo d, e = .returned (.agg #[.int .i64 r, .int .i64 c, .slice bo (r * c) d]) ∧ Gr w' bo d r c (-1074) (fun i k => fZ (elM c S i k)) ∧ Below w.heap.size w w' := by
  refine values_of r c S.length cap ao (fun w' d bo => Gr w' bo d r c (-1074) (fun i k => fZ (elM c S i k))) w ?_ (fun w' d bo hx hz => ?_)
  · have b0 := below_alloc9 w (.cells #[.int .i64 r, .int .i64 c, .slice ao S.length cap] 24)
    have x0 := BoxM.new w (.int .i64 r) (.int .i64 c) (.slice ao S.length cap)
    have b1 := below_alloc9 (w.alloc (.cells #[.int .i64 r, .int .i64 c, .slice ao S.length cap] 24)) (.cells #[.int .i64 0, .int .i64 0, .slice none 0 0] 61)
    have x1 := x0.all b1
    have bb := b0.trans (b1.mono b0.size)
    generalize (w.alloc (.cells #[.int .i64 r, .int .i64 c, .slice ao S.length cap] 24)).alloc (.cells #[.int .i64 0, .int .i64 0, .slice none 0 0] 61) = w2 at *
    refine buildD_any 79 #[.pointer (some ⟨w.heap.size, 0, none⟩)] r c (-1074) (fun i k => fZ (elM c S i k)) w2 cfValues1 h.2.2.1 h.2.2.2 ?_
    intro w' i k hb hi hk
    have hb' : Below w.heap.size w w' := bb.trans (hb.mono bb.size)
    obtain ⟨b, off, rfl, h2, h3, h4⟩ := (h.below hb').cells hi hk
    have hlt := (h.below hb').el_lt i k
    exact values1_of r c S.length cap w.heap.size b off i k (i * c) (elM c S i k) (fZ (elM c S i k)) w' (cast_mul10 i c) h4 h.small (x1.all hb) h3 (fun w'' hw => valueN _ w'' hlt (el_fin c S i k hf) ((hT.all hb').all hw))
  · exact hz.putT hx _ _ _ _ _

end Go.Proofs.YtfnnbkclnflpfaaGreatDoor

