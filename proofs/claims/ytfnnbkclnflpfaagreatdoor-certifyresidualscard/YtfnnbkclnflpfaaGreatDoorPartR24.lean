/- Part 24 of the texts. -/
import Derived.Test.YtfnnbkclnflpfaaGreatDoorPartR23
import Derived.Deep.RegionLaw
/- Package matrix: Turn, Zeros, Eye. -/
namespace Go.Proofs.YtfnnbkclnflpfaaGreatDoor
open Go.RowKit
attribute [local go_sem ↓] Go.wp_at_zero Go.wp_at_succ

theorem NewM.putM {H : Nat} {w : World} {r c : Nat} {S : List Nat} {v : Value} (h : NewM H w r c S v) {g : Nat} {x y : Int} {a : Option Addr} {n d : Nat} (hx : BoxM w g (.int .i64 x) (.int .i64 y) (.slice a n d)) (u u' u'' : Value) :
    NewM H (((w.setCell ⟨g, 0, none⟩ u).setCell ⟨g, 1, none⟩ u').setCell ⟨g, 2, none⟩ u'') r c S v := by
  obtain ⟨ao, cap, h1, h2, h3⟩ := h
  exact ⟨ao, cap, h1, h2, h3.putM hx u u' u''⟩
end Go.Proofs.YtfnnbkclnflpfaaGreatDoor

/- The reference of layer 10: Right, At, Zeros, Row, With. -/
namespace Go.Proofs.YtfnnbkclnflpfaaGreatDoor
open Go.RowKit
attribute [local go_sem ↓] Go.wp_at_zero Go.wp_at_succ

set_option maxRecDepth 20000 in
set_option maxHeartbeats 4000000 in
theorem rright_any (r c : Int) (ao : Option Addr) (n cap : Nat) (w : World) :
    Calls Tryz.prog 39 #[.agg #[.int .i64 r, .int .i64 c, .slice ao n cap]] w fun e w' => e = .returned (.bool (okB r c n)) ∧ Below w.heap.size w w' := by
  have hb0 := hide (below_alloc9 w (.cells #[.int .i64 r, .int .i64 c, .slice ao n cap] 24))
  rcases (show (r < 0 ∧ okB r c n = false) ∨ (0 ≤ r ∧ 6 < r ∧ okB r c n = false) ∨ (0 ≤ r ∧ r ≤ 6 ∧ c < 0 ∧ okB r c n = false) ∨ (0 ≤ r ∧ r ≤ 6 ∧ 0 ≤ c ∧ 6 < c ∧ okB r c n = false) ∨ (0 ≤ r ∧ r ≤ 6 ∧ 0 ≤ c ∧ c ≤ 6) by
    unfold okB
    by_cases h : 0 ≤ r ∧ r ≤ 6 ∧ 0 ≤ c ∧ c ≤ 6
    · omega
    · rw [decide_eq_false (fun g => h g.1)]; simp; omega) with ⟨h1, e⟩ | ⟨h1, h2, e⟩ | ⟨h1, h2, h3, e⟩ | ⟨h1, h2, h3, h4, e⟩ | ⟨h1, h2, h3, h4⟩
  · rw [e]
    clear e
    go_enter Tryz.func39, Tryz.ntmps39
    go_wp2
    go_ret
    exact ⟨rfl, unhide hb0⟩
  · rw [e]
    clear e
    go_enter Tryz.func39, Tryz.ntmps39
    go_wp2
    go_ret
    exact ⟨rfl, unhide hb0⟩
  · rw [e]
    clear e
    go_enter Tryz.func39, Tryz.ntmps39
    go_wp2
    go_ret
    exact ⟨rfl, unhide hb0⟩
  · rw [e]
    clear e
    go_enter Tryz.func39, Tryz.ntmps39
    go_wp2
    go_ret
    exact ⟨rfl, unhide hb0⟩
  · have hm : ∃ m : Nat, r * c = (m : Int) ∧ m ≤ 36 := by
      obtain ⟨a, rfl⟩ := Int.eq_ofNat_of_zero_le h1
      obtain ⟨b, rfl⟩ := Int.eq_ofNat_of_zero_le h3
      refine ⟨a * b, by simp, ?_⟩
      have : a * b ≤ 6 * 6 := Nat.mul_le_mul (by omega) (by omega)
      omega
    obtain ⟨m, hm, h36⟩ := hm
    have e2 : okB r c n = decide ((n : Int) = (m : Int)) := decide_eq_decide.2 (by rw [hm]; exact ⟨fun h => h.2, fun h => ⟨⟨h1, h2, h3, h4⟩, h⟩⟩)
    rw [e2]
    clear e2
    go_enter Tryz.func39, Tryz.ntmps39
    go_wp2
    go_ret
    refine ⟨?_, unhide hb0⟩
    first | rfl | simp

set_option maxRecDepth 20000 in
set_option maxHeartbeats 2000000 in
theorem rat_of (r c n cap b off i k q x : Nat) (w : World) (hq : (i : Int) * (c : Int) = (q : Int)) (hlt : q + k < n) (hn : n ≤ 36)
    (hx : w.cell? ⟨b, off + (q + k), none⟩ = some (.int .u64 (x : Nat))) :
    Calls Tryz.prog 54 #[.agg #[.int .i64 r, .int .i64 c, .slice (some ⟨b, off, none⟩) n cap], .int .i64 i, .int .i64 k] w fun e w' => e = .returned (.int .u64 (x : Nat)) ∧ Below w.heap.size w w' := by
  have hb0 := hide (below_alloc9 w (.cells #[.int .i64 r, .int .i64 c, .slice (some ⟨b, off, none⟩) n cap] 24))
  have cx := cell_keep hx (unhide hb0)
  clear hx
  have hkI : (q : Int) + (k : Int) < (n : Int) := by omega
  go_enter Tryz.func54, Tryz.ntmps54
  go_wp2
  go_ret
  exact ⟨rfl, unhide hb0⟩

theorem rat_any (r c cap i k : Nat) (ao : Option Addr) (S : List Nat) (w : World) (h : Mx w ao cap r c S) (hi : i < r) (hk : k < c) :
    Calls Tryz.prog 54 #[.agg #[.int .i64 r, .int .i64 c, .slice ao S.length cap], .int .i64 i, .int .i64 k] w fun e w' => e = .returned (.int .u64 (elM c S i k : Nat)) ∧ Below w.heap.size w w' := by
  obtain ⟨b, off, rfl, h2, h3, h4⟩ := h.cells hi hk
  exact rat_of r c S.length cap b off i k (i * c) _ w (cast_mul10 i c) h4 h.small h3

set_option maxRecDepth 20000 in
set_option maxHeartbeats 2000000 in
theorem rrow_of (r c n cap i q p : Nat) (ao : Option Addr) (w : World) (hq : (i : Int) * (c : Int) = (q : Int)) (hp : ((i : Int) + 1) * (c : Int) = (p : Int)) (hqp : q ≤ p) (hlt : p ≤ n) (hnc : n ≤ cap) (hn : n ≤ 36) (hi : i ≤ 6) :
    Calls Tryz.prog 55 #[.agg #[.int .i64 r, .int .i64 c, .slice ao n cap], .int .i64 i] w fun e w' => e = .returned (.slice (if cap = q then ao else ao.map (·.add (q * 1))) (p - q) (cap - q)) ∧ Below w.heap.size w w' := by
  have hb0 := hide (below_alloc9 w (.cells #[.int .i64 r, .int .i64 c, .slice ao n cap] 24))
  by_cases h : cap = q
  · subst h
    rw [if_pos rfl]
    go_enter Tryz.func55, Tryz.ntmps55
    go_wp2
    go_ret
    exact ⟨by simp, unhide hb0⟩
  · rw [if_neg h]
    go_enter Tryz.func55, Tryz.ntmps55
    go_wp2
    go_ret
    exact ⟨by simp, unhide hb0⟩

theorem rrow_any (r c cap i : Nat) (ao : Option Addr) (S : List Nat) (w : World) (h : Mx w ao cap r c S) (hi : i < r) :
    Calls Tryz.prog 55 #[.agg #[.int .i64 r, .int .i64 c, .slice ao S.length cap], .int .i64 i] w fun e w' => ∃ bo d, e = .returned (.slice bo c d) ∧ BitsAt w' bo d (mxL (rwL c S i)) ∧ Below w.heap.size w w' := by
  have hp : (i + 1) * c ≤ S.length := by rw [h.2.1]; exact Nat.mul_le_mul_right c hi
  have hq : i * c ≤ (i + 1) * c := Nat.mul_le_mul_right c (by omega)
  have hc := h.1.1
  rw [mxL_len] at hc
  have h6 := h.2.2.1
  refine (rrow_of r c S.length cap i (i * c) ((i + 1) * c) ao w (cast_mul10 i c) (by simp) hq hp hc h.small (by omega)).mono ?_
  rintro e w' ⟨rfl, hb⟩
  rw [show (i + 1) * c - i * c = c by rw [Nat.add_mul, Nat.one_mul]; omega]
  exact ⟨_, _, rfl, row_bits h hb hi, hb⟩

end Go.Proofs.YtfnnbkclnflpfaaGreatDoor

/- The reference of layer 10: With, Copy, Same. -/
namespace Go.Proofs.YtfnnbkclnflpfaaGreatDoor
open Go.RowKit
attribute [local go_sem ↓] Go.wp_at_zero Go.wp_at_succ

/-- A number of a list of one's own written over. -/
theorem OwnB.at {base : Nat} {w : World} {ao : Option Addr} {n cap : Nat} {S : List Nat} (h : OwnB base w (.slice ao n cap) S) {j : Nat} (hj : j < S.length) :
    ∃ g, ao = some ⟨g, 0, none⟩ ∧ base ≤ g ∧ g < w.heap.size ∧ w.cell? ⟨g, j, none⟩ = some (.int .u64 (S.getD j 0 : Nat)) ∧ w.frozen? ⟨g, j, none⟩ = false ∧
      ∀ x, x < 18446744073709551616 → OwnB base (w.setCell ⟨g, j, none⟩ (.int .u64 (x : Nat))) (.slice ao n cap) (S.set j x) := by
  obtain ⟨⟨h1, h2⟩, h3⟩ := h
  rcases h2 with ⟨_, h0⟩ | ⟨g, cap', cur, hv, hg, hh, hc, hm, hs, ht⟩
  · omega
  · simp only [Value.slice.injEq] at hv
    obtain ⟨rfl, rfl, rfl⟩ := hv
    have q : (S.map bitV)[j]? = some (.int .u64 ((S[j] : Nat) : Int)) := by
      rw [List.getElem?_map, List.getElem?_eq_getElem hj]; rfl
    rw [← ht, List.getElem?_take, if_pos (by omega)] at q
    refine ⟨g, rfl, hg, (Array.getElem?_eq_some_iff.1 hh).1, ?_, frozen_of_row w g j _ _ hh, fun x hx => ⟨⟨by simp, .inr ⟨g, cap, cur.setIfInBounds j (.int .u64 (x : Nat)), ?_, hg, heap_setCell_same w g j _ _ _ hh, by simpa using hc, hm, by simpa using hs, ?_⟩⟩, ?_⟩⟩
    · rw [cell_of_row w g j _ _ _ hh]
      have e : S.getD j 0 = S[j] := by rw [List.getD_eq_getElem?_getD, List.getElem?_eq_getElem hj]; rfl
      rw [e]
      simpa using q
    · simp
    · rw [Array.toList_setIfInBounds, List.take_set, List.length_set, ht, List.map_set]
      rfl
    · intro y hy
      rcases List.mem_or_eq_of_mem_set hy with e | e
      · exact h3 y e
      · rw [e]; exact hx

end Go.Proofs.YtfnnbkclnflpfaaGreatDoor

/- The reference of layer 10: With, Copy, Stack, Same, Eye, Col; the law's told, form. -/
namespace Go.Proofs.YtfnnbkclnflpfaaGreatDoor
open Go.RowKit
attribute [local go_sem ↓] Go.wp_at_zero Go.wp_at_succ

/-- An append in a region that draws, its run known of the world at hand. -/
theorem step_append_ex {P : Program} (w : World) {ops : Array Oper} {o : Oper} {a : Act} {K : Act → World → Prop} {Q : Exit → Act → World → Prop} {E : Prop} (hgd : o.guard = none) (s x : Operand) (t : TypeId)
    (ho : o.op = .call { callee := .builtin .append, args := #[s, x], argTypes := #[t, t] }) (v1 v2 : Value) (n : Nat) (F : Option Addr → Nat → World → Prop) (hs : a.eval s = v1) (hx : a.eval x = v2)
    (hr : ∃ po pc w', (Builtin.append_ #[t, t] o.type #[v1, v2]).run P w = .ok (.slice po n pc) w' ∧ F po pc w') (h : ∀ po pc w', F po pc w' → K (a.put o.dst (.slice po n pc)) w') :
    if Region.wanted o (yielded ops a.tmps) = true then Oper.wp P o a w K Q else E := by
  have hw : Region.wanted o (yielded ops a.tmps) = true := by simp [Region.wanted, hgd]
  rw [if_pos hw]
  obtain ⟨po, pc, w', hrun, hF⟩ := hr
  unfold Oper.wp execOp
  simp only [ho, resolve, invoke, builtin, Sem.run_bind, Sem.run_pure, Result.andThen_ok, List.map_toArray, List.map_cons, List.map_nil, hs, hx, hrun]
  exact h po pc w' hF

end Go.Proofs.YtfnnbkclnflpfaaGreatDoor

/- Package certify: build, at. -/
namespace Go.Proofs.YtfnnbkclnflpfaaGreatDoor
open Go.RowKit
attribute [local go_sem ↓] Go.wp_at_zero Go.wp_at_succ

/-- What holds in build: the answer's box, the grid's, its row. -/
def BdSt (w wr : World) (r c n : Nat) (po : Option Addr) (pc : Nat) (lo : Int) (f : Nat → Int) : Prop :=
  BoxT 61 wr w.heap.size (.int .i64 0) (.int .i64 0) (.slice none 0 0) ∧ BoxT 61 wr (w.heap.size + 1) (.int .i64 r) (.int .i64 c) (.slice po n pc) ∧ OwnD (w.heap.size + 2) wr (.slice po n pc) n lo f ∧ Below w.heap.size w wr
theorem BdSt.all {w wr w' : World} {r c n : Nat} {po : Option Addr} {pc : Nat} {lo : Int} {f : Nat → Int} (h : BdSt w wr r c n po pc lo f) (hb : Below wr.heap.size wr w') : BdSt w w' r c n po pc lo f :=
  ⟨h.1.all hb, h.2.1.all hb, h.2.2.1.below hb, h.2.2.2.trans (hb.mono h.2.2.2.size)⟩
theorem BdSt.start (w : World) (r c : Nat) (lo : Int) (f : Nat → Int) : BdSt w ((w.alloc (.cells #[.int .i64 0, .int .i64 0, .slice none 0 0] 61)).alloc (.cells #[.int .i64 r, .int .i64 c, .slice none 0 0] 61)) r c 0 none 0 lo f := by
  have b0 := below_alloc9 w (.cells #[.int .i64 0, .int .i64 0, .slice none 0 0] 61)
  have s0 := size_alloc9 w (.cells #[.int .i64 0, .int .i64 0, .slice none 0 0] 61)
  have x0 := BoxT.new 61 w (.int .i64 0) (.int .i64 0) (.slice none 0 0)
  have x1 := BoxT.new 61 (w.alloc (.cells #[.int .i64 0, .int .i64 0, .slice none 0 0] 61)) (.int .i64 r) (.int .i64 c) (.slice none 0 0)
  have b1 := below_alloc9 (w.alloc (.cells #[.int .i64 0, .int .i64 0, .slice none 0 0] 61)) (.cells #[.int .i64 r, .int .i64 c, .slice none 0 0] 61)
  rw [s0] at x1
  exact ⟨x0.all b1, x1, OwnD.nil _ _ _ _, b0.trans (b1.mono b0.size)⟩
/-- One number more: appended, and the grid's box written. -/
theorem BdSt.push {w w4 : World} {r c n : Nat} {po : Option Addr} {pc : Nat} {lo : Int} {f : Nat → Int} (h : BdSt w w4 r c n po pc lo f) (ng : Bool) (a : Option Addr) (l cp : Nat) (X : Int) (hx : IsLv w4 (.agg #[.bool ng, .slice a l cp, .int .i64 X]) lo (f n)) (hn : n ≤ 36) (ty : TypeId) :
    ∃ qo qc w', (Builtin.append_ #[59, 59] ty #[.slice po n pc, .slice (some ⟨w4.heap.size, 0, none⟩) 1 1]).run Tryz.prog (w4.alloc (.cells #[.bool ng, .slice a l cp, .int .i64 X] 29)) = .ok (.slice qo (n + 1) qc) w' ∧ (BoxT 61 w' (w.heap.size + 1) (.int .i64 r) (.int .i64 c) (.slice po n pc) ∧ BdSt w (w'.setCell ⟨w.heap.size + 1, 2, none⟩ (.slice qo (n + 1) qc)) r c (n + 1) qo qc lo f) := by
  have ba := below_alloc9 w4 (.cells #[.bool ng, .slice a l cp, .int .i64 X] 29)
  have hsz := h.2.1.lt
  obtain ⟨h1, h2, h3, h4⟩ := h.all ba
  obtain ⟨qo, qc, w', e1, ho, hg⟩ := h3.push w4.heap.size ⟨ng, a, l, cp, X⟩ (hx.below ba) (heap_alloc_new w4 _) (by omega) (by simp; omega) ty
  have hl := h3.lt
  have n0 : (Value.slice po n pc).ownBlock ≠ some w.heap.size := fun e => by have := (hl _ e).1; omega
  have n1 : (Value.slice po n pc).ownBlock ≠ some (w.heap.size + 1) := fun e => by have := (hl _ e).1; omega
  have y0 := h1.grown hg n0
  have y1 := h2.grown hg n1
  refine ⟨qo, qc, w', e1, y1, y0.other (p := ⟨w.heap.size + 1, 2, none⟩) (by show w.heap.size ≠ w.heap.size + 1; omega) _, y1.put2 _, ho.set y1.clr (by omega) _ _, ?_⟩
  exact (h4.grown hg h4.size (fun k hk => by have := (hl _ hk).1; omega)).setCell (p := ⟨w.heap.size + 1, 2, none⟩) (by show w.heap.size ≤ w.heap.size + 1; omega) _

set_option maxRecDepth 20000 in
set_option maxHeartbeats 8000000 in
theorem buildD_any (fn : Nat) (caps : Array Value) (r c : Nat) (lo : Int) (F : Nat → Nat → Int) (w : World)
    (hcf : ∀ args w, (callFunc fn args).run Tryz.prog w = .ok (.enter fn args) w) (hr : r ≤ 6) (hc : c ≤ 6)
    (hstep : ∀ w' i k, Below w.heap.size w w' → i < r → k < c → Calls Tryz.prog fn (#[.int .i64 (i : Nat), .int .i64 (k : Nat)] ++ caps) w' fun e w'' => ∃ v, e = .returned v ∧ IsLv w'' v lo (F i k) ∧ Below w'.heap.size w' w'') :
    Calls Tryz.prog 78 #[.int .i64 r, .int .i64 c, .func (.func fn) #[] caps] w fun e w' => ∃ ao cap, e = .returned (.agg #[.int .i64 r, .int .i64 c, .slice ao (r * c) cap]) ∧ Gr w' ao cap r c lo F ∧ Below w.heap.size w w' := by
  have HS := hide hstep
  obtain ⟨f, hf⟩ : ∃ f : Nat → Int, f = fun p => F (p / c) (p % c) := ⟨_, rfl⟩
  have FV := hide (show ∀ j k, k < c → f (j * c + k) = F j k from fun j k hk => by rw [hf]; show F ((j * c + k) / c) ((j * c + k) % c) = _; rw [place_div hk, place_mod hk])
  have GR := hide (show ∀ w' ao cap, DysAt w' ao cap (r * c) lo f → Gr w' ao cap r c lo F from fun w' ao cap h => ⟨by rw [hf] at h; exact h, hr, hc⟩)
  have ST := hide (BdSt.start w r c lo f)
  have h36 : r * c ≤ 36 := Nat.mul_le_mul hr hc
  have HN := hide (fun j k (hj : j < r) (hk : k < c) => place_lt hj hk)
  clear hstep hf
  go_enter Tryz.func78, Tryz.ntmps78
  go_wp2_with fail
  go_loopw [14] (fun i wr => ∃ (j : Nat) (po : Option Addr) (pc : Nat), j ≤ r ∧ i = .int .i64 j ∧ Hid (BdSt w wr r c (j * c) po pc lo f)) (fun i _ => r - (intOf i).toNat)
  case atStart => exact ⟨0, none, 0, Nat.zero_le _, rfl, by rw [Nat.zero_mul]; exact ST⟩
  case round =>
    clear ST
    obtain ⟨j, po, pc, hj, rfl, hS⟩ := hrel
    by_cases hlt : j < r
    · have hjI : (j : Int) < (r : Int) := by omega
      go_wp2_with fail
      go_loopw [18] (fun i wr => ∃ (k : Nat) (po : Option Addr) (pc : Nat), k ≤ c ∧ i = .int .i64 k ∧ Hid (BdSt w wr r c (j * c + k) po pc lo f)) (fun i _ => c - (intOf i).toNat)
      case atStart => exact ⟨0, po, pc, Nat.zero_le _, rfl, hS⟩
      case round =>
        clear hS
        obtain ⟨k, po, pc, hk, rfl, hS⟩ := hrel
        by_cases hkc : k < c
        · have hkI : (k : Int) < (c : Int) := by omega
          have C := hide (fun w' h => unhide HS w' j k h hlt hkc)
          have eo := hide (unhide FV j k hkc)
          have hpl := hide (unhide HN j k hlt hkc)
          go_wp2_with fail
          refine at_world (fun W => BdSt w W r c (j * c + k) po pc lo f) (unhide hS) ?_
          clear hS
          rintro W0 hS
          replace hS := hS.all ((Below.refl W0.heap.size W0).drew)
          have SS := hide hS
          have y2 := hS.2.1.c2; have f2 := hS.2.1.free 2
          clear hS
          obtain ⟨n, hn⟩ : ∃ n, j * c + k = n := ⟨_, rfl⟩
          have HN2 := hide hn
          rw [hn] at SS y2
          have hn36 := hide (show n ≤ 36 from by have := unhide hpl; omega)
          clear hn
          go_region_law (first | (refine step_append_ex _ (by rfl) _ _ 59 (by rfl) _ _ _ _ (by rfl) (by rfl) (unhide PU) ?_; rintro qo qc w5 ⟨bx, st⟩; clear y2 y3 f2; have ST5 := hide st; have y2 := bx.c2; have f2 := bx.free 2; clear bx st PU) | (go_simp; refine (unhide C _ (unhide SS).2.2.2).mono ?_; rintro e w4 ⟨q, rfl, ⟨n4, a4, c4, L4, rfl, i4⟩, hb4⟩; clear y2 f2; have S4 := (unhide SS).all hb4; have Q4 := hide (show IsLv w4 (.agg #[.bool n4, .slice a4 L4.length c4, .int .i64 (oE (F j k) lo)]) lo (F j k) from ⟨n4, a4, c4, L4, rfl, i4⟩); generalize L4.length = l4 at *; generalize oE (F j k) lo = X4 at *; have y2 := S4.2.1.c2; have f2 := S4.2.1.free 2; have y3 := cell_keep y2 (below_alloc9 w4 (.cells #[.bool n4, .slice a4 l4 c4, .int .i64 X4] 29)); have PU := hide (S4.push n4 a4 l4 c4 X4 (by rw [← unhide HN2, unhide eo]; exact unhide Q4) (unhide hn36) 59); clear i4 hb4 SS S4 Q4))
          all_goals
            go_wp2_with fail
            go_round
            case rel => exact ⟨k + 1, qo, qc, by omega, by go_num, by rw [← Nat.add_assoc, unhide HN2]; exact ST5⟩
            case measure => simp [intOf]; omega
        · have hkk : k = c := by omega
          subst hkk
          go_wp2_with fail
          go_round
          case rel => exact ⟨j + 1, po, pc, by omega, by go_num, by rw [Nat.add_mul, Nat.one_mul]; exact hS⟩
          case measure => simp [intOf]; omega
    · have hjj : j = r := by omega
      subst hjj
      obtain ⟨h1, h2, h3, h4⟩ := unhide hS
      have DY := h3.dys
      have s0 := h1.c0; have s1 := h1.c1; have s2 := h1.c2
      have f0 := h1.free 0; have f1 := h1.free 1; have f2 := h1.free 2
      have t0 := h2.c0; have t1 := h2.c1; have t2 := h2.c2
      have XP := h1.put (.int .i64 j) (.int .i64 c) (.slice po (j * c) pc)
      have z0 := XP.c0; have z1 := XP.c1; have z2 := XP.c2
      obtain ⟨ao, cap, e1, q1⟩ := ((h3.set h1.clr (by omega) 0 (.int .i64 j)).set ((h1.clr).set _ _ rfl) (by omega) 1 (.int .i64 c)).set (((h1.clr).set _ _ rfl).set _ _ rfl) (by omega) 2 (.slice po (j * c) pc) |>.dys
      cases e1
      have QP := hide (unhide GR _ _ _ q1)
      have BP := hide (below_putM h4 (Nat.le_refl _) (.int .i64 j) (.int .i64 c) (.slice po (j * c) pc))
      clear h1 h2 h3 h4 DY XP q1 hS
      go_wp2
      exact bodyPost_ret (v := .agg #[.int .i64 j, .int .i64 c, .slice po (j * c) pc]) (by simp [results, Tryz.results78, go_sem, z0, z1, z2]) rfl ⟨_, _, rfl, unhide QP, unhide BP⟩

end Go.Proofs.YtfnnbkclnflpfaaGreatDoor

