/- Part 23 of the texts. -/
import Derived.Test.YtheepcdlakjdcaaDoorPart22
import Derived.Deep.RegionLaw
import Derived.Deep.RegionWith
/- The reference of layer 10: With, Copy, Same. -/
namespace Go.Proofs.YtheepcdlakjdcaaDoor
open Go.RowKit
attribute [local go_sem ↓] Go.wp_at_zero Go.wp_at_succ

/-- A number of a list of one's own written over. -/
theorem OwnB.at {base : Nat} {w : World} {ao : Option Addr} {n cap : Nat} {S : List Nat} (h : OwnB base w (.slice ao n cap) S) {j : Nat} (hj : j < S.length) :
    ∃ g, ao = some ⟨g, 0, none⟩ ∧ base ≤ g ∧ g < w.heap.size ∧ w.cell? ⟨g, j, none⟩ = some (.int .u64 (S.getD j 0 : Nat)) ∧ w.frozen? ⟨g, j, none⟩ = false ∧
      ∀ x, x < 18446744073709551616 → OwnB base (w.setCell ⟨g, j, none⟩ (.int .u64 (x : Nat))) (.slice ao n cap) (S.set j x) := by
  obtain ⟨⟨h1, h2⟩, h3⟩ := h
  rcases h2 with ⟨_, h0⟩ | ⟨g, cap', cur, hv, hg, hh, hc, hm, hs, ht⟩
  · omega
  · simp only [Value.slice.injEq] at hv
    obtain ⟨rfl, rfl, rfl⟩ := hv
    have q : (S.map bitV)[j]? = some (.int .u64 ((S[j] : Nat) : Int)) := by
      rw [List.getElem?_map, List.getElem?_eq_getElem hj]; rfl
    rw [← ht, List.getElem?_take, if_pos (by omega)] at q
    refine ⟨g, rfl, hg, (Array.getElem?_eq_some_iff.1 hh).1, ?_, frozen_of_row w g j _ _ hh, fun x hx => ⟨⟨by simp, .inr ⟨g, cap, cur.setIfInBounds j (.int .u64 (x : Nat)), ?_, hg, heap_setCell_same w g j _ _ _ hh, by simpa using hc, hm, by simpa using hs, ?_⟩⟩, ?_⟩⟩
    · rw [cell_of_row w g j _ _ _ hh]
      have e : S.getD j 0 = S[j] := by rw [List.getD_eq_getElem?_getD, List.getElem?_eq_getElem hj]; rfl
      rw [e]
      simpa using q
    · simp
    · rw [Array.toList_setIfInBounds, List.take_set, List.length_set, ht, List.map_set]
      rfl
    · intro y hy
      rcases List.mem_or_eq_of_mem_set hy with e | e
      · exact h3 y e
      · rw [e]; exact hx

set_option maxRecDepth 20000 in
set_option maxHeartbeats 4000000 in
theorem rwith_of (r c n cap i k q x g : Nat) (ao : Option Addr) (po : Option Addr) (pc : Nat) (S : List Nat) (w w1 : World) (hl : S.length = n) (hq : (i : Int) * (c : Int) = (q : Int)) (hlt : q + k < n) (hn : n ≤ 36) (hx : x < 18446744073709551616)
    (run : (Builtin.append_ #[22, 22] 22 #[.slice (some ⟨w.heap.size + 1 + 1, 0, none⟩) 0 0, .slice ao n cap]).run Tryd.prog (((w.alloc (.cells #[.int .i64 r, .int .i64 c, .slice ao n cap] 24)).alloc (.cells #[.int .i64 0, .int .i64 0, .slice none 0 0] 24)).alloc (.cells #[] 26)) = .ok (.slice po n pc) w1)
    (hO : OwnB (w.heap.size + 1 + 1) w1 (.slice po n pc) S) (hB : Below (w.heap.size + 1 + 1) ((w.alloc (.cells #[.int .i64 r, .int .i64 c, .slice ao n cap] 24)).alloc (.cells #[.int .i64 0, .int .i64 0, .slice none 0 0] 24)) w1) (hp : po = some ⟨g, 0, none⟩) :
    Calls Tryd.prog 38 #[.agg #[.int .i64 r, .int .i64 c, .slice ao n cap], .int .i64 i, .int .i64 k, .int .u64 x] w fun e w' => ∃ v, e = .returned v ∧ NewM w.heap.size w' r c (S.set (q + k) x) v ∧ Below w.heap.size w w' := by
  have RUN := hide run
  obtain ⟨hB1, hA, hX⟩ := boxes2 w _ _ _ _ _ _ w1 hB
  obtain ⟨g', e1, hg, hlt2, cx, fx, put⟩ := hO.at (j := q + k) (by omega)
  rw [hp] at e1
  simp only [Option.some.injEq, Addr.mk.injEq] at e1
  obtain ⟨rfl, _⟩ := e1
  subst hp
  have O2 := put x hx
  have hA2 := hA.other (p := ⟨g, q + k, none⟩) (by show w.heap.size ≠ g; omega) (.int .u64 (x : Nat))
  have hX2 := hX.other (p := ⟨g, q + k, none⟩) (by show w.heap.size + 1 ≠ g; omega) (.int .u64 (x : Nat))
  have hB2 := hB1.setCell (p := ⟨g, q + k, none⟩) (by show w.heap.size ≤ g; omega) (.int .u64 (x : Nat))
  have c0 := hA.c0; have c1 := hA.c1; have c2 := hA.c2
  have y0 := hA2.c0; have y1 := hA2.c1; have y2 := hA2.c2
  have u0 := hX2.c0; have u1 := hX2.c1; have u2 := hX2.c2
  have f0 := hX2.free 0; have f1 := hX2.free 1; have f2 := hX2.free 2
  have XP := hX2.put (.int .i64 r) (.int .i64 c) (.slice (some ⟨g, 0, none⟩) n pc)
  have z0 := XP.c0; have z1 := XP.c1; have z2 := XP.c2
  obtain ⟨bo', d', e2, q2⟩ := O2.bits
  have HN := hide (O2.newB.least (H' := w.heap.size) (by omega))
  rw [List.length_set, hl] at e2
  simp only [Value.slice.injEq] at e2
  obtain ⟨rfl, _, rfl⟩ := e2
  have Q := hide (BitsAt.putM q2 hX2 (.int .i64 r) (.int .i64 c) (.slice (some ⟨g, 0, none⟩) n pc))
  have BP := hide (below_putM hB2 (b := w.heap.size + 1) (by omega) (.int .i64 r) (.int .i64 c) (.slice (some ⟨g, 0, none⟩) n pc))
  have hkI : (q : Int) + (k : Int) < (n : Int) := by omega
  have HL := hide hl
  generalize S.getD (q + k) 0 = old at *
  clear run hO hB hB1 hA hX hA2 hX2 hB2 XP O2 q2 put hl hg
  go_enter Tryd.func38, Tryd.ntmps38
  go_wp2_with (at_builtin; refine wpList_append_ran _ rfl _ _ 22 rfl _ _ _ _ rfl rfl (unhide RUN) ?_; clear RUN)
  exact bodyPost_ret (v := .agg #[.int .i64 r, .int .i64 c, .slice (some ⟨g, 0, none⟩) n pc]) (by simp [results, Tryd.results38, go_sem, z0, z1, z2]) rfl ⟨_, rfl, ⟨some ⟨g, 0, none⟩, pc, by rw [List.length_set, unhide HL], unhide HN, unhide Q⟩, unhide BP⟩

end Go.Proofs.YtheepcdlakjdcaaDoor

/- The reference of layer 10: With, Copy, Stack, Same, Eye, Col; the law's told, form. -/
namespace Go.Proofs.YtheepcdlakjdcaaDoor
open Go.RowKit
attribute [local go_sem ↓] Go.wp_at_zero Go.wp_at_succ

/-- An append in a region that draws, its run known of the world at hand. -/
theorem step_append_ex {P : Program} (w : World) {ops : Array Oper} {o : Oper} {a : Act} {K : Act → World → Prop} {Q : Exit → Act → World → Prop} {E : Prop} (hgd : o.guard = none) (s x : Operand) (t : TypeId)
    (ho : o.op = .call { callee := .builtin .append, args := #[s, x], argTypes := #[t, t] }) (v1 v2 : Value) (n : Nat) (F : Option Addr → Nat → World → Prop) (hs : a.eval s = v1) (hx : a.eval x = v2)
    (hr : ∃ po pc w', (Builtin.append_ #[t, t] o.type #[v1, v2]).run P w = .ok (.slice po n pc) w' ∧ F po pc w') (h : ∀ po pc w', F po pc w' → K (a.put o.dst (.slice po n pc)) w') :
    if Region.wanted o (yielded ops a.tmps) = true then Oper.wp P o a w K Q else E := by
  have hw : Region.wanted o (yielded ops a.tmps) = true := by simp [Region.wanted, hgd]
  rw [if_pos hw]
  obtain ⟨po, pc, w', hrun, hF⟩ := hr
  unfold Oper.wp execOp
  simp only [ho, resolve, invoke, builtin, Sem.run_bind, Sem.run_pure, Result.andThen_ok, List.map_toArray, List.map_cons, List.map_nil, hs, hx, hrun]
  exact h po pc w' hF

set_option maxRecDepth 20000 in
theorem append_nilc (w : World) (ty : TypeId) (po : Option Addr) (n pc c : Nat) (h : n ≤ pc) :
    (Builtin.append_ #[22, 22] ty #[.slice po n pc, .slice none 0 c]).run Tryd.prog w = .ok (.slice po n pc) w := by
  cases po
  all_goals
    simp [Builtin.append_, go_sem]
    omega

/-- A list appended to one of one's own. -/
theorem append_bits (w : World) (base : Nat) (ty : TypeId) (v : Value) (S : List Nat) (ao : Option Addr) (c : Nat) (T : List Nat) (hv : OwnB base w v S) (h : BitsAt w ao c (mxL T)) (hl : S.length + T.length ≤ 1000000) (hbase : base ≤ w.heap.size) :
    ∃ po pc w', (Builtin.append_ #[22, 22] ty #[v, .slice ao T.length c]).run Tryd.prog w = .ok (.slice po (S.length + T.length) pc) w' ∧ OwnB base w' (.slice po (S.length + T.length) pc) (S ++ T) ∧ w.grownBy w' v.ownBlock := by
  obtain ⟨i0, hi, hz0, hz1, hz2⟩ := info_parts infoBits
  cases ao with
  | none =>
    have e : T = [] := by
      rcases h.2.2 with e | ⟨b, off, e, _⟩
      · cases T with
        | nil => rfl
        | cons x T => cases e
      · cases e
    subst e
    obtain ⟨po, pc, rfl, hq⟩ := hv.bits
    refine ⟨po, pc, w, append_nilc w ty po S.length pc c (by have := hq.1; simpa using this), by simpa using hv, ?_⟩
    exact ⟨rfl, rfl, rfl, Nat.le_refl _, fun k _ _ => rfl⟩
  | some a =>
    have hnews : ∀ j u, (T.map bitV)[j]? = some u → w.cell? (a.add j) = some u := by
      intro j u hu
      rw [List.getElem?_map] at hu
      have hj : j < T.length := by
        rcases Nat.lt_or_ge j T.length with e | e
        · exact e
        · rw [List.getElem?_eq_none e] at hu; cases hu
      obtain ⟨b, off, e1, e2, e3⟩ := h.ne (by rw [mxL_len]; omega)
      cases e1
      rw [show (⟨b, off, none⟩ : Addr).add j = ⟨b, off + j, none⟩ by simp [Addr.add], e3 j (by rw [mxL_len]; exact hj), mxL_at]
      rw [← hu]
      simp [hj, bitV, List.getD_eq_getElem?_getD]
    obtain ⟨v', w', e1, e2, e3, e4, e5⟩ := run_append_own_at (P := Tryd.prog) w base 22 ty 26 i0 (.int .u64 0) 1 8 Tryd.underlying22 hi hz0 hz1 hz2 rfl (by decide) v S.length (S.map bitV) hv.1 a T.length c (T.map bitV) (by simp) hnews (fun u hu => by
      obtain ⟨x, _, rfl⟩ := List.mem_map.1 hu
      rfl) (by unfold maxLen; omega) (by omega) hbase
    have ho : OwnB base w' v' (S ++ T) := ⟨by
      rw [List.length_append]
      simpa using e2, fun x hx => by
        rcases List.mem_append.1 hx with g | g
        · exact hv.2 x g
        · exact h.nat x g⟩
    obtain ⟨po, pc, rfl, _⟩ := ho.bits
    rw [List.length_append] at e1 ho
    exact ⟨po, pc, w', e1, ho, e3⟩

theorem rwith_any (r c cap i k x : Nat) (ao : Option Addr) (S : List Nat) (w : World) (h : Mx w ao cap r c S) (hi : i < r) (hk : k < c) (hx : x < 18446744073709551616) :
    Calls Tryd.prog 38 #[.agg #[.int .i64 r, .int .i64 c, .slice ao S.length cap], .int .i64 i, .int .i64 k, .int .u64 x] w fun e w' => ∃ v, e = .returned v ∧ NewM w.heap.size w' r c (S.set (i * c + k) x) v ∧ Below w.heap.size w w' := by
  have hp : i * c + k < S.length := by rw [h.2.1]; exact place_lt hi hk
  have h36 := h.small
  have b0 := below_alloc9 w (.cells #[.int .i64 r, .int .i64 c, .slice ao S.length cap] 24)
  have s0 := size_alloc9 w (.cells #[.int .i64 r, .int .i64 c, .slice ao S.length cap] 24)
  have b1 := below_alloc9 (w.alloc (.cells #[.int .i64 r, .int .i64 c, .slice ao S.length cap] 24)) (.cells #[.int .i64 0, .int .i64 0, .slice none 0 0] 24)
  have s1 := size_alloc9 (w.alloc (.cells #[.int .i64 r, .int .i64 c, .slice ao S.length cap] 24)) (.cells #[.int .i64 0, .int .i64 0, .slice none 0 0] 24)
  have bb := b0.trans (b1.mono b0.size)
  have b2 := below_alloc9 ((w.alloc (.cells #[.int .i64 r, .int .i64 c, .slice ao S.length cap] 24)).alloc (.cells #[.int .i64 0, .int .i64 0, .slice none 0 0] 24)) (.cells #[] 26)
  have on := OwnB.nil ((w.alloc (.cells #[.int .i64 r, .int .i64 c, .slice ao S.length cap] 24)).alloc (.cells #[.int .i64 0, .int .i64 0, .slice none 0 0] 24)) (w.heap.size + 1 + 1) (by rw [s1, s0]; omega)
  have bits := (h.1.below bb).below b2
  obtain ⟨po, pc, w1, run, own, gr⟩ := copy_bits _ (w.heap.size + 1 + 1) 22 ao cap (mxL S) _ bits (by rw [mxL_len]; omega) on.1 (by simp)
  rw [natL_mxL, mxL_len] at *
  have bel := (b2.mono (Nat.le_of_eq (by rw [s1, s0]))).grown gr (by simp) (fun g hg => by cases hg; rw [s1, s0]; exact Nat.le_refl _)
  rw [s1, s0] at run
  obtain ⟨g, hg, _⟩ := own.at hp
  exact rwith_of r c S.length cap i k (i * c) x g ao po pc S w w1 rfl (cast_mul10 i c) hp h36 hx run own bel hg

set_option maxRecDepth 20000 in
set_option maxHeartbeats 2000000 in
theorem rsame_any (r c : Int) (ao bo : Option Addr) (cap d : Nat) (S : List Nat) (w : World) (h : BitsAt w ao cap (mxL S)) (h2 : BitsAt w bo d (mxL S)) (hl : S.length ≤ 1000000) :
    Calls Tryd.prog 30 #[.agg #[.int .i64 r, .int .i64 c, .slice ao S.length cap], .agg #[.int .i64 r, .int .i64 c, .slice bo S.length d]] w fun e w' => e = .returned (.bool true) ∧ Below w.heap.size w w' := by
  have b0 := below_alloc9 w (.cells #[.int .i64 r, .int .i64 c, .slice ao S.length cap] 24)
  have b1 := below_alloc9 (w.alloc (.cells #[.int .i64 r, .int .i64 c, .slice ao S.length cap] 24)) (.cells #[.int .i64 r, .int .i64 c, .slice bo S.length d] 24)
  have bb := b0.trans (b1.mono b0.size)
  have K := hide (same_any ao bo cap d (mxL S) _ (h.below bb) (h2.below bb) (by rw [mxL_len]; omega))
  rw [mxL_len] at K
  have HB := hide bb
  clear b0 b1 bb h h2
  generalize S.length = n at *
  go_enter Tryd.func30, Tryd.ntmps30
  go_wp2_with fail
  refine Calls.mono (unhide K) ?_
  rintro e w1 ⟨rfl, hb1⟩
  clear K
  go_wp2
  go_ret
  exact ⟨rfl, (unhide HB).trans (hb1.mono (unhide HB).size)⟩

set_option maxRecDepth 20000 in
set_option maxHeartbeats 2000000 in
theorem told_ok (r c : Int) (ao bo : Option Addr) (cap d : Nat) (S : List Nat) (w : World) (h : BitsAt w ao cap (mxL S)) (h2 : BitsAt w bo d (mxL S)) (hl : S.length ≤ 1000000) :
    Calls Tryd.prog 15 #[.agg #[.int .i64 r, .int .i64 c, .slice ao S.length cap], .int .i64 0, .agg #[.int .i64 r, .int .i64 c, .slice bo S.length d], .int .i64 0] w fun e w' => e = .returned (.bool true) ∧ Below w.heap.size w w' := by
  have b0 := below_alloc9 w (.cells #[.int .i64 r, .int .i64 c, .slice ao S.length cap] 24)
  have b1 := below_alloc9 (w.alloc (.cells #[.int .i64 r, .int .i64 c, .slice ao S.length cap] 24)) (.cells #[.int .i64 r, .int .i64 c, .slice bo S.length d] 24)
  have bb := b0.trans (b1.mono b0.size)
  have K := hide (rsame_any r c ao bo cap d S _ (h.below bb) (h2.below bb) hl)
  have HB := hide bb
  clear b0 b1 bb h h2
  generalize S.length = n at *
  go_enter Tryd.func15, Tryd.ntmps15
  go_wp2_with fail
  refine Calls.mono (unhide K) ?_
  rintro e w1 ⟨rfl, hb1⟩
  clear K
  go_wp2
  go_ret
  exact ⟨rfl, (unhide HB).trans (hb1.mono (unhide HB).size)⟩

set_option maxRecDepth 20000 in
set_option maxHeartbeats 2000000 in
theorem told_err (p q : Int) (bo : Option Addr) (m d cap : Nat) (ao : Option Addr) (f : Int) (w : World) (hf : f = 1 ∨ f = 3) :
    Calls Tryd.prog 15 #[.agg #[.int .i64 0, .int .i64 0, .slice ao 0 cap], .int .i64 f, .agg #[.int .i64 p, .int .i64 q, .slice bo m d], .int .i64 f] w fun e w' => e = .returned (.bool true) ∧ Below w.heap.size w w' := by
  have b0 := below_alloc9 w (.cells #[.int .i64 0, .int .i64 0, .slice ao 0 cap] 24)
  have b1 := below_alloc9 (w.alloc (.cells #[.int .i64 0, .int .i64 0, .slice ao 0 cap] 24)) (.cells #[.int .i64 p, .int .i64 q, .slice bo m d] 24)
  have bb := b0.trans (b1.mono b0.size)
  have K := hide (fun w' => rsame_any 0 0 ao none cap 0 [] w' (BitsAt.nilAt w' _ _) (BitsAt.nilAt w' _ _) (by simp))
  simp only [List.length_nil] at K
  have HB := hide bb
  clear b0 b1 bb
  rcases hf with rfl | rfl
  all_goals
    go_enter Tryd.func15, Tryd.ntmps15
    go_wp2_with fail
    refine (unhide K _).mono ?_
    rintro e w1 ⟨rfl, hb1⟩
    clear K
    go_wp2
    go_ret
    exact ⟨rfl, (unhide HB).trans (hb1.mono (unhide HB).size)⟩

set_option maxRecDepth 20000 in
set_option maxHeartbeats 2000000 in
theorem form10_any (r c : Int) (ao : Option Addr) (n cap : Nat) (p q : Int) (bo : Option Addr) (m d : Nat) (w : World) :
    Calls Tryd.prog 27 #[.agg #[.int .i64 r, .int .i64 c, .slice ao n cap], .agg #[.int .i64 p, .int .i64 q, .slice bo m d]] w fun e w' => e = .returned (.int .i64 (if (okB r c n && okB p q m) = true then 0 else 1)) ∧ Below w.heap.size w w' := by
  have b0 := below_alloc9 w (.cells #[.int .i64 r, .int .i64 c, .slice ao n cap] 24)
  have b1 := below_alloc9 (w.alloc (.cells #[.int .i64 r, .int .i64 c, .slice ao n cap] 24)) (.cells #[.int .i64 p, .int .i64 q, .slice bo m d] 24)
  have HB := hide (b0.trans (b1.mono b0.size))
  have KB := hide (boxes2 w (.int .i64 r) (.int .i64 c) (.slice ao n cap) (.int .i64 p) (.int .i64 q) (.slice bo m d))
  have K1 := hide (rright_any r c ao n cap ((w.alloc (.cells #[.int .i64 r, .int .i64 c, .slice ao n cap] 24)).alloc (.cells #[.int .i64 p, .int .i64 q, .slice bo m d] 24)))
  simp only [size_alloc9] at K1
  have K2 := hide (fun w' => rright_any p q bo m d w')
  clear b0 b1
  cases h1 : okB r c n
  · rw [h1] at K1
    simp only [Bool.false_and, Bool.false_eq_true, if_false]
    clear h1
    go_enter Tryd.func27, Tryd.ntmps27
    go_wp2_with fail
    refine Calls.mono (unhide K1) ?_
    rintro e w1 ⟨rfl, hb1⟩
    have B1 := hide (unhide KB w1 hb1).1
    clear K1 K2 hb1
    go_wp2
    go_ret
    exact ⟨rfl, unhide B1⟩
  · rw [h1] at K1
    simp only [Bool.true_and]
    clear h1
    cases h2 : okB p q m
    · rw [h2] at K2
      simp only [Bool.false_eq_true, if_false]
      clear h2
      go_enter Tryd.func27, Tryd.ntmps27
      go_wp2_with fail
      refine Calls.mono (unhide K1) ?_
      rintro e w1 ⟨rfl, hb1⟩
      obtain ⟨b1, x1, x2⟩ := unhide KB w1 hb1
      have B1 := hide b1
      have p0 := x2.c0; have p1 := x2.c1; have p2 := x2.c2
      clear K1 hb1 b1 x1 x2
      go_wp2_with fail
      refine (unhide K2 _).mono ?_
      rintro e w2 ⟨rfl, hb2⟩
      clear K2
      go_wp2
      go_ret
      exact ⟨rfl, (unhide B1).trans (hb2.mono (unhide B1).size)⟩
    · rw [h2] at K2
      simp only [if_true]
      clear h2
      go_enter Tryd.func27, Tryd.ntmps27
      go_wp2_with fail
      refine Calls.mono (unhide K1) ?_
      rintro e w1 ⟨rfl, hb1⟩
      obtain ⟨b1, x1, x2⟩ := unhide KB w1 hb1
      have B1 := hide b1
      have p0 := x2.c0; have p1 := x2.c1; have p2 := x2.c2
      clear K1 hb1 b1 x1 x2
      go_wp2_with fail
      refine (unhide K2 _).mono ?_
      rintro e w2 ⟨rfl, hb2⟩
      clear K2
      go_wp2
      go_ret
      exact ⟨rfl, (unhide B1).trans (hb2.mono (unhide B1).size)⟩

end Go.Proofs.YtheepcdlakjdcaaDoor

/- The reference of layer 10: Eye, In. -/
namespace Go.Proofs.YtheepcdlakjdcaaDoor
open Go.RowKit
attribute [local go_sem ↓] Go.wp_at_zero Go.wp_at_succ

/-- A matrix in a variable's box at g, the result's box at gr. -/
structure LpSt (w wr : World) (g gr p q : Nat) (mo : Option Addr) (mc : Nat) (S : List Nat) : Prop where
  bel : Below w.heap.size w wr
  box : BoxM wr g (.int .i64 p) (.int .i64 q) (.slice mo S.length mc)
  res : BoxM wr gr (.int .i64 0) (.int .i64 0) (.slice none 0 0)
  bits : BitsAt wr mo mc (mxL S)
  ne : gr ≠ g
  lo : w.heap.size ≤ g
theorem LpSt.all {w wr w' : World} {g gr p q : Nat} {mo : Option Addr} {mc : Nat} {S : List Nat} (h : LpSt w wr g gr p q mo mc S) (hb : Below wr.heap.size wr w') : LpSt w w' g gr p q mo mc S :=
  ⟨h.bel.trans (hb.mono h.bel.size), h.box.all hb, h.res.all hb, h.bits.below hb, h.ne, h.lo⟩
theorem LpSt.put {w wr : World} {g gr p q : Nat} {mo : Option Addr} {mc : Nat} {S : List Nat} (h : LpSt w wr g gr p q mo mc S) {no : Option Addr} {nc : Nat} {T : List Nat} (hT : BitsAt wr no nc (mxL T)) :
    LpSt w (((wr.setCell ⟨g, 0, none⟩ (.int .i64 p)).setCell ⟨g, 1, none⟩ (.int .i64 q)).setCell ⟨g, 2, none⟩ (.slice no T.length nc)) g gr p q no nc T :=
  ⟨below_putM h.bel h.lo _ _ _, h.box.put _ _ _, ((h.res.other (p := ⟨g, 0, none⟩) h.ne _).other (p := ⟨g, 1, none⟩) h.ne _).other (p := ⟨g, 2, none⟩) h.ne _, hT.putM h.box _ _ _, h.ne, h.lo⟩

theorem NewM.any {w : World} {r c : Nat} {S : List Nat} {ao : Option Addr} {cap : Nat} (h : BitsAt w ao cap (mxL S)) : NewM 0 w r c S (.agg #[.int .i64 r, .int .i64 c, .slice ao S.length cap]) := by
  refine ⟨ao, cap, rfl, ?_, h⟩
  rcases h.2.2 with e | ⟨b, off, e1, _, _⟩
  · exact .inl e
  · exact .inr ⟨b, off, e1, Nat.zero_le _⟩

/-- The first j ones of Eye. -/
def eyJ (n j : Nat) : List Nat := mkM n n (fun i k => if k = i ∧ i < j then 4607182418800017408 else 0)
theorem eyJ_0 (n : Nat) : eyJ n 0 = List.replicate (n * n) 0 := by
  rw [mkM_noughts]
  exact mkM_congr (fun i k _ _ => if_neg (by omega))
theorem eyJ_set (n j : Nat) (hj : j < n) : (eyJ n j).set (j * n + j) 4607182418800017408 = eyJ n (j + 1) := by
  unfold eyJ
  rw [mkM_set n n _ _ hj hj]
  refine mkM_congr (fun x y _ _ => ?_)
  by_cases h : x = j ∧ y = j
  · rw [if_pos h, if_pos (by omega)]
  · rw [if_neg h]
    by_cases e : y = x ∧ x < j
    · rw [if_pos e, if_pos (by omega)]
    · rw [if_neg e, if_neg (by omega)]
theorem eyJ_all (n : Nat) : eyJ n n = eyM n := mkM_congr (fun i k hi _ => by
  by_cases e : k = i
  · rw [if_pos ⟨e, hi⟩, if_pos e]
  · rw [if_neg (fun h => e h.1), if_neg e])
theorem eyJ_len (n j : Nat) : (eyJ n j).length = n * n := mkM_len _ _ _

set_option maxRecDepth 20000 in
set_option maxHeartbeats 4000000 in
theorem reye_any (n : Nat) (w : World) (hn : n ≤ 6) :
    Calls Tryd.prog 16 #[.int .i64 n] w fun e w' => ∃ v, e = .returned v ∧ NewM 0 w' n n (eyM n) v ∧ Below w.heap.size w w' := by
  have K1 := hide (fun w' => rzeros_any n n w' hn hn)
  have b0 := below_alloc9 w (.cells #[.int .i64 0, .int .i64 0, .slice none 0 0] 24)
  have X0 := BoxM.new w (.int .i64 0) (.int .i64 0) (.slice none 0 0)
  have s0 := size_alloc9 w (.cells #[.int .i64 0, .int .i64 0, .slice none 0 0] 24)
  have HB0 := hide b0; have HX0 := hide X0; have HS0 := hide s0
  clear b0 X0 s0
  go_enter Tryd.func16, Tryd.ntmps16
  go_wp2_with fail
  refine (unhide K1 _).mono ?_
  rintro e w1 ⟨v, rfl, ⟨mo, mc, rfl, nw, qs⟩, hb1⟩
  have ba := below_alloc9 w1 (.cells #[.int .i64 n, .int .i64 n, .slice mo (List.replicate (n * n) 0).length mc] 24)
  have BB := (unhide HB0).trans (hb1.mono (unhide HB0).size)
  have L0 := hide (show LpSt w (w1.alloc (.cells #[.int .i64 n, .int .i64 n, .slice mo (eyJ n 0).length mc] 24)) w1.heap.size w.heap.size n n mo mc (eyJ n 0) from by
    rw [eyJ_0]
    exact ⟨BB.trans (ba.mono BB.size), BoxM.new w1 _ _ _, ((unhide HX0).all hb1).all ba, qs.below ba, by have := hb1.size; rw [unhide HS0] at this; omega, BB.size⟩)
  rw [← eyJ_0]
  clear K1 hb1 ba BB nw qs HB0 HX0 HS0
  go_wp2_with fail
  generalize w1.heap.size = g at *
  go_loopw [4] (fun i wr => ∃ (j : Nat) (no : Option Addr) (nc : Nat), j ≤ n ∧ i = .int .i64 j ∧ Hid (LpSt w wr g w.heap.size n n no nc (eyJ n j))) (fun i _ => n - (intOf i).toNat)
  case atStart => exact ⟨0, mo, mc, Nat.zero_le _, rfl, L0⟩
  case round =>
    clear L0
    obtain ⟨j, no, nc, hj, rfl, hL⟩ := hrel
    have y0 := (unhide hL).box.c0; have y1 := (unhide hL).box.c1; have y2 := (unhide hL).box.c2
    by_cases hlt : j < n
    · have hjI : (j : Int) < (n : Int) := by omega
      have C := hide (rwith_any n n nc j j 4607182418800017408 no (eyJ n j) _ ⟨(unhide hL).bits, eyJ_len n j, hn, hn⟩ hlt hlt (by decide))
      rw [eyJ_set n j hlt, show ((4607182418800017408 : Nat) : Int) = 4607182418800017408 from rfl] at C
      generalize (eyJ n j).length = l at *
      go_wp2_with fail
      refine Calls.mono (unhide C) ?_
      rintro e w2 ⟨v, rfl, ⟨no', nc', rfl, _, q2⟩, hb2⟩
      have L2 := (unhide hL).all hb2
      have f0 := L2.box.free 0; have f1 := L2.box.free 1; have f2 := L2.box.free 2
      have u0 := L2.box.c0; have u1 := L2.box.c1; have u2 := L2.box.c2
      have L3 := hide (L2.put q2)
      clear C hb2 L2 hL y0 y1 y2 q2
      go_wp2_with fail
      go_round
      case rel => exact ⟨j + 1, no', nc', by omega, by go_num, L3⟩
      case measure => simp [intOf]; omega
    · have hjj : j = n := by omega
      subst hjj
      rw [eyJ_all] at hL y2
      have r0 := (unhide hL).res.c0; have r1 := (unhide hL).res.c1; have r2 := (unhide hL).res.c2
      have f0 := (unhide hL).res.free 0; have f1 := (unhide hL).res.free 1; have f2 := (unhide hL).res.free 2
      have XP := (unhide hL).res.put (.int .i64 j) (.int .i64 j) (.slice no (eyM j).length nc)
      have z0 := XP.c0; have z1 := XP.c1; have z2 := XP.c2
      have Q := hide (BitsAt.putM (unhide hL).bits (unhide hL).res (.int .i64 j) (.int .i64 j) (.slice no (eyM j).length nc))
      have BP := hide (below_putM (unhide hL).bel (Nat.le_refl _) (.int .i64 j) (.int .i64 j) (.slice no (eyM j).length nc))
      clear XP hL
      go_wp2
      exact bodyPost_ret (v := .agg #[.int .i64 j, .int .i64 j, .slice no (eyM j).length nc]) (by simp [results, Tryd.results16, go_sem, z0, z1, z2]) rfl ⟨_, rfl, NewM.any (unhide Q), unhide BP⟩

end Go.Proofs.YtheepcdlakjdcaaDoor

/- The reference of layer 10: Turn, Part (mkne.py). -/
namespace Go.Proofs.YtheepcdlakjdcaaDoor
open Go.RowKit
attribute [local go_sem ↓] Go.wp_at_zero Go.wp_at_succ

set_option maxRecDepth 20000 in
set_option maxHeartbeats 8000000 in
theorem rturn_any (r c cap : Nat) (ao : Option Addr) (S : List Nat) (w : World) (h : Mx w ao cap r c S) :
    Calls Tryd.prog 22 #[.agg #[.int .i64 r, .int .i64 c, .slice ao S.length cap]] w fun e w' => ∃ v, e = .returned v ∧ NewM 0 w' c r (mkM c r (fun k i => elM c S i k)) v ∧ Below w.heap.size w w' := by
  have HH := hide h
  have hr6 := h.2.2.1; have hc6 := h.2.2.2
  have K1 := hide (fun w' => rzeros_any c r w' (by omega) (by omega))
  have b0 := below_alloc9 w (.cells #[.int .i64 r, .int .i64 c, .slice ao S.length cap] 24)
  have b1 := below_alloc9 (w.alloc (.cells #[.int .i64 r, .int .i64 c, .slice ao S.length cap] 24)) (.cells #[.int .i64 0, .int .i64 0, .slice none 0 0] 24)
  have s0 := size_alloc9 w (.cells #[.int .i64 r, .int .i64 c, .slice ao S.length cap] 24)
  have s1 := size_alloc9 (w.alloc (.cells #[.int .i64 r, .int .i64 c, .slice ao S.length cap] 24)) (.cells #[.int .i64 0, .int .i64 0, .slice none 0 0] 24)
  have X0 := BoxM.new w (.int .i64 r) (.int .i64 c) (.slice ao S.length cap)
  have X1 := BoxM.new (w.alloc (.cells #[.int .i64 r, .int .i64 c, .slice ao S.length cap] 24)) (.int .i64 0) (.int .i64 0) (.slice none 0 0)
  have HX0 := hide (X0.all b1)
  rw [s0] at X1
  have HX1 := hide X1
  have HB0 := hide (b0.trans (b1.mono b0.size))
  have HS0 := hide (s1.trans (by rw [s0]))
  have HL := hide h.2.1
  obtain ⟨l, hl⟩ : ∃ l, S.length = l := ⟨_, rfl⟩
  rw [hl] at HX0 HX1 HB0 HS0
  rw [hl]
  have HLL := hide hl
  obtain ⟨f, hf⟩ : ∃ f : Nat → Nat → Nat, f = (fun k i => elM c S i k) := ⟨_, rfl⟩
  rw [← hf]
  have HF := hide hf
  clear b0 b1 s0 s1 X0 X1 h hl hf
  go_enter Tryd.func22, Tryd.ntmps22
  go_wp2_with fail
  refine (unhide K1 _).mono ?_
  rintro e w1 ⟨v, rfl, ⟨mo, mc, rfl, nw, qs⟩, hb1⟩
  have ba := below_alloc9 w1 (.cells #[.int .i64 c, .int .i64 r, .slice mo (List.replicate (c * r) 0).length mc] 24)
  have BB := (unhide HB0).trans (hb1.mono (unhide HB0).size)
  have L0 := hide (show LpSt w (w1.alloc (.cells #[.int .i64 c, .int .i64 r, .slice mo (mkM c r (fiC f 0 0)).length mc] 24)) w1.heap.size (w.heap.size + 1) c r mo mc (mkM c r (fiC f 0 0)) from by
    rw [fiC_0]
    exact ⟨BB.trans (ba.mono BB.size), BoxM.new w1 _ _ _, ((unhide HX1).all hb1).all ba, qs.below ba, by have := hb1.size; rw [unhide HS0] at this; omega, BB.size⟩)
  have A0 := hide (show BoxM (w1.alloc (.cells #[.int .i64 c, .int .i64 r, .slice mo (mkM c r (fiC f 0 0)).length mc] 24)) w.heap.size (.int .i64 r) (.int .i64 c) (.slice ao l cap) from by
    rw [fiC_0]
    exact ((unhide HX0).all hb1).all ba)
  have NE := hide (show w.heap.size ≠ w1.heap.size from by have := hb1.size; rw [unhide HS0] at this; omega)
  rw [← fiC_0 c r f]
  clear K1 hb1 ba BB nw qs HB0 HX0 HX1 HS0
  have t0 := (unhide A0).c0; have t1 := (unhide A0).c1; have t2 := (unhide A0).c2
  go_wp2_with fail
  generalize w1.heap.size = g at *
  go_loopw [4] (fun i wr => ∃ (j : Nat) (no : Option Addr) (nc : Nat), j ≤ r ∧ i = .int .i64 j ∧ Hid (LpSt w wr g (w.heap.size + 1) c r no nc (mkM c r (fiC f j 0))) ∧ Hid (BoxM wr w.heap.size (.int .i64 r) (.int .i64 c) (.slice ao l cap))) (fun i _ => r - (intOf i).toNat)
  case atStart => exact ⟨0, mo, mc, Nat.zero_le _, rfl, L0, A0⟩
  case round =>
    clear L0 A0 t0 t1 t2
    obtain ⟨j, no, nc, hj, rfl, hL, hA⟩ := hrel
    by_cases hlt : j < r
    · have hjI : (j : Int) < (r : Int) := by omega
      have t0 := (unhide hA).c0; have t1 := (unhide hA).c1; have t2 := (unhide hA).c2
      go_wp2_with fail
      go_loopw [5] (fun i wr => ∃ (k : Nat) (no : Option Addr) (nc : Nat), k ≤ c ∧ i = .int .i64 k ∧ Hid (LpSt w wr g (w.heap.size + 1) c r no nc (mkM c r (fiC f j k))) ∧ Hid (BoxM wr w.heap.size (.int .i64 r) (.int .i64 c) (.slice ao l cap))) (fun i _ => c - (intOf i).toNat)
      case atStart => exact ⟨0, no, nc, Nat.zero_le _, rfl, hL, hA⟩
      case round =>
        clear hL hA t0 t1 t2 no nc
        obtain ⟨k, no, nc, hk, rfl, hL, hA⟩ := hrel
        have t0 := (unhide hA).c0; have t1 := (unhide hA).c1; have t2 := (unhide hA).c2
        by_cases hkc : k < c
        · have hkI : (k : Int) < (c : Int) := by omega
          have y0 := (unhide hL).box.c0; have y1 := (unhide hL).box.c1; have y2 := (unhide hL).box.c2
          have C1 := hide (fun w' (m : Mx w' ao cap r c S) => rat_any r c cap j k ao S w' m (by omega) (by omega))
          have C2 := hide (fun w' no nc (m : Mx w' no nc c r (mkM c r (fiC f j k))) => rwith_any c r nc k j (f k j) no (mkM c r (fiC f j k)) w' m (by omega) (by omega) (by rw [unhide HF]; exact (unhide HH).el_lt _ _))
          rw [fiC_step c r f hlt hkc] at C2
          rw [unhide HLL, show elM c S j k = f k j from by rw [unhide HF]] at C1
          have HM := hide ((unhide HH).below (unhide hL).bel)
          have HP := hide (show (mkM c r (fiC f j k)).length = c * r from mkM_len _ _ _)
          generalize f k j = x at *
          generalize mkM c r (fiC f j k) = T at *
          generalize hT2 : mkM c r (fiC f j (k + 1)) = T2 at *
          have HT2 := hide hT2
          clear hT2
          go_wp2_with fail
          go_region_with (first | (go_at_call 12; refine (unhide C1 _ (by exact unhide HM)).mono ?_; rintro e w4 ⟨rfl, hb3⟩; have hb4 : Below wr.heap.size wr w4 := ((Below.refl wr.heap.size wr).drew).trans hb3; clear hb3 t0 t1 t2 y0 y1 y2; have L4 := (unhide hL).all hb4; have A4 := (unhide hA).all hb4; have t0 := A4.c0; have t1 := A4.c1; have t2 := A4.c2; have y0 := L4.box.c0; have y1 := L4.box.c1; have y2 := L4.box.c2; have HL4 := hide L4; have HA4 := hide A4; clear hb4 L4 A4) | (go_at_call 38; refine (unhide C2 _ _ _ ⟨(unhide HL4).bits, unhide HP, by omega, by omega⟩).mono ?_; rintro e w5 ⟨v, rfl, ⟨no5, nc5, rfl, _, q5⟩, hb5⟩; clear t0 t1 t2 y0 y1 y2; have L5 := (unhide HL4).all hb5; have A5 := (unhide HA4).all hb5; have y0 := L5.box.c0; have y1 := L5.box.c1; have y2 := L5.box.c2; have f0 := L5.box.free 0; have f1 := L5.box.free 1; have f2 := L5.box.free 2; have L6 := hide (L5.put q5); have A6 := hide (((A5.other (p := ⟨g, 0, none⟩) (unhide NE) (.int .i64 c)).other (p := ⟨g, 1, none⟩) (unhide NE) (.int .i64 r)).other (p := ⟨g, 2, none⟩) (unhide NE) (.slice no5 T2.length nc5)); clear hb5 L5 A5 q5 HL4 HA4) | fail "NO ARM")
          all_goals
            clear hL hA HM C1 C2 y0 y1 y2 f0 f1 f2
            go_wp2_with fail
            go_round
            case rel => exact ⟨k + 1, no5, nc5, by omega, by go_num, by rw [unhide HT2]; exact L6, A6⟩
            case measure => simp [intOf]; omega
        · have hkk : c = k := by omega
          subst hkk
          have hL' := hide (show LpSt w _ g (w.heap.size + 1) c r no nc (mkM c r (fiC f (j + 1) 0)) from by rw [← fiC_col c r f j]; exact unhide hL)
          clear hL
          go_wp2_with fail
          go_round
          case rel => exact ⟨j + 1, no, nc, by omega, by go_num, hL', hA⟩
          case measure => simp [intOf]; omega
    · have hjj : r = j := by omega
      subst hjj
      rw [fiC_all] at hL
      have t0 := (unhide hA).c0; have t1 := (unhide hA).c1; have t2 := (unhide hA).c2
      have y0 := (unhide hL).box.c0; have y1 := (unhide hL).box.c1; have y2 := (unhide hL).box.c2
      have r0 := (unhide hL).res.c0; have r1 := (unhide hL).res.c1; have r2 := (unhide hL).res.c2
      have f0 := (unhide hL).res.free 0; have f1 := (unhide hL).res.free 1; have f2 := (unhide hL).res.free 2
      have XP := (unhide hL).res.put (.int .i64 c) (.int .i64 r) (.slice no (mkM c r f).length nc)
      have z0 := XP.c0; have z1 := XP.c1; have z2 := XP.c2
      have Q := hide (BitsAt.putM (unhide hL).bits (unhide hL).res (.int .i64 c) (.int .i64 r) (.slice no (mkM c r f).length nc))
      have BP := hide (below_putM (unhide hL).bel (b := w.heap.size + 1) (by omega) (.int .i64 c) (.int .i64 r) (.slice no (mkM c r f).length nc))
      clear XP hL
      go_wp2
      exact bodyPost_ret (v := .agg #[.int .i64 c, .int .i64 r, .slice no (mkM c r f).length nc]) (by simp [results, Tryd.results22, go_sem, z0, z1, z2]) rfl ⟨_, rfl, NewM.any (unhide Q), unhide BP⟩

end Go.Proofs.YtheepcdlakjdcaaDoor

/- The reference of layer 10: In, Copy, Stack, Beside. -/
namespace Go.Proofs.YtheepcdlakjdcaaDoor
open Go.RowKit
attribute [local go_sem ↓] Go.wp_at_zero Go.wp_at_succ
theorem OwnB.least {base base' : Nat} {w : World} {v : Value} {S : List Nat} (h : OwnB base w v S) (hb : base' ≤ base) : OwnB base' w v S := by
  refine ⟨⟨h.1.1, ?_⟩, h.2⟩
  rcases h.1.2 with e | ⟨g, cap, cur, hv, hg, rest⟩
  · exact .inl e
  · exact .inr ⟨g, cap, cur, hv, Nat.le_trans hb hg, rest⟩
/-- Stores into a box that lies elsewhere. -/
theorem OwnB.putM {base : Nat} {w : World} {v : Value} {S : List Nat} (h : OwnB base w v S) {b : Nat} {x y z : Value} (_hx : BoxM w b x y z) (hb : b < base) (u u' u'' : Value) : OwnB base (((w.setCell ⟨b, 0, none⟩ u).setCell ⟨b, 1, none⟩ u').setCell ⟨b, 2, none⟩ u'') v S := by
  refine ⟨⟨h.1.1, ?_⟩, h.2⟩
  rcases h.1.2 with e | ⟨g, cap, cur, hv, hg, hh, rest⟩
  · exact .inl e
  · refine .inr ⟨g, cap, cur, hv, hg, ?_, rest⟩
    have ne : g ≠ b := by omega
    rw [Below.heap_setCell _ ⟨b, 2, none⟩ u'' g ne, Below.heap_setCell _ ⟨b, 1, none⟩ u' g ne, Below.heap_setCell _ ⟨b, 0, none⟩ u g ne]
    exact hh

set_option maxRecDepth 20000 in
set_option maxHeartbeats 8000000 in
theorem rcopy_any (r c : Int) (ao : Option Addr) (cap : Nat) (I : List Int) (w : World) (h : BitsAt w ao cap I) (hl : I.length ≤ 17592186043904) :
    Calls Tryd.prog 18 #[.agg #[.int .i64 r, .int .i64 c, .slice ao I.length cap]] w fun e w' => ∃ po pc, e = .returned (.agg #[.int .i64 r, .int .i64 c, .slice po I.length pc]) ∧ OwnB w.heap.size w' (.slice po I.length pc) (natL I) ∧ Below w.heap.size w w' := by
  have b0 := below_alloc9 w (.cells #[.int .i64 r, .int .i64 c, .slice ao I.length cap] 24)
  have s0 := size_alloc9 w (.cells #[.int .i64 r, .int .i64 c, .slice ao I.length cap] 24)
  have b1 := below_alloc9 (w.alloc (.cells #[.int .i64 r, .int .i64 c, .slice ao I.length cap] 24)) (.cells #[.int .i64 0, .int .i64 0, .slice none 0 0] 24)
  have s1 := size_alloc9 (w.alloc (.cells #[.int .i64 r, .int .i64 c, .slice ao I.length cap] 24)) (.cells #[.int .i64 0, .int .i64 0, .slice none 0 0] 24)
  have bb := b0.trans (b1.mono b0.size)
  have bits := h.below bb
  have KB := hide (fun w1 => boxes2 w (.int .i64 r) (.int .i64 c) (.slice ao I.length cap) (.int .i64 0) (.int .i64 0) (.slice none 0 0) w1)
  rw [s0] at s1
  have KC := hide (fun w' (hb : Below (w.heap.size + 1 + 1) ((w.alloc (.cells #[.int .i64 r, .int .i64 c, .slice ao I.length cap] 24)).alloc (.cells #[.int .i64 0, .int .i64 0, .slice none 0 0] 24)) w') (hz : w'.heap.size = w.heap.size + 1 + 1) => (show ∃ po pc w'', (Builtin.append_ #[22, 22] 22 #[.slice (some ⟨w.heap.size + 1 + 1, 0, none⟩) 0 0, .slice ao I.length cap]).run Tryd.prog (w'.alloc (.cells #[] 26)) = .ok (.slice po I.length pc) w'' ∧ (OwnB (w.heap.size + 1 + 1) w'' (.slice po I.length pc) (natL I) ∧ Below (w.heap.size + 1 + 1) ((w.alloc (.cells #[.int .i64 r, .int .i64 c, .slice ao I.length cap] 24)).alloc (.cells #[.int .i64 0, .int .i64 0, .slice none 0 0] 24)) w'') from by
    have b2 := below_alloc9 w' (.cells #[] 26)
    have on := OwnB.nil w' (w.heap.size + 1 + 1) (by omega)
    have bt := (bits.below (by rw [s1]; exact hb)).below b2
    obtain ⟨po, pc, w1, run, own, gr⟩ := copy_bits _ (w.heap.size + 1 + 1) 22 ao cap I _ bt hl on.1 (by simp; omega)
    rw [hz] at run
    exact ⟨po, pc, w1, run, own, hb.trans ((b2.mono (by omega)).grown gr (by simp; omega) (fun g hg => by cases hg; omega))⟩))
  clear b0 b1 s0 s1 bb bits h
  obtain ⟨l, hl'⟩ : ∃ l, I.length = l := ⟨_, rfl⟩
  have HL := hide hl'
  rw [hl'] at KB KC hl ⊢
  clear hl'
  have HK := hide (fun w' (hb : Below (w.heap.size + 1 + 1) ((w.alloc (.cells #[.int .i64 r, .int .i64 c, .slice ao l cap] 24)).alloc (.cells #[.int .i64 0, .int .i64 0, .slice none 0 0] 24)) w') => (show w'.cell? ⟨w.heap.size, 0, none⟩ = some (.int .i64 r) ∧ w'.cell? ⟨w.heap.size, 1, none⟩ = some (.int .i64 c) ∧ w'.cell? ⟨w.heap.size, 2, none⟩ = some (.slice ao l cap) from
    ⟨(unhide KB w' hb).2.1.c0, (unhide KB w' hb).2.1.c1, (unhide KB w' hb).2.1.c2⟩))
  have HP := hide (fun w5 (u u' u'' : Value) (hb : Below (w.heap.size + 1 + 1) ((w.alloc (.cells #[.int .i64 r, .int .i64 c, .slice ao l cap] 24)).alloc (.cells #[.int .i64 0, .int .i64 0, .slice none 0 0] 24)) w5) => (show (((w5.setCell ⟨w.heap.size + 1, 0, none⟩ u).setCell ⟨w.heap.size + 1, 1, none⟩ u').setCell ⟨w.heap.size + 1, 2, none⟩ u'').cell? ⟨w.heap.size, 0, none⟩ = some (.int .i64 r) ∧ (((w5.setCell ⟨w.heap.size + 1, 0, none⟩ u).setCell ⟨w.heap.size + 1, 1, none⟩ u').setCell ⟨w.heap.size + 1, 2, none⟩ u'').cell? ⟨w.heap.size, 1, none⟩ = some (.int .i64 c) ∧ (((w5.setCell ⟨w.heap.size + 1, 0, none⟩ u).setCell ⟨w.heap.size + 1, 1, none⟩ u').setCell ⟨w.heap.size + 1, 2, none⟩ u'').cell? ⟨w.heap.size, 2, none⟩ = some (.slice ao l cap) from by
    have X := (unhide KB w5 hb).2.1
    have Y := ((X.other (p := ⟨w.heap.size + 1, 0, none⟩) (by show w.heap.size ≠ w.heap.size + 1; omega) u).other (p := ⟨w.heap.size + 1, 1, none⟩) (by show w.heap.size ≠ w.heap.size + 1; omega) u').other (p := ⟨w.heap.size + 1, 2, none⟩) (by show w.heap.size ≠ w.heap.size + 1; omega) u''
    exact ⟨Y.c0, Y.c1, Y.c2⟩))
  go_enter Tryd.func18, Tryd.ntmps18
  go_wp2_with fail
  go_region_held3 (fun w' => w'.cell? ⟨w.heap.size, 0, none⟩ = some (.int .i64 r) ∧ w'.cell? ⟨w.heap.size, 1, none⟩ = some (.int .i64 c) ∧ w'.cell? ⟨w.heap.size, 2, none⟩ = some (.slice ao l cap))
    (first | exact unhide HK _ (Below.refl _ _).drew | exact unhide HK _ (by assumption) | exact unhide HK _ ((Below.refl _ _).drew.alloc (by simp) _) | exact unhide HP _ _ _ _ (by assumption) | fail "KK")
    (first | (refine step_append_ex _ (by rfl) _ _ 22 (by rfl) _ _ _ _ (by rfl) (by rfl) (unhide KC _ (Below.refl _ _).drew (by first | rfl | simp)) ?_; rintro po pc w5 ⟨own5, bel5⟩; obtain ⟨B5, A5, X5⟩ := unhide KB w5 bel5; have u0 := X5.c0; have u1 := X5.c1; have u2 := X5.c2; have f0 := X5.free 0; have f1 := X5.free 1; have f2 := X5.free 2; have HO := hide own5; have HB := hide B5; have HX := hide X5; clear own5 A5 X5 B5) | fail "NO ARM")
  all_goals
    have XP := (unhide HX).put (.int .i64 r) (.int .i64 c) (.slice po l pc)
    have z0 := XP.c0; have z1 := XP.c1; have z2 := XP.c2
    have OP := hide ((unhide HO).putM (unhide HX) (by omega) (.int .i64 r) (.int .i64 c) (.slice po l pc))
    have BP := hide (below_putM (unhide HB) (b := w.heap.size + 1) (by omega) (.int .i64 r) (.int .i64 c) (.slice po l pc))
    clear XP HX HO HB
    go_wp2
    exact bodyPost_ret (v := .agg #[.int .i64 r, .int .i64 c, .slice po l pc]) (by simp [results, Tryd.results18, go_sem, z0, z1, z2]) rfl ⟨po, pc, rfl, (unhide OP).least (by omega), unhide BP⟩

end Go.Proofs.YtheepcdlakjdcaaDoor

