/- Part 29 of the texts. -/
import Derived.Test.YtimejpbmehegeaaGreatDoorParta28
import Derived.Maps.AppendAt
import Derived.Test.YtimejpbmehegeaaGreatDoorParta27
import Derived.Test.YtimejpbmehegeaaGreatDoorParta24
import Derived.Test.YtimejpbmehegeaaGreatDoorParta01
/- Copies of lists; cells that are spoiled; are two lists the same. -/
namespace Go.Proofs.YtimejpbmehegeaaGreatDoor
open Go.RowKit
attribute [local go_sem ↓] Go.wp_at_zero Go.wp_at_succ

/-- The numbers of a list. -/
def natL (I : List Int) : List Nat := I.map Int.toNat
theorem natL_len (I : List Int) : (natL I).length = I.length := by simp [natL]
theorem natL_back {w : World} {ao : Option Addr} {c : Nat} {I : List Int} (h : BitsAt w ao c I) : (natL I).map (fun x : Nat => (x : Int)) = I := by
  unfold natL
  rw [List.map_map]
  refine (List.map_congr_left fun x hx => ?_).trans (List.map_id I)
  have := h.2.1 x hx
  simp
  omega
theorem natL_lt {w : World} {ao : Option Addr} {c : Nat} {I : List Int} (h : BitsAt w ao c I) : ∀ x ∈ natL I, x < 18446744073709551616 := by
  intro x hx
  obtain ⟨y, hy, rfl⟩ := List.mem_map.1 hx
  have := h.2.1 y hy
  omega

set_option maxRecDepth 20000 in
theorem append_nil (w : World) (ty : TypeId) (g c : Nat) :
    (Builtin.append_ #[22, 22] ty #[.slice (some ⟨g, 0, none⟩) 0 0, .slice none 0 c]).run Tryz.prog w = .ok (.slice (some ⟨g, 0, none⟩) 0 0) w := by
  simp [Builtin.append_, go_sem]

/-- A list copied onto an empty one. -/
theorem copy_bits (w : World) (base : Nat) (ty : TypeId) (ao : Option Addr) (c : Nat) (I : List Int) (g : Nat) (h : BitsAt w ao c I) (hl : I.length ≤ 17592186043904) (hown : w.ownsRow base 24 1 (.slice (some ⟨g, 0, none⟩) 0 0) 0 []) (hbase : base ≤ w.heap.size) :
    ∃ po pc w', (Builtin.append_ #[22, 22] ty #[.slice (some ⟨g, 0, none⟩) 0 0, .slice ao I.length c]).run Tryz.prog w = .ok (.slice po I.length pc) w' ∧ OwnB base w' (.slice po I.length pc) (natL I) ∧ w.grownBy w' (some g) := by
  obtain ⟨i0, hi, hz0, hz1, hz2⟩ := info_parts infoBits
  cases ao with
  | none =>
    have h0 : I = [] := by
      rcases h.2.2 with e | ⟨b, off, e, _⟩
      · exact e
      · cases e
    subst h0
    refine ⟨some ⟨g, 0, none⟩, 0, w, append_nil w ty g c, ⟨hown, by simp [natL]⟩, ?_⟩
    exact ⟨rfl, rfl, rfl, Nat.le_refl _, fun k _ _ => rfl⟩
  | some a =>
    have hnews : ∀ j u, ((natL I).map bitV)[j]? = some u → w.cell? (a.add j) = some u := by
      intro j u hu
      rw [List.getElem?_map] at hu
      have hj : j < I.length := by
        rcases Nat.lt_or_ge j I.length with e | e
        · exact e
        · rw [List.getElem?_eq_none (by rw [natL_len]; exact e)] at hu; cases hu
      obtain ⟨b, off, e1, e2, e3⟩ := h.ne (by omega)
      cases e1
      rw [show (⟨b, off, none⟩ : Addr).add j = ⟨b, off + j, none⟩ by simp [Addr.add], e3 j hj]
      rw [← hu]
      simp [natL, hj, bitV, atB]
    obtain ⟨v', w', e1, e2, e3, e4, e5⟩ := run_append_own_at (P := Tryz.prog) w base 22 ty 24 i0 (.int .u64 0) 1 8 Tryz.underlying22 hi hz0 hz1 hz2 rfl (by decide) _ 0 [] hown a I.length c ((natL I).map bitV) (by simp [natL]) hnews (fun u hu => by
      obtain ⟨x, _, rfl⟩ := List.mem_map.1 hu
      rfl) (by unfold maxLen; omega) (by omega) hbase
    have ho : OwnB base w' v' (natL I) := ⟨by
      rw [natL_len]
      simpa using e2, natL_lt h⟩
    obtain ⟨po, pc, rfl, _⟩ := ho.bits
    rw [natL_len] at e1 ho
    exact ⟨po, pc, w', e1, ho, e3⟩

/-- n cells of block g hold bits, whatever they are. -/
def RowU (w : World) (g n : Nat) : Prop := ∃ cur : Array Value, w.heap[g]? = some (.cells cur 24 (0, 0)) ∧ n ≤ cur.size ∧ ∀ j, j < n → ∃ z : Int, cur[j]? = some (.int .u64 z)
theorem RowU.cell {w : World} {g n : Nat} (h : RowU w g n) {j : Nat} (hj : j < n) : ∃ z : Int, w.cell? ⟨g, j, none⟩ = some (.int .u64 z) := by
  obtain ⟨cur, h1, h2, h3⟩ := h
  obtain ⟨z, hz⟩ := h3 j hj
  exact ⟨z, by rw [cell_of_row w g j _ _ _ h1]; exact hz⟩
theorem RowU.free {w : World} {g n : Nat} (h : RowU w g n) (j : Nat) : w.frozen? ⟨g, j, none⟩ = false := by
  obtain ⟨cur, h1, _⟩ := h
  exact frozen_of_row w g j _ _ h1
theorem RowU.set {w : World} {g n : Nat} (h : RowU w g n) (b j : Nat) (z : Int) : RowU (w.setCell ⟨b, j, none⟩ (.int .u64 z)) g n := by
  obtain ⟨cur, h1, h2, h3⟩ := h
  by_cases e : g = b
  · subst e
    refine ⟨cur.setIfInBounds j (.int .u64 z), heap_setCell_same w g j _ _ _ h1, by simpa using h2, fun i hi => ?_⟩
    rw [Array.getElem?_setIfInBounds]
    by_cases ej : j = i
    · subst ej
      rw [if_pos rfl, if_pos (by omega)]
      exact ⟨z, rfl⟩
    · rw [if_neg ej]
      exact h3 i hi
  · exact ⟨cur, (Below.heap_setCell w ⟨b, j, none⟩ (.int .u64 z) g e).trans h1, h2, h3⟩
theorem RowU.below {w w' : World} {g n : Nat} (h : RowU w g n) (hb : Below w.heap.size w w') : RowU w' g n := by
  obtain ⟨cur, h1, h2⟩ := h
  exact ⟨cur, (hb.block g (Array.getElem?_eq_some_iff.1 h1).1).trans h1, h2⟩
/-- A copy's cells. -/
theorem OwnB.rowU {base : Nat} {w : World} {S : List Nat} {po : Option Addr} {n pc : Nat} (h : OwnB base w (.slice po n pc) S) (hn : 0 < S.length) : ∃ g, po = some ⟨g, 0, none⟩ ∧ base ≤ g ∧ g < w.heap.size ∧ RowU w g S.length := by
  rcases h.1.2 with ⟨_, h0⟩ | ⟨g, cap, cur, hv, hg, hh, hc, hm, hs, ht⟩
  · omega
  · simp only [Value.slice.injEq] at hv
    refine ⟨g, hv.1, hg, (Array.getElem?_eq_some_iff.1 hh).1, cur, hh, by omega, fun j hj => ?_⟩
    have q : (S.map bitV)[j]? = some (.int .u64 ((S[j] : Nat) : Int)) := by
      rw [List.getElem?_map, List.getElem?_eq_getElem hj]; rfl
    rw [← ht, List.getElem?_take, if_pos (by omega)] at q
    exact ⟨_, by simpa using q⟩

theorem BitsAt.other {w : World} {ao : Option Addr} {c : Nat} {I : List Int} (h : BitsAt w ao c I) {p : Addr} (hp : I = [] ∨ ∃ b off, ao = some ⟨b, off, none⟩ ∧ b ≠ p.block) (u : Value) : BitsAt (w.setCell p u) ao c I := by
  refine ⟨h.1, h.2.1, ?_⟩
  rcases h.2.2 with e | ⟨b, off, e1, e2, e3⟩
  · exact .inl e
  rcases hp with e | ⟨b', off', f1, f2⟩
  · exact .inl e
  rw [e1] at f1
  simp only [Option.some.injEq, Addr.mk.injEq] at f1
  obtain ⟨rfl, rfl, _⟩ := f1
  refine .inr ⟨b, off, e1, by simpa [World.setCell] using e2, fun i hi => ?_⟩
  rw [cell_setCell_other _ _ _ _ f2]
  exact e3 i hi

set_option maxRecDepth 20000 in
set_option maxHeartbeats 4000000 in
theorem same_any (ao bo : Option Addr) (c d : Nat) (I : List Int) (w : World) (hI : BitsAt w ao c I) (hJ : BitsAt w bo d I) (hn : I.length ≤ 35184372088830) :
    Calls Tryz.prog 11 #[.slice ao I.length c, .slice bo I.length d] w fun e w' => e = .returned (.bool true) ∧ Below w.heap.size w w' := by
  have HI := hide hI; have HJ := hide hJ
  obtain ⟨n, hnn⟩ : ∃ n, I.length = n := ⟨_, rfl⟩
  rw [hnn] at hn ⊢
  have HN := hide hnn
  clear hI hJ hnn
  go_enter Tryz.func11, Tryz.ntmps11
  go_wp2_with fail
  go_loopw [5] (fun i wr => ∃ k : Nat, k ≤ n ∧ i = .int .i64 k ∧ Hid (Below w.heap.size w wr)) (fun i _ => n - (intOf i).toNat)
  case atStart => exact ⟨0, Nat.zero_le _, rfl, Below.refl _ _⟩
  case round =>
    obtain ⟨k, hk, rfl, hB⟩ := hrel
    by_cases hlt : k < n
    · have hkI : (k : Int) < (n : Int) := by omega
      obtain ⟨b1, o1, hao, hb1, hc1⟩ := ((unhide HI).below hB.out).ne (by rw [unhide HN]; omega)
      obtain ⟨b2, o2, hbo, hb2, hc2⟩ := ((unhide HJ).below hB.out).ne (by rw [unhide HN]; omega)
      have cx := hc1 k (by rw [unhide HN]; exact hlt)
      have cy := hc2 k (by rw [unhide HN]; exact hlt)
      subst hao
      subst hbo
      clear hc1 hc2
      generalize atB I k = x at *
      go_wp2_with fail
      go_quiet (fail)
      go_wp2_with fail
      go_round
      case rel => exact ⟨k + 1, by omega, by go_num, hide (below_drewN hB.out _)⟩
      case measure => simp [intOf]; omega
    · have hkk : k = n := by omega
      subst hkk
      go_wp2_with fail
      exact bodyPost_ret (v := .bool true) (by simp [results, Tryz.results11, go_sem]) rfl ⟨rfl, hB.out⟩

end Go.Proofs.YtimejpbmehegeaaGreatDoor

/- The law VectorAxpys, walked. -/
namespace Go.Proofs.YtimejpbmehegeaaGreatDoor
open Go.RowKit
attribute [local go_sem ↓] Go.wp_at_zero Go.wp_at_succ

/-- Where a list lies: from block H on. -/
def NewB (H : Nat) (ao : Option Addr) (I : List Int) : Prop := I = [] ∨ ∃ b off, ao = some ⟨b, off, none⟩ ∧ H ≤ b
/-- A copy, whose cells may be spoiled. -/
def CopyB (base H : Nat) (w : World) (po : Option Addr) (n : Nat) : Prop := n = 0 ∨ ∃ g, po = some ⟨g, 0, none⟩ ∧ base ≤ g ∧ g < H ∧ RowU w g n
theorem CopyB.below {base H : Nat} {w w' : World} {po : Option Addr} {n : Nat} (h : CopyB base H w po n) (hb : Below w.heap.size w w') : CopyB base H w' po n := by
  rcases h with h | ⟨g, h1, h2, h3, h4⟩
  · exact .inl h
  · exact .inr ⟨g, h1, h2, h3, h4.below hb⟩
theorem CopyB.set {base H : Nat} {w : World} {po : Option Addr} {n : Nat} (h : CopyB base H w po n) (b j : Nat) (z : Int) : CopyB base H (w.setCell ⟨b, j, none⟩ (.int .u64 z)) po n := by
  rcases h with h | ⟨g, h1, h2, h3, h4⟩
  · exact .inl h
  · exact .inr ⟨g, h1, h2, h3, h4.set b j z⟩
theorem CopyB.base {base base' H : Nat} {w : World} {po : Option Addr} {n : Nat} (h : CopyB base H w po n) (hb : base' ≤ base) : CopyB base' H w po n := by
  rcases h with h | ⟨g, h1, h2, h3, h4⟩
  · exact .inl h
  · exact .inr ⟨g, h1, by omega, h3, h4⟩
theorem OwnB.copy {base : Nat} {w : World} {I : List Int} {po : Option Addr} {pc : Nat} (h : OwnB base w (.slice po I.length pc) (natL I)) : CopyB base w.heap.size w po I.length := by
  rcases Nat.eq_zero_or_pos I.length with e | e
  · exact .inl e
  · obtain ⟨g, h1, h2, h3, h4⟩ := h.rowU (by rw [natL_len]; exact e)
    rw [natL_len] at h4
    exact .inr ⟨g, h1, h2, h3, h4⟩
theorem BitsAt.far {H : Nat} {w : World} {ao : Option Addr} {c : Nat} {I : List Int} (h : BitsAt w ao c I) (hn : NewB H ao I) {b : Nat} (hb : b < H) (j : Nat) (u : Value) : BitsAt (w.setCell ⟨b, j, none⟩ u) ao c I := by
  refine h.other ?_ u
  rcases hn with e | ⟨b', off, e1, e2⟩
  · exact .inl e
  · exact .inr ⟨b', off, e1, by show b' ≠ b; omega⟩

theorem OwnB.same {base : Nat} {w w0 : World} {I : List Int} {po ao : Option Addr} {pc c : Nat} (h : OwnB base w (.slice po I.length pc) (natL I)) (h0 : BitsAt w0 ao c I) : BitsAt w po pc I := by
  obtain ⟨ao', cap', e, hb⟩ := h.bits
  simp only [Value.slice.injEq] at e
  obtain ⟨rfl, _, rfl⟩ := e
  rw [natL_back h0] at hb
  exact hb

/-- An append whose run is known. -/
theorem wpList_append_eq {P : Program} (w : World) {ops : Array Oper} {rest : List Oper} {o : Oper} {a : Act} {Q : Exit → Act → World → Prop} (hgd : o.guard = none) (s x : Operand) (t : TypeId)
    (ho : o.op = .call { callee := .builtin .append, args := #[s, x], argTypes := #[t, t] }) (v1 v2 v' : Value) (w' : World) (hs : a.eval s = v1) (hx : a.eval x = v2)
    (hr : (Builtin.append_ #[t, t] o.type #[v1, v2]).run P w = .ok v' w') (h : wpList P ops Q rest (a.put o.dst v') w') : wpList P ops Q (o :: rest) a w :=
  wpList_plain hgd fun _ hK => by
    unfold Oper.wp execOp
    simp only [ho, resolve, invoke, builtin, Sem.run_bind, Sem.run_pure, Result.andThen_ok, List.map_toArray, List.map_cons, List.map_nil, hs, hx, hr]
    exact hK _ _ h

end Go.Proofs.YtimejpbmehegeaaGreatDoor

/- A matrix in memory; stores into boxes keep it. -/
namespace Go.Proofs.YtimejpbmehegeaaGreatDoor
open Go.RowKit

/-- A matrix's numbers as they lie. -/
def mxL (S : List Nat) : List Int := S.map (fun x : Nat => (x : Int))
theorem mxL_len (S : List Nat) : (mxL S).length = S.length := by simp [mxL]
theorem mxL_at (S : List Nat) (j : Nat) : atB (mxL S) j = S.getD j 0 := by
  unfold mxL atB
  rw [List.getElem?_map, List.getD_eq_getElem?_getD]
  cases S[j]? <;> simp
theorem BitsAt.none (w : World) (c : Nat) : BitsAt w .none c (mxL []) := ⟨by simp [mxL], by simp [mxL], .inl rfl⟩
theorem BitsAt.nilAt (w : World) (ao : Option Addr) (c : Nat) : BitsAt w ao c (mxL []) := ⟨by simp [mxL], by simp [mxL], .inl rfl⟩

end Go.Proofs.YtimejpbmehegeaaGreatDoor

/- Package matrix: at, row, build. -/
namespace Go.Proofs.YtimejpbmehegeaaGreatDoor
open Go.RowKit
attribute [local go_sem ↓] Go.wp_at_zero Go.wp_at_succ
theorem NewB.least {H H' : Nat} {ao : Option Addr} {I : List Int} (h : NewB H ao I) (hh : H' ≤ H) : NewB H' ao I := by
  rcases h with e | ⟨b, off, e1, e2⟩
  · exact .inl e
  · exact .inr ⟨b, off, e1, Nat.le_trans hh e2⟩
theorem OwnB.newB {base : Nat} {w : World} {ao : Option Addr} {n cap : Nat} {S : List Nat} (h : OwnB base w (.slice ao n cap) S) : NewB base ao (mxL S) := by
  rcases h.1.2 with ⟨_, h0⟩ | ⟨g, cap', cur, hv, hg, _⟩
  · exact .inl (by rw [List.length_eq_zero_iff.1 h0]; rfl)
  · simp only [Value.slice.injEq] at hv
    exact .inr ⟨g, 0, hv.1, hg⟩

end Go.Proofs.YtimejpbmehegeaaGreatDoor

/- Exact numbers in rows; grids of them. -/
namespace Go.Proofs.YtimejpbmehegeaaGreatDoor
open Go.RowKit
/-- Block b is a box of three cells, of type T. -/
def BoxT (T : Nat) (w : World) (b : Nat) (x y z : Value) : Prop := w.heap[b]? = some (.cells #[x, y, z] T (0, 0))
theorem BoxT.c0 {T : Nat} {w : World} {b : Nat} {x y z : Value} (h : BoxT T w b x y z) : w.cell? ⟨b, 0, none⟩ = some x := by rw [cell_of_row w b 0 _ _ _ h]; rfl
theorem BoxT.c1 {T : Nat} {w : World} {b : Nat} {x y z : Value} (h : BoxT T w b x y z) : w.cell? ⟨b, 1, none⟩ = some y := by rw [cell_of_row w b 1 _ _ _ h]; rfl
theorem BoxT.c2 {T : Nat} {w : World} {b : Nat} {x y z : Value} (h : BoxT T w b x y z) : w.cell? ⟨b, 2, none⟩ = some z := by rw [cell_of_row w b 2 _ _ _ h]; rfl
theorem BoxT.free {T : Nat} {w : World} {b : Nat} {x y z : Value} (h : BoxT T w b x y z) (j : Nat) : w.frozen? ⟨b, j, none⟩ = false := frozen_of_row w b j _ _ h
theorem BoxT.lt {T : Nat} {w : World} {b : Nat} {x y z : Value} (h : BoxT T w b x y z) : b < w.heap.size := (Array.getElem?_eq_some_iff.1 h).1
theorem BoxT.below {T : Nat} {w w' : World} {b : Nat} {x y z : Value} (h : BoxT T w b x y z) {B : Nat} (hb : Below B w w') (hlt : b < B) : BoxT T w' b x y z := (hb.block b hlt).trans h
theorem BoxT.new (T : Nat) (w : World) (x y z : Value) : BoxT T (w.alloc (.cells #[x, y, z] T)) w.heap.size x y z := heap_alloc_new w _
theorem BoxT.all {T : Nat} {w w' : World} {b : Nat} {x y z : Value} (h : BoxT T w b x y z) (hb : Below w.heap.size w w') : BoxT T w' b x y z := h.below hb h.lt
theorem BoxT.other {T : Nat} {w : World} {b : Nat} {x y z : Value} (h : BoxT T w b x y z) {p : Addr} (hp : b ≠ p.block) (u : Value) : BoxT T (w.setCell p u) b x y z := (Below.heap_setCell w p u b hp).trans h
theorem BoxT.put {T : Nat} {w : World} {b : Nat} {x y z : Value} (h : BoxT T w b x y z) (u u' u'' : Value) : BoxT T (((w.setCell ⟨b, 0, none⟩ u).setCell ⟨b, 1, none⟩ u').setCell ⟨b, 2, none⟩ u'') b u u' u'' := by
  have h1 := heap_setCell_same w b 0 _ _ u h
  have h2 := heap_setCell_same (w.setCell ⟨b, 0, none⟩ u) b 1 _ _ u' h1
  have h3 := heap_setCell_same ((w.setCell ⟨b, 0, none⟩ u).setCell ⟨b, 1, none⟩ u') b 2 _ _ u'' h2
  unfold BoxT
  rw [h3]
  simp
theorem BoxT.grown {T : Nat} {w w' : World} {b : Nat} {x y z : Value} (h : BoxT T w b x y z) {o : Option Nat} (hg : w.grownBy w' o) (ho : o ≠ some b) : BoxT T w' b x y z :=
  (hg.block b h.lt ho.symm).trans h
end Go.Proofs.YtimejpbmehegeaaGreatDoor

