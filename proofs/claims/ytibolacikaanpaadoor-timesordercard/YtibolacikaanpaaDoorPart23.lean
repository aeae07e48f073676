/- Part 23 of the texts. -/
import Derived.Test.YtibolacikaanpaaDoorPart22
import Derived.Test.YtibolacikaanpaaDoorPart04
import Derived.Test.YtibolacikaanpaaDoorChecked
import Derived.Test.YtibolacikaanpaaDoorPart02
import Derived.ProofKit
import Derived.SizedLaws
import Derived.Lib.SmallJoins
import Derived.Test.YtibolacikaanpaaDoorRows
import Derived.Test.YtibolacikaanpaaDoorPart12
import Derived.Lib.LaidTab
import Derived.OpenShut
import Derived.Deep.DeepHandedRow
/- The laws TimesOrder, TimesSelf, TimesPowers, walked. -/
namespace Go.Proofs.YtibolacikaanpaaDoor
open Go.RowKit

set_option maxRecDepth 20000 in
set_option maxHeartbeats 2000000 in
theorem timesOrder_walk (a b : Nat) (w : World) (ha : a < 18446744073709551616) (hb : b < 18446744073709551616) (hT : Tab w) :
    Calls Tryd.prog 6 #[.int .u64 a, .int .u64 b] w fun r w' => r = .returned (.bool true) ∧ Below w.heap.size w w' := by
  have K1 := hide (tmul_any a b w ha hb hT)
  have K2 := hide (fun w' t => tmul_any b a w' hb ha t)
  rw [(mul_comm6 b a).1, (mul_comm6 b a).2] at K2
  have K3 := hide (fun w' t => awake6_any w' t)
  clear ha hb
  generalize mV a b = o at *
  generalize mF a b = fl at *
  go_enter Tryd.func6, Tryd.ntmps6
  go_wp2_with fail
  refine Calls.mono (unhide K1) ?_
  rintro e w1 ⟨rfl, hb1⟩
  have HT := hide (hT.all hb1)
  go_wp2_with fail
  refine (unhide K2 _ (unhide HT)).mono ?_
  rintro e w2 ⟨rfl, hb2⟩
  have B := hide (hb1.trans (hb2.mono hb1.size))
  have HT2 := hide ((unhide HT).all hb2)
  clear hb1 hb2 K1 K2 HT
  go_wp2_with fail
  refine (unhide K3 _ (unhide HT2)).mono ?_
  rintro e w3 ⟨rfl, hb3⟩
  have B3 := hide ((unhide B).trans (hb3.mono (unhide B).size))
  clear hb3 K3 HT2 B
  go_wp2
  go_ret
  exact ⟨rfl, unhide B3⟩

set_option maxRecDepth 20000 in
set_option maxHeartbeats 2000000 in
theorem timesSelf_n (a : Nat) (w : World) (hT : Tab w)
    (C1 : ∀ w', Calls Tryd.prog 21 #[.int .u64 a] w' fun r w'' => r = .returned (.bool false) ∧ w' = w'') :
    Calls Tryd.prog 8 #[.int .u64 a] w fun r w' => r = .returned (.bool true) ∧ Below w.heap.size w w' := by
  have K1 := hide C1
  have K3 := hide (fun w' t => awake6_any w' t)
  clear C1
  go_enter Tryd.func8, Tryd.ntmps8
  go_wp2_with fail
  refine (unhide K1 _).mono ?_
  rintro e wk ⟨rfl, rfl⟩
  go_wp2_with fail
  refine (unhide K3 _ hT).mono ?_
  rintro e w3 ⟨rfl, hb3⟩
  go_wp2
  go_ret
  exact ⟨rfl, hb3⟩

set_option maxRecDepth 20000 in
set_option maxHeartbeats 2000000 in
theorem timesSelf_z (a : Nat) (w : World) (hT : Tab w)
    (C1 : ∀ w', Calls Tryd.prog 21 #[.int .u64 a] w' fun r w'' => r = .returned (.bool true) ∧ w' = w'')
    (C2 : ∀ w', Calls Tryd.prog 22 #[.int .u64 a] w' fun r w'' => r = .returned (.int .i64 0) ∧ w' = w'') :
    Calls Tryd.prog 8 #[.int .u64 a] w fun r w' => r = .returned (.bool true) ∧ Below w.heap.size w w' := by
  have K1 := hide C1; have K2 := hide C2
  have K3 := hide (fun w' t => awake6_any w' t)
  clear C1 C2
  go_enter Tryd.func8, Tryd.ntmps8
  go_wp2_with fail
  refine (unhide K1 _).mono ?_
  rintro e wk ⟨rfl, rfl⟩
  go_wp2_with fail
  refine (unhide K2 _).mono ?_
  rintro e wk ⟨rfl, rfl⟩
  go_wp2_with fail
  refine (unhide K3 _ hT).mono ?_
  rintro e w3 ⟨rfl, hb3⟩
  go_wp2
  go_ret
  exact ⟨rfl, hb3⟩

set_option maxRecDepth 20000 in
set_option maxHeartbeats 2000000 in
theorem timesSelf_f (a : Nat) (k : Int) (w : World) (hk : (k == 0) = false) (hT : Tab w)
    (C1 : ∀ w', Calls Tryd.prog 21 #[.int .u64 a] w' fun r w'' => r = .returned (.bool true) ∧ w' = w'')
    (C2 : ∀ w', Calls Tryd.prog 22 #[.int .u64 a] w' fun r w'' => r = .returned (.int .i64 k) ∧ w' = w'')
    (C4 : ∀ w', Tab w' → Calls Tryd.prog 13 #[.int .u64 a, .int .u64 a] w' fun r w'' => r = .returned (.tuple #[.int .u64 4607182418800017408, .int .u8 0]) ∧ Below w'.heap.size w' w'')
    (C5 : ∀ w', Tab w' → Calls Tryd.prog 13 #[.int .u64 a, .int .u64 4607182418800017408] w' fun r w'' => r = .returned (.tuple #[.int .u64 a, .int .u8 0]) ∧ Below w'.heap.size w' w'')
    (C6 : ∀ w', Tab w' → Calls Tryd.prog 9 #[.int .u64 a, .int .u64 4607182418800017408] w' fun r w'' => r = .returned (.tuple #[.int .u64 a, .int .u8 0]) ∧ Below w'.heap.size w' w'') :
    Calls Tryd.prog 8 #[.int .u64 a] w fun r w' => r = .returned (.bool true) ∧ Below w.heap.size w w' := by
  have K1 := hide C1; have K2 := hide C2; have K4 := hide C4; have K5 := hide C5; have K6 := hide C6
  have K3 := hide (fun w' t => awake6_any w' t)
  clear C1 C2 C4 C5 C6
  go_enter Tryd.func8, Tryd.ntmps8
  go_wp2_with fail
  refine (unhide K1 _).mono ?_
  rintro e wk ⟨rfl, rfl⟩
  go_wp2_with fail
  refine (unhide K2 _).mono ?_
  rintro e wk ⟨rfl, rfl⟩
  go_wp2_with fail
  refine (unhide K4 _ hT).mono ?_
  rintro e w1 ⟨rfl, hb1⟩
  have B1 := hide hb1
  clear hb1 K4 K1 K2
  go_wp2_with fail
  refine (unhide K5 _ (hT.all (unhide B1))).mono ?_
  rintro e w2 ⟨rfl, hb1⟩
  have B2 := hide ((unhide B1).trans (hb1.mono (unhide B1).size))
  clear hb1 K5 B1
  go_wp2_with fail
  refine (unhide K6 _ (hT.all (unhide B2))).mono ?_
  rintro e w3 ⟨rfl, hb1⟩
  have B3 := hide ((unhide B2).trans (hb1.mono (unhide B2).size))
  clear hb1 K6 B2
  go_wp2_with fail
  refine (unhide K3 _ (hT.all (unhide B3))).mono ?_
  rintro e w4 ⟨rfl, hb1⟩
  have B4 := hide ((unhide B3).trans (hb1.mono (unhide B3).size))
  clear hb1 K3 B3
  go_wp2
  go_ret
  exact ⟨rfl, unhide B4⟩

theorem timesSelf_walk (a : Nat) (w : World) (ha : a < 18446744073709551616) (hT : Tab w) :
    Calls Tryd.prog 8 #[.int .u64 a] w fun r w' => r = .returned (.bool true) ∧ Below w.heap.size w w' := by
  have C1 := fun w' => rfinite_any a w' ha
  have C2 := fun w' => rkind_any a w' ha
  by_cases hf : fFin a = true
  · rw [hf] at C1
    by_cases h0 : fK a = 0
    · rw [h0] at C2
      exact timesSelf_z a w hT C1 C2
    · have C4 := fun w' t => tdiv_any a a w' ha ha t
      have C5 := fun w' t => tdiv_any a 4607182418800017408 w' ha (by decide) t
      have C6 := fun w' t => tmul_any a 4607182418800017408 w' ha (by decide) t
      rw [(div_self6 a ha hf h0).1, (div_self6 a ha hf h0).2] at C4
      rw [(div_one6 a ha hf h0).1, (div_one6 a ha hf h0).2] at C5
      rw [(mul_one6 a ha hf h0).1, (mul_one6 a ha hf h0).2] at C6
      exact timesSelf_f a _ w (by simp [h0]) hT C1 C2 C4 C5 C6
  · have hf' : fFin a = false := by cases h : fFin a <;> simp_all
    rw [hf'] at C1
    exact timesSelf_n a w hT C1

end Go.Proofs.YtibolacikaanpaaDoor

/- A struct of a sign and limbs that came in, opened. -/
namespace Go.Proofs.YtibolacikaanpaaDoor
open Go.ChangeShapes Go.WideShapes Go.ChangeAt Go.RowKit Go.Joins

theorem Tryd.own : ownKnob Tryd.prog.godebug = none := by kernel_rfl
theorem Tryd.laidOut : laidOutB Tryd.prog = true := by kernel_rfl
theorem Tryd.cellsW : Tryd.prog.cellsOf 44 = 2 := by kernel_rfl
theorem Tryd.cellsU : Tryd.prog.cellsOf 82 = 1 := by kernel_rfl
theorem Tryd.bytesU : Tryd.prog.bytesOf 82 = 4 := by kernel_rfl

theorem bounds_of_u32 {x : Int} (h : (Lit.int .u32 x).wf = true) : 0 ≤ x ∧ x < 4294967296 := by
  simp [Lit.wf, IntKind.min, IntKind.max, IntKind.signed, IntKind.bits] at h
  omega

theorem limbs_of_ints {W : World} {a : Addr} {len cap : Nat} {zs : List Int} (hl : len ≤ cap) (hz : zs.length = cap) (hc : ∀ i, i < zs.length → W.cell? (a.add i) = some (.int .u32 (zs.getD i 0))) (hw : ∀ n ∈ zs, (Lit.int .u32 n).wf = true) :
    LimbsAt W (some a) cap ((zs.take len).map Int.toNat) ∧ ((zs.take len).map Int.toNat).length = len := by
  have hlen : ((zs.take len).map Int.toNat).length = len := by simp; omega
  refine ⟨⟨by omega, ?_, ?_⟩, hlen⟩
  · intro x hx
    obtain ⟨y, hy, rfl⟩ := List.mem_map.1 hx
    have := bounds_of_u32 (hw y (List.mem_of_mem_take hy))
    omega
  · rcases Nat.eq_zero_or_pos len with rfl | hp
    · left; simp
    · right
      obtain ⟨b, off, spot⟩ := a
      have h0 := hc 0 (by omega)
      have hspot : spot = none := by simpa [Addr.add] using World.cell?_spot h0
      subst hspot
      have hb : b < W.heap.size := by
        have := World.block_lt_of_cell? W _ h0
        simpa [Addr.add] using this
      refine ⟨b, off, rfl, hb, fun i hi => ?_⟩
      have h1 := hc i (by omega)
      have h2 : (0 : Int) ≤ zs[i]'(by omega) := (bounds_of_u32 (hw _ (List.getElem_mem _))).1
      have h3 : (⟨b, off, none⟩ : Addr).add i = ⟨b, off + i, none⟩ := by simp [Addr.add]
      rw [h3] at h1
      rw [h1]
      have e : ((zs.take len).map Int.toNat)[i]?.getD 0 = (zs[i]'(by omega)).toNat := by
        rw [List.getElem?_map, List.getElem?_take, if_pos (by omega), List.getElem?_eq_getElem (by omega)]; rfl
      rw [e, List.getD_eq_getElem?_getD, List.getElem?_eq_getElem (by omega)]
      simp only [Option.getD_some, Option.some.injEq, Value.int.injEq, true_and]
      omega

set_option maxRecDepth 20000 in
/-- A number that came in: its sign, its limbs, where they lie; by the row's own reach they are not too many. -/
theorem open_whole {H : Type} {enc : TypeId × Value → H} {W : World} {base : Nat} {v : Value} {d : DataW H} {p : List MemPlace} (hval : Value.okWide Tryd.prog W .any base 44 v) (h : DataW.Trod enc Tryd.prog W 0 (fun _ => true) true 44 v d p)
    (hs : ∀ n ∈ d.weights Tryd.prog 44, n ≤ reachBytes) :
    ∃ neg ao cap L, v = .agg #[.bool neg, .slice ao L.length cap] ∧ LimbsAt W ao cap L ∧ L.length ≤ 35184372087808 := by
  obtain ⟨c0, c1, y0, y1, m, rfl, rfl, rfl, hy0, hy1⟩ := open_agg2 Tryd.underlying44 (by kernel_rfl) Tryd.cellsW hval h
  obtain ⟨neg, e0, rfl⟩ := DataW.trod_bool Tryd.underlying4 hy0
  simp at e0
  subst e0
  rcases open_ints Tryd.underlying42 Tryd.underlying82 Tryd.cellsU hy1 with ⟨hcs, _⟩ | ⟨a, len, cap, zs, hcs, _, hl, hm, hz, rfl, hcell, hwz⟩
  · simp at hcs
    subst hcs
    exact ⟨neg, none, 0, [], rfl, LimbsAt.nil _ _ _, by simp⟩
  · simp at hcs
    subst hcs
    obtain ⟨h1, h2⟩ := limbs_of_ints hl (by simpa using hz) hcell hwz
    refine ⟨neg, some a, cap, _, by rw [h2], h1, ?_⟩
    have hk := hs ((zs.length) * 4) (by
      simp only [DataW.weights, Tryd.underlying44, DataW.weightsEach, List.map, Tryd.underlying42, List.nil_append, List.append_nil, List.mem_cons, Tryd.bytesU, lits, List.length_map, List.length_take, List.length_drop]
      left
      omega)
    simp only [reachBytes] at hk
    rw [h2]
    have : zs.length = cap := by simpa using hz
    omega

end Go.Proofs.YtibolacikaanpaaDoor

/- The bounds of an int or int64 that came in. -/
namespace Go.Proofs.YtibolacikaanpaaDoor

theorem bounds_of_i64 {x : Int} (h : (Lit.int .i64 x).wf = true) : -9223372036854775808 ≤ x ∧ x ≤ 9223372036854775807 := by
  simp [Lit.wf, IntKind.min, IntKind.max, IntKind.signed, IntKind.bits] at h
  omega

end Go.Proofs.YtibolacikaanpaaDoor

/- A dyadic number that came in, opened; the library's table, as the row lays it. -/
namespace Go.Proofs.YtibolacikaanpaaDoor
open Go.ChangeShapes Go.WideShapes Go.ChangeAt Go.RowKit Go.Joins

theorem Tryd.cellsD : Tryd.prog.cellsOf 46 = 3 := by kernel_rfl
theorem Tryd.cellsI : Tryd.prog.cellsOf 3 = 1 := by kernel_rfl
theorem Tryd.cellsB : Tryd.prog.cellsOf 4 = 1 := by kernel_rfl
theorem Tryd.cellsS : Tryd.prog.cellsOf 42 = 1 := by kernel_rfl

theorem Tryd.tabName : Tryd.prog.globalNamed "math/bits.deBruijn32tab" = some 1 := by kernel_rfl
theorem Tryd.tabType : (Tryd.prog.globals[1]?).map (·.type) = some 107 := by kernel_rfl
theorem Tryd.tabCells : Tryd.prog.cellsOf 107 = 32 := by kernel_rfl
theorem Tryd.byteCells : Tryd.prog.cellsOf 5 = 1 := by kernel_rfl

theorem tab_getD : ∀ j, j < Lib.deBruijn32tab.length → (List.map Int.ofNat Lib.deBruijn32tab).getD j 0 = ((Lib.deBruijn32tab.getD j 0 : Nat) : Int) := by decide

/-- What the rows' list gives: the table's cells. -/
theorem tab_of_laid {W : World} (h : laidMetH Tryd.prog [("math/bits.deBruijn32tab", Rows.laid_math_bits_deBruijn32tab)] W) : Tab W := by
  have ht := Lib.tabIs_of_head (zs := Lib.deBruijn32tab.map Int.ofNat) (rest := []) Tryd.tabName Tryd.tabType Tryd.underlying107 Tryd.underlying5 Tryd.byteCells Tryd.tabCells h
  intro j hj
  have := ht.cell Tryd.tabName j (by simpa using hj)
  rw [this]
  congr 2
  exact tab_getD j hj

set_option maxRecDepth 20000 in
/-- A dyadic number that came in. -/
theorem open_dyadic {H : Type} {enc : TypeId × Value → H} {W : World} {base : Nat} {v : Value} {d : DataW H} {p : List MemPlace} (hval : Value.okWide Tryd.prog W .any base 46 v) (h : DataW.Trod enc Tryd.prog W 0 (fun _ => true) true 46 v d p)
    (hs : ∀ n ∈ d.weights Tryd.prog 46, n ≤ reachBytes) :
    ∃ (neg : Bool) (ao : Option Addr) (cap : Nat) (L : List Nat) (e : Int), v = .agg #[.bool neg, .slice ao L.length cap, .int .i64 e] ∧ LimbsAt W ao cap L ∧ L.length ≤ 35184372087808 ∧ (-9223372036854775808 ≤ e ∧ e ≤ 9223372036854775807) := by
  obtain ⟨cs, rfl, hsz⟩ := okWide_struct Tryd.underlying46 hval
  obtain ⟨c0, c1, c2, rfl⟩ := array3 (hsz.trans Tryd.cellsD)
  obtain ⟨fuel, hf⟩ := h
  obtain ⟨y0, y1, n, hx, _, h0, h1⟩ := trod_struct2 Tryd.underlying46 hf
  simp only [Prod.mk.injEq] at hx
  obtain ⟨rfl, rfl⟩ := hx
  have h0' : DataW.trod enc Tryd.prog W 0 (fun _ => true) true n 44 [c0, c1] = some y0 := by simpa [Value.cells, Tryd.cellsW] using h0
  have h1' : DataW.trod enc Tryd.prog W 0 (fun _ => true) true n 3 [c2] = some y1 := by simpa [Value.cells, Tryd.cellsI] using h1
  clear h0 h1
  obtain ⟨e, e1, e2, we⟩ := DataW.trod_int Tryd.underlying3 h1'
  simp at e1
  subst e1
  obtain ⟨z0, z1, m, hz, _, g0, g1⟩ := trod_struct2 Tryd.underlying44 h0'
  subst hz
  have g0' : DataW.trod enc Tryd.prog W 0 (fun _ => true) true m 4 [c0] = some z0 := by simpa [Tryd.cellsB] using g0
  have g1' : DataW.trod enc Tryd.prog W 0 (fun _ => true) true m 42 [c1] = some z1 := by simpa [Tryd.cellsS] using g1
  clear g0 g1
  obtain ⟨neg, e0, _⟩ := DataW.trod_bool Tryd.underlying4 g0'
  simp at e0
  subst e0
  have be := bounds_of_i64 we
  rcases open_ints Tryd.underlying42 Tryd.underlying82 Tryd.cellsU g1' with ⟨hcs, _⟩ | ⟨a, len, cap, zs, hcs, _, hl, hm, hzz, rfl, hcell, hwz⟩
  · simp at hcs
    subst hcs
    exact ⟨neg, none, 0, [], e, rfl, LimbsAt.nil _ _ _, by simp, be⟩
  · simp at hcs
    subst hcs
    obtain ⟨l1, l2⟩ := limbs_of_ints hl (by simpa using hzz) hcell hwz
    refine ⟨neg, some a, cap, _, e, by rw [l2], l1, ?_, be⟩
    have hk := hs ((zs.length) * 4) (by
      simp only [DataW.weights, Tryd.underlying46, Tryd.underlying44, DataW.weightsEach, List.map, Tryd.underlying42, List.append_nil, List.mem_cons, List.mem_append, Tryd.bytesU, lits, List.length_map, List.length_take, List.length_drop]
      refine .inl (.inr (.inl ?_))
      have : zs.length = cap := by simpa using hzz
      omega)
    simp only [reachBytes] at hk
    rw [l2]
    have : zs.length = cap := by simpa using hzz
    omega

end Go.Proofs.YtibolacikaanpaaDoor

/- Bits that came in. -/
namespace Go.Proofs.YtibolacikaanpaaDoor
open Go.ChangeShapes Go.WideShapes Go.ChangeAt Go.RowKit

theorem nat_of_u64 {n : Int} (h : (Lit.int .u64 n).wf = true) : ∃ m : Nat, n = (m : Int) ∧ m < 18446744073709551616 := by
  simp [Lit.wf, IntKind.min, IntKind.max, IntKind.signed, IntKind.bits] at h
  exact ⟨n.toNat, by omega, by omega⟩

end Go.Proofs.YtibolacikaanpaaDoor

